/-
  Contracts of big's functions at numbers in their form.
-/
import Derived.Test.YtfenmogbellhdaaGreatDoorRatMath
import Derived.Test.YtfenmogbellhdaaGreatDoorRatB
import Derived.Test.YtfenmogbellhdaaGreatDoorBigH
import Derived.Test.YtfenmogbellhdaaGreatDoorBigU
namespace Go.Proofs.YtfenmogbellhdaaGreatDoor
open Go.RowKit

theorem cmp_z (p q : Int) (A B : Option Addr) (n c m d : Nat) (w : World) (ha : Sl w A n c (lOf p)) (hb : Sl w B m d (lOf q)) (hp : fitB p = true) (hq : fitB q = true) :
    Calls Tryz.prog 63 #[.agg #[.bool (nOf (p)), .slice A n c], .agg #[.bool (nOf (q)), .slice B m d]] w fun e w' => e = .returned (.int .i64 (cmpI p q)) ∧ Below w.heap.size w w' := by
  have h := cmp_big (nOf p) (nOf q) A B n c m d (lOf p) (lOf q) w ha hb
  rw [zOf_lOf hp, zOf_lOf hq] at h
  exact h
theorem add_z (p q : Int) (A B : Option Addr) (n c m d : Nat) (w : World) (ha : Sl w A n c (lOf p)) (hb : Sl w B m d (lOf q)) (hp : fitB p = true) (hq : fitB q = true) :
    Calls Tryz.prog 81 #[.agg #[.bool (nOf (p)), .slice A n c], .agg #[.bool (nOf (q)), .slice B m d]] w fun e w' => ∃ T k r, e = .returned (.tuple #[.agg #[.bool (nOf (fitZ (p + q))), .slice T k r], .bool (fitB (p + q))]) ∧ Sl w' T k r (lOf (fitZ (p + q))) ∧ Below w.heap.size w w' := by
  have h := add_big (nOf p) (nOf q) A B n c m d (lOf p) (lOf q) w ha hb
  rw [zOf_lOf hp, zOf_lOf hq] at h
  exact h
theorem sub_z (p q : Int) (A B : Option Addr) (n c m d : Nat) (w : World) (ha : Sl w A n c (lOf p)) (hb : Sl w B m d (lOf q)) (hp : fitB p = true) (hq : fitB q = true) :
    Calls Tryz.prog 52 #[.agg #[.bool (nOf (p)), .slice A n c], .agg #[.bool (nOf (q)), .slice B m d]] w fun e w' => ∃ T k r, e = .returned (.tuple #[.agg #[.bool (nOf (fitZ (p - q))), .slice T k r], .bool (fitB (p - q))]) ∧ Sl w' T k r (lOf (fitZ (p - q))) ∧ Below w.heap.size w w' := by
  have h := sub_big (nOf p) (nOf q) A B n c m d (lOf p) (lOf q) w ha hb
  rw [zOf_lOf hp, zOf_lOf hq] at h
  rw [← Int.sub_eq_add_neg] at h
  exact h
theorem mul_z (p q : Int) (A B : Option Addr) (n c m d : Nat) (w : World) (ha : Sl w A n c (lOf p)) (hb : Sl w B m d (lOf q)) (hp : fitB p = true) (hq : fitB q = true) :
    Calls Tryz.prog 75 #[.agg #[.bool (nOf (p)), .slice A n c], .agg #[.bool (nOf (q)), .slice B m d]] w fun e w' => ∃ T k r, e = .returned (.tuple #[.agg #[.bool (nOf (fitZ (p * q))), .slice T k r], .bool (fitB (p * q))]) ∧ Sl w' T k r (lOf (fitZ (p * q))) ∧ Below w.heap.size w w' := by
  have h := mul_big (nOf p) (nOf q) A B n c m d (lOf p) (lOf q) w ha hb
  rw [zOf_lOf hp, zOf_lOf hq] at h
  exact h
theorem gcd_z (p q : Int) (A B : Option Addr) (n c m d : Nat) (w : World) (ha : Sl w A n c (lOf p)) (hb : Sl w B m d (lOf q)) (hp : fitB p = true) (hq : fitB q = true) :
    Calls Tryz.prog 50 #[.agg #[.bool (nOf (p)), .slice A n c], .agg #[.bool (nOf (q)), .slice B m d]] w fun e w' => ∃ T k r, e = .returned (.agg #[.bool (nOf (gZ p q)), .slice T k r]) ∧ Sl w' T k r (lOf (gZ p q)) ∧ Below w.heap.size w w' := by
  have h := gcd_big (nOf p) (nOf q) A B n c m d (lOf p) (lOf q) w ha hb
  rw [zOf_lOf hp, zOf_lOf hq] at h
  exact h
theorem div_z (p q : Int) (A B : Option Addr) (n c m d : Nat) (w : World) (ha : Sl w A n c (lOf p)) (hb : Sl w B m d (lOf q)) (hp : fitB p = true) (hq : fitB q = true) :
    Calls Tryz.prog 51 #[.agg #[.bool (nOf (p)), .slice A n c], .agg #[.bool (nOf (q)), .slice B m d]] w fun e w' => ∃ T k r U l s, e = .returned (.tuple #[.agg #[.bool (nOf (qZ p q)), .slice T k r], .agg #[.bool (nOf (rZ p q)), .slice U l s], .bool (q != 0)]) ∧ Sl w' T k r (lOf (qZ p q)) ∧ Sl w' U l s (lOf (rZ p q)) ∧ Below w.heap.size w w' := by
  have h := div_big (nOf p) (nOf q) A B n c m d (lOf p) (lOf q) w ha hb
  rw [zOf_lOf hp, zOf_lOf hq] at h
  exact h
theorem quot_z (p q : Int) (A B : Option Addr) (n c m d : Nat) (w : World) (ha : Sl w A n c (lOf p)) (hb : Sl w B m d (lOf q)) (hp : fitB p = true) (hq : fitB q = true) :
    Calls Tryz.prog 38 #[.agg #[.bool (nOf (p)), .slice A n c], .agg #[.bool (nOf (q)), .slice B m d]] w fun e w' => ∃ T k r, e = .returned (.agg #[.bool (nOf (qZ q p)), .slice T k r]) ∧ Sl w' T k r (lOf (qZ q p)) ∧ Below w.heap.size w w' := by
  have h := quot_any (nOf p) (nOf q) A B n c m d (lOf p) (lOf q) w ha hb
  rw [zOf_lOf hp, zOf_lOf hq] at h
  exact h
theorem rest_z (p q : Int) (A B : Option Addr) (n c m d : Nat) (w : World) (ha : Sl w A n c (lOf p)) (hb : Sl w B m d (lOf q)) (hp : fitB p = true) (hq : fitB q = true) :
    Calls Tryz.prog 83 #[.agg #[.bool (nOf (p)), .slice A n c], .agg #[.bool (nOf (q)), .slice B m d]] w fun e w' => ∃ T k r, e = .returned (.agg #[.bool (nOf (rZ q p)), .slice T k r]) ∧ Sl w' T k r (lOf (rZ q p)) ∧ Below w.heap.size w w' := by
  have h := rest_any (nOf p) (nOf q) A B n c m d (lOf p) (lOf q) w ha hb
  rw [zOf_lOf hp, zOf_lOf hq] at h
  exact h
theorem neg_z (p : Int) (A : Option Addr) (n c : Nat) (w : World) (ha : Sl w A n c (lOf p)) (hp : fitB p = true) :
    Calls Tryz.prog 41 #[.agg #[.bool (nOf p), .slice A n c]] w fun e w' => ∃ T k r, e = .returned (.agg #[.bool (nOf (-p)), .slice T k r]) ∧ Sl w' T k r (lOf (-p)) ∧ Below w.heap.size w w' := by
  have h := neg_big (nOf p) A n c (lOf p) w ha
  rw [zOf_lOf hp] at h
  exact h
theorem sign_z (p : Int) (A : Option Addr) (n c : Nat) (w : World) (ha : Sl w A n c (lOf p)) (hp : fitB p = true) :
    Calls Tryz.prog 45 #[.agg #[.bool (nOf p), .slice A n c]] w fun e w' => e = .returned (.int .i64 (cmpI p 0)) ∧ Below w.heap.size w w' := by
  have h := sign_any (nOf p) A n c (lOf p) w ha
  rw [zOf_lOf hp] at h
  exact h
theorem form_inj {p q : Int} (h1 : nOf p = nOf q) (h2 : lOf p = lOf q) : p = q := by
  have h3 := congrArg val h2
  rw [val_lOf, val_lOf] at h3
  have h4 : (p < 0 ↔ q < 0) := by
    unfold nOf at h1
    have := decide_eq_decide.1 h1
    exact this
  omega
theorem form_eq (p q : Int) : (nOf p == nOf q && lOf p == lOf q) = decide (p = q) := by
  by_cases h : p = q
  · subst h; simp
  · rw [decide_eq_false h]
    cases h1 : (nOf p == nOf q) with
    | false => rfl
    | true =>
      cases h2 : (lOf p == lOf q) with
      | false => rfl
      | true => exact absurd (form_inj (beq_iff_eq.1 h1) (beq_iff_eq.1 h2)) h
theorem same_z (p q : Int) (A B : Option Addr) (n c m d : Nat) (w : World) (ha : Sl w A n c (lOf p)) (hb : Sl w B m d (lOf q)) :
    Calls Tryz.prog 36 #[.agg #[.bool (nOf p), .slice A n c], .agg #[.bool (nOf q), .slice B m d]] w fun e w' => e = .returned (.bool (decide (p = q))) ∧ Below w.heap.size w w' := by
  have h := rat_same (nOf p) (nOf q) A B n c m d (lOf p) (lOf q) w ha hb
  rw [form_eq] at h
  exact h
end Go.Proofs.YtfenmogbellhdaaGreatDoor
