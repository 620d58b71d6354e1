/-
  Contracts of Gcd (of the program and of the reference): for every two ints, in every world, with the same answers.
-/
import Derived.Test.YthbendnhpjfenaaDoorNumB
import Derived.LoopTactic
import Derived.Outline
namespace Go.Proofs.YthbendnhpjfenaaDoor
open Go.RowKit

/-- The greatest common divisor of two numbers that are not negative. -/
def gcdI (a b : Int) : Int := (Nat.gcd a.toNat b.toNat : Nat)
theorem gcdV_eq (a b : Int) : gcdV a b = gcdI (mag a) (mag b) := rfl
theorem gcdI_zero {a : Int} (ha : 0 ≤ a) : a = gcdI a 0 := by
  unfold gcdI
  simp
  omega
theorem gcdI_step {a b : Int} (ha : 0 ≤ a) (hb : 0 < b) : gcdI b (a % b) = gcdI a b := by
  unfold gcdI
  rw [Int.toNat_emod ha (by omega), Nat.gcd_comm a.toNat, Nat.gcd_rec b.toNat a.toNat, Nat.gcd_comm]
theorem gcdI_bd {a b : Int} (_ha : 0 ≤ a) (hb : 0 < b) : 0 ≤ gcdI a b ∧ gcdI a b ≤ b := by
  unfold gcdI
  have : Nat.gcd a.toNat b.toNat ≤ b.toNat := Nat.gcd_le_right _ (by omega)
  omega

theorem euclid_any (k : Nat) : ∀ (a b : Int) (w : World), b ≤ k → 0 ≤ a → a ≤ 9223372036854775807 → 0 ≤ b → b ≤ 9223372036854775807 →
    Calls Tryd.prog 33 #[.int .i64 a, .int .i64 b] w fun e w' => e = .returned (.int .i64 (gcdI a b)) ∧ w = w' := by
  induction k with
  | zero =>
    intro a b w hk h1 h2 h3 _
    obtain rfl : b = 0 := by omega
    have H := Lib.hid (gcdI_zero h1)
    clear h3 hk
    go_enter Tryd.func33, Tryd.ntmps33
    go_wp2_with fail
    go_ret
    exact ⟨ret_int H.out, rfl⟩
  | succ k ih =>
    intro a b w hk h1 h2 h3 h4
    by_cases hb : b = 0
    · subst hb
      have H := Lib.hid (gcdI_zero h1)
      clear h3 hk
      go_enter Tryd.func33, Tryd.ntmps33
      go_wp2_with fail
      go_ret
      exact ⟨ret_int H.out, rfl⟩
    · have hlt : a % b < b := Int.emod_lt_of_pos a (by omega)
      have hge : 0 ≤ a % b := Int.emod_nonneg a hb
      have H := Lib.hid (gcdI_step h1 (b := b) (by omega))
      have IH := Lib.hid ih
      clear ih
      have hb1 : 1 ≤ b := by omega
      go_enter Tryd.func33, Tryd.ntmps33
      go_wp2_with fail
      refine (IH.out b (a % b) _ (by omega) (by omega) (by omega) (by omega) (by omega)).mono ?_
      rintro e w' ⟨rfl, rfl⟩
      go_wp2_with fail
      go_ret
      exact ⟨ret_int H.out, rfl⟩

theorem mag_any (n : Int) (w : World) (h1 : -9223372036854775808 ≤ n) : Calls Tryd.prog 30 #[.int .i64 n] w fun e w' => e = .returned (.int .i64 (mag n)) ∧ w = w' := by
  unfold mag
  by_cases h : n = -9223372036854775808
  · subst h
    rw [if_pos rfl]
    exact mag_least w
  · rw [if_neg h]
    by_cases hn : n < 0
    · rw [if_pos hn]
      exact mag_neg n w hn (by omega)
    · rw [if_neg hn]
      exact mag_pos n w (by omega)

theorem gcd_any (a b : Int) (w : World) (h1 : -9223372036854775808 ≤ a) (h2 : a ≤ 9223372036854775807) (h3 : -9223372036854775808 ≤ b) (h4 : b ≤ 9223372036854775807) :
    Calls Tryd.prog 22 #[.int .i64 a, .int .i64 b] w fun e w' => e = .returned (.int .i64 (gcdV a b)) ∧ w = w' := by
  obtain ⟨m1, m2⟩ := mag_in h1 h2
  obtain ⟨m3, m4⟩ := mag_in h3 h4
  go_enter Tryd.func22, Tryd.ntmps22
  go_wp2_with fail
  (refine (mag_any a _ h1).mono ?_; rintro e w' ⟨rfl, rfl⟩)
  go_wp2_with fail
  (refine (mag_any b _ h3).mono ?_; rintro e w' ⟨rfl, rfl⟩)
  go_wp2_with fail
  (refine (euclid_any (mag b).toNat (mag a) (mag b) _ (by omega) m1 m2 m3 m4).mono ?_; rintro e w' ⟨rfl, rfl⟩)
  go_wp2_with fail
  go_ret
  exact ⟨ret_int (gcdV_eq a b).symm, rfl⟩

/-! ### The reference's -/

theorem size_least (w : World) : Calls Tryd.prog 34 #[.int .i64 (-9223372036854775808)] w fun e w' => e = .returned (.int .i64 1000000000000) ∧ w = w' := by
  go_enter Tryd.func34, Tryd.ntmps34
  go_wp2_with fail
  go_ret
  exact ⟨rfl, rfl⟩
theorem size_neg (n : Int) (w : World) (h : n < 0) (h2 : -9223372036854775808 < n) : Calls Tryd.prog 34 #[.int .i64 n] w fun e w' => e = .returned (.int .i64 (-n)) ∧ w = w' := by
  go_enter Tryd.func34, Tryd.ntmps34
  go_wp2_with fail
  go_ret
  exact ⟨rfl, rfl⟩
theorem size_pos (n : Int) (w : World) (h : 0 ≤ n) : Calls Tryd.prog 34 #[.int .i64 n] w fun e w' => e = .returned (.int .i64 n) ∧ w = w' := by
  go_enter Tryd.func34, Tryd.ntmps34
  go_wp2_with fail
  go_ret
  exact ⟨rfl, rfl⟩
theorem size_any (n : Int) (w : World) (h1 : -9223372036854775808 ≤ n) : Calls Tryd.prog 34 #[.int .i64 n] w fun e w' => e = .returned (.int .i64 (mag n)) ∧ w = w' := by
  unfold mag
  by_cases h : n = -9223372036854775808
  · subst h
    rw [if_pos rfl]
    exact size_least w
  · rw [if_neg h]
    by_cases hn : n < 0
    · rw [if_pos hn]
      exact size_neg n w hn (by omega)
    · rw [if_neg hn]
      exact size_pos n w (by omega)

theorem rgcd_any (a b : Int) (w : World) (h1 : -9223372036854775808 ≤ a) (h2 : a ≤ 9223372036854775807) (h3 : -9223372036854775808 ≤ b) (h4 : b ≤ 9223372036854775807) :
    Calls Tryd.prog 23 #[.int .i64 a, .int .i64 b] w fun e w' => e = .returned (.int .i64 (gcdV a b)) ∧ w = w' := by
  have m := mag_in h1 h2
  have m' := mag_in h3 h4
  have E := Lib.hid (gcdV_eq a b)
  go_enter Tryd.func23, Tryd.ntmps23
  go_wp2_with fail
  (refine (size_any a _ h1).mono ?_; rintro e w' ⟨rfl, rfl⟩)
  go_wp2_with fail
  (refine (size_any b _ h3).mono ?_; rintro e w' ⟨rfl, rfl⟩)
  go_wp2_with fail
  go_loop [0, 1] (fun x y => ∃ p q : Int, 0 ≤ p ∧ p ≤ 9223372036854775807 ∧ 0 ≤ q ∧ q ≤ 9223372036854775807 ∧ x = .int .i64 p ∧ y = .int .i64 q ∧ gcdI p q = gcdV a b) (fun _ y => (intOf y).toNat)
  case atStart => exact ⟨_, _, m.1, m.2, m'.1, m'.2, rfl, rfl, E.out.symm⟩
  case round =>
    obtain ⟨p, q, p1, p2, q1, q2, rfl, rfl, hg⟩ := hrel
    have G := Lib.hid hg
    clear hg
    by_cases hq : 0 < q
    · have hlt : p % q < q := Int.emod_lt_of_pos p hq
      have hge : 0 ≤ p % q := Int.emod_nonneg p (by omega)
      have S := Lib.hid (gcdI_step p1 hq)
      go_wp2_with fail
      go_round
      case rel => exact ⟨q, p % q, by omega, by omega, hge, by omega, rfl, rfl, S.out.trans G.out⟩
      case measure => simp [intOf]; omega
    · obtain rfl : q = 0 := by omega
      have Z := Lib.hid (gcdI_zero p1)
      clear q1 q2 hq
      go_wp2_with fail
      go_ret
      exact ⟨ret_int (Z.out.trans G.out), rfl⟩
end Go.Proofs.YthbendnhpjfenaaDoor
