/-
  Facts and contracts that the laws share.
-/
import Derived.Test.YtfenmogbellhdaaGreatDoorBigY
namespace Go.Proofs.YtfenmogbellhdaaGreatDoor
open Go.RowKit

theorem zOf_lt {neg : Bool} {xs : List Int} {k : Nat} (h : xs.length ≤ k) : ((zOf neg xs).natAbs : Int) < pw k := by
  unfold zOf
  split
  · rename_i hv
    have h1 := val_bd (validB_iff.1 hv).2.2.2
    have h2 := pw_mono h
    split <;> omega
  · exact pw_pos k
theorem abs_add {a b : Int} {k : Nat} (ha : (a.natAbs : Int) < pw k) (hb : (b.natAbs : Int) < pw k) : ((a + b).natAbs : Int) < pw (k + 1) := by
  have := pw_succ k
  omega
theorem abs_sub {a b : Int} {k : Nat} (ha : (a.natAbs : Int) < pw k) (hb : (b.natAbs : Int) < pw k) : ((a + -b).natAbs : Int) < pw (k + 1) := by
  have := pw_succ k
  omega
theorem abs_mul {a b : Int} {j k : Nat} (ha : (a.natAbs : Int) < pw j) (hb : (b.natAbs : Int) < pw k) : ((a * b).natAbs : Int) < pw (j + k) := by
  rw [Int.natAbs_mul, Int.natCast_mul]
  exact pw_split_lt ha hb (by omega)
theorem fit_of {z : Int} {k : Nat} (h : (z.natAbs : Int) < pw k) (hk : k ≤ 200) : fitB z = true := by
  rw [fitB_iff]
  have := pw_mono hk
  omega
theorem cmp_sub (a b : Int) : cmpI (a + -b) 0 = cmpI a b := by
  unfold cmpI
  simp only [show (a + -b < 0) ↔ a < b by omega, show (0 < a + -b) ↔ b < a by omega]
theorem cmp_self (a : Int) : cmpI a a = 0 := cmpI_eq rfl
theorem cmp_ok (na nb : Bool) (A B : Option Addr) (n c m d : Nat) (xs ys : List Int) (za zb v : Int) (w : World) (ha : Sl w A n c xs) (hb : Sl w B m d ys) (hza : zOf na xs = za) (hzb : zOf nb ys = zb) (hv : cmpI za zb = v) :
    Calls Tryz.prog 63 #[.agg #[.bool na, .slice A n c], .agg #[.bool nb, .slice B m d]] w fun e w' => e = .returned (.int .i64 v) ∧ Below w.heap.size w w' := by
  have := cmp_big na nb A B n c m d xs ys w ha hb
  rw [hza, hzb, hv] at this
  exact this
theorem valid_ok (z : Int) (A : Option Addr) (n c : Nat) (w : World) (ha : Sl w A n c (lOf z)) (hf : fitB z = true) :
    Calls Tryz.prog 44 #[.agg #[.bool (nOf z), .slice A n c]] w fun e w' => e = .returned (.bool true) ∧ Below w.heap.size w w' := by
  have := valid_any (nOf z) A n c (lOf z) w ha
  rw [validB_lOf, hf] at this
  exact this
theorem zOf_zero : zOf false [] = 0 := by
  have := zOf_lOf fit_zero
  rwa [lOf_zero, nOf_zero] at this


theorem qr_facts (a b : Int) (hb : b ≠ 0) : a = b * qZ a b + rZ a b ∧ (0 < b → 0 ≤ rZ a b ∧ rZ a b < b) ∧ (b < 0 → b < rZ a b ∧ rZ a b ≤ 0) := by
  unfold qZ rZ
  rw [if_neg hb, if_neg hb]
  have e := Int.mul_fdiv_add_fmod a b
  refine ⟨by omega, fun h => ⟨Int.fmod_nonneg_of_pos a h, Int.fmod_lt_of_pos a h⟩, fun h => ?_⟩
  have e1 : a.fmod b = -((-a).fmod (-b)) := by rw [Int.neg_fmod_neg]; omega
  have h1 := Int.fmod_nonneg_of_pos (-a) (show 0 < -b by omega)
  have h2 := Int.fmod_lt_of_pos (-a) (show 0 < -b by omega)
  omega
theorem q_abs (a b : Int) (hb : b ≠ 0) : (qZ a b).natAbs ≤ a.natAbs := by
  obtain ⟨e, h1, h2⟩ := qr_facts a b hb
  generalize qZ a b = q at *
  generalize rZ a b = r at *
  have hr : r.natAbs < b.natAbs := by
    rcases Int.lt_or_gt_of_ne hb with h | h
    · have := h2 h; omega
    · have := h1 h; omega
  refine Nat.not_lt.1 fun hlt => ?_
  have m1 : b.natAbs * (a.natAbs + 1) ≤ b.natAbs * q.natAbs := Nat.mul_le_mul_left _ hlt
  rw [← Int.natAbs_mul] at m1
  have m2 : (b * q).natAbs ≤ a.natAbs + r.natAbs := by omega
  have m3 : 1 * a.natAbs ≤ b.natAbs * a.natAbs := Nat.mul_le_mul_right _ (by omega)
  rw [Nat.mul_add, Nat.mul_one] at m1
  omega
theorem r_abs (a b : Int) (hb : b ≠ 0) : (rZ a b).natAbs < b.natAbs := by
  obtain ⟨_, h1, h2⟩ := qr_facts a b hb
  rcases Int.lt_or_gt_of_ne hb with h | h
  · have := h2 h; omega
  · have := h1 h; omega
theorem gZ_dvd (a b : Int) : gZ a b ∣ a ∧ gZ a b ∣ b := ⟨Int.ofNat_dvd_left.2 (Nat.gcd_dvd_left _ _), Int.ofNat_dvd_left.2 (Nat.gcd_dvd_right _ _)⟩
theorem gZ_pos {a b : Int} (hb : b ≠ 0) : 0 < gZ a b := by
  unfold gZ
  have := Nat.gcd_pos_of_pos_right a.natAbs (show 0 < b.natAbs by omega)
  omega
theorem gZ_le {a b : Int} (hb : b ≠ 0) : (gZ a b).natAbs ≤ b.natAbs := by
  unfold gZ
  have := Nat.gcd_le_right a.natAbs (show 0 < b.natAbs by omega)
  omega
theorem rZ_dvd {a g : Int} (h : g ∣ a) : rZ a g = 0 := by
  unfold rZ
  split
  · rfl
  · exact Int.fmod_eq_zero_of_dvd h
theorem nOf_nonneg {z : Int} (h : 0 ≤ z) : nOf z = false := decide_eq_false (by omega)
theorem nOf_neg {z : Int} (h : z < 0) : nOf z = true := decide_eq_true h
theorem Sl.zero_len {w : World} {A : Option Addr} {n c : Nat} {z : Int} (h : Sl w A n c (lOf z)) (hz : z = 0) : n = 0 := by
  subst hz
  have := h.len
  rw [lOf_zero] at this
  simpa using this.symm
/-- A number whose digits are none. -/
theorem zero_ok (na nb : Bool) (A B : Option Addr) (n c m d : Nat) (xs ys : List Int) (za zb : Int) (w : World) (ha : Sl w A n c xs) (hb : Sl w B m d ys) (hza : zOf na xs = za) (hzb : zOf nb ys = zb) (h0 : zb = 0) :
    Calls Tryz.prog 51 #[.agg #[.bool na, .slice A n c], .agg #[.bool nb, .slice B m d]] w fun e w' => ∃ T t U s, e = .returned (.tuple #[.agg #[.bool false, .slice T 0 t], .agg #[.bool false, .slice U 0 s], .bool false]) ∧ Sl w' T 0 t [] ∧ Sl w' U 0 s [] ∧ Below w.heap.size w w' := by
  subst h0
  refine (div_big na nb A B n c m d xs ys w ha hb).mono ?_
  rintro e w' ⟨T, k, t, U, l, s, he, h1, h2, h3⟩
  rw [hza, hzb, (qr_zero za).1] at h1
  rw [hza, hzb, (qr_zero za).2] at h2
  obtain rfl : k = 0 := h1.zero_len rfl
  obtain rfl : l = 0 := h2.zero_len rfl
  rw [hza, hzb, (qr_zero za).1, (qr_zero za).2, nOf_zero] at he
  rw [lOf_zero] at h1 h2
  exact ⟨T, t, U, s, he, h1, h2, h3⟩
/-- Div where nothing is left. -/
theorem exact_ok (na nb : Bool) (A B : Option Addr) (n c m d : Nat) (xs ys : List Int) (za zb q : Int) (w : World) (ha : Sl w A n c xs) (hb : Sl w B m d ys) (hza : zOf na xs = za) (hzb : zOf nb ys = zb) (hq : qZ za zb = q) (hr : rZ za zb = 0) (h0 : (zb != 0) = true) :
    Calls Tryz.prog 51 #[.agg #[.bool na, .slice A n c], .agg #[.bool nb, .slice B m d]] w fun e w' => ∃ T k t U s, e = .returned (.tuple #[.agg #[.bool (nOf q), .slice T k t], .agg #[.bool false, .slice U 0 s], .bool true]) ∧ Sl w' T k t (lOf q) ∧ Sl w' U 0 s [] ∧ Below w.heap.size w w' := by
  refine (div_ok na nb A B n c m d xs ys za zb q 0 w ha hb hza hzb hq hr h0).mono ?_
  rintro e w' ⟨T, k, t, U, l, s, he, h1, h2, h3⟩
  obtain rfl : l = 0 := h2.zero_len rfl
  rw [nOf_zero] at he
  rw [lOf_zero] at h2
  exact ⟨T, k, t, U, s, he, h1, h2, h3⟩
end Go.Proofs.YtfenmogbellhdaaGreatDoor
