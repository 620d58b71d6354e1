/-
  Contracts of num.Gcd and its parts.
-/
import Derived.Test.YtfenmogbellhdaaDoorNumMath
import Derived.Test.YtfenmogbellhdaaDoorBigG
namespace Go.Proofs.YtfenmogbellhdaaDoor
open Go.RowKit

theorem mag_pos (n : Int) (w : World) (h : 0 ≤ n) : Calls Tryd.prog 130 #[.int .i64 n] w fun e w' => e = .returned (.int .i64 n) ∧ w = w' := by
  go_enter Tryd.func130, Tryd.ntmps130
  go_wp2_with fail
  go_ret
  exact ⟨rfl, rfl⟩
theorem mag_neg (n : Int) (w : World) (h : n < 0) (h2 : -9223372036854775808 < n) : Calls Tryd.prog 130 #[.int .i64 n] w fun e w' => e = .returned (.int .i64 (-n)) ∧ w = w' := by
  go_enter Tryd.func130, Tryd.ntmps130
  go_wp2_with fail
  go_ret
  exact ⟨rfl, rfl⟩
theorem mag_least (w : World) : Calls Tryd.prog 130 #[.int .i64 (-9223372036854775808)] w fun e w' => e = .returned (.int .i64 1000000000000) ∧ w = w' := by
  go_enter Tryd.func130, Tryd.ntmps130
  go_wp2_with fail
  go_ret
  exact ⟨rfl, rfl⟩

/-- The greatest common divisor of two numbers that are not negative. -/
def gcdI (a b : Int) : Int := (Nat.gcd a.toNat b.toNat : Nat)
theorem gcdV_eq (a b : Int) : gcdV a b = gcdI (mag a) (mag b) := rfl
theorem gcdI_zero {a : Int} (ha : 0 ≤ a) : a = gcdI a 0 := by
  unfold gcdI
  simp
  omega
theorem gcdI_step {a b : Int} (ha : 0 ≤ a) (hb : 0 < b) : gcdI b (a % b) = gcdI a b := by
  unfold gcdI
  rw [Int.toNat_emod ha (by omega), Nat.gcd_comm a.toNat, Nat.gcd_rec b.toNat a.toNat, Nat.gcd_comm]
theorem gcdI_bd {a b : Int} (_ha : 0 ≤ a) (hb : 0 < b) : 0 ≤ gcdI a b ∧ gcdI a b ≤ b := by
  unfold gcdI
  have : Nat.gcd a.toNat b.toNat ≤ b.toNat := Nat.gcd_le_right _ (by omega)
  omega

theorem euclid_any (k : Nat) : ∀ (a b : Int) (w : World), b ≤ k → 0 ≤ a → a ≤ 9223372036854775807 → 0 ≤ b → b ≤ 9223372036854775807 →
    Calls Tryd.prog 129 #[.int .i64 a, .int .i64 b] w fun e w' => e = .returned (.int .i64 (gcdI a b)) ∧ w = w' := by
  induction k with
  | zero =>
    intro a b w hk h1 h2 h3 _
    obtain rfl : b = 0 := by omega
    have H := Lib.hid (gcdI_zero h1)
    clear h3 hk
    go_enter Tryd.func129, Tryd.ntmps129
    go_wp2_with fail
    go_ret
    exact ⟨ret_int H.out, rfl⟩
  | succ k ih =>
    intro a b w hk h1 h2 h3 h4
    by_cases hb : b = 0
    · subst hb
      have H := Lib.hid (gcdI_zero h1)
      clear h3 hk
      go_enter Tryd.func129, Tryd.ntmps129
      go_wp2_with fail
      go_ret
      exact ⟨ret_int H.out, rfl⟩
    · have hlt : a % b < b := Int.emod_lt_of_pos a (by omega)
      have hge : 0 ≤ a % b := Int.emod_nonneg a hb
      have H := Lib.hid (gcdI_step h1 (b := b) (by omega))
      have IH := Lib.hid ih
      clear ih
      have hb1 : 1 ≤ b := by omega
      go_enter Tryd.func129, Tryd.ntmps129
      go_wp2_with fail
      refine (IH.out b (a % b) _ (by omega) (by omega) (by omega) (by omega) (by omega)).mono ?_
      rintro e w' ⟨rfl, rfl⟩
      go_wp2_with fail
      go_ret
      exact ⟨ret_int H.out, rfl⟩

theorem mag_any (n : Int) (w : World) (h1 : -9223372036854775808 ≤ n) : Calls Tryd.prog 130 #[.int .i64 n] w fun e w' => e = .returned (.int .i64 (mag n)) ∧ w = w' := by
  unfold mag
  by_cases h : n = -9223372036854775808
  · subst h
    rw [if_pos rfl]
    exact mag_least w
  · rw [if_neg h]
    by_cases hn : n < 0
    · rw [if_pos hn]
      exact mag_neg n w hn (by omega)
    · rw [if_neg hn]
      exact mag_pos n w (by omega)

theorem gcd_any (a b : Int) (w : World) (h1 : -9223372036854775808 ≤ a) (h2 : a ≤ 9223372036854775807) (h3 : -9223372036854775808 ≤ b) (h4 : b ≤ 9223372036854775807) :
    Calls Tryd.prog 78 #[.int .i64 a, .int .i64 b] w fun e w' => e = .returned (.int .i64 (gcdV a b)) ∧ w = w' := by
  obtain ⟨m1, m2⟩ := mag_in h1 h2
  obtain ⟨m3, m4⟩ := mag_in h3 h4
  go_enter Tryd.func78, Tryd.ntmps78
  go_wp2_with fail
  (refine (mag_any a _ h1).mono ?_; rintro e w' ⟨rfl, rfl⟩)
  go_wp2_with fail
  (refine (mag_any b _ h3).mono ?_; rintro e w' ⟨rfl, rfl⟩)
  go_wp2_with fail
  (refine (euclid_any (mag b).toNat (mag a) (mag b) _ (by omega) m1 m2 m3 m4).mono ?_; rintro e w' ⟨rfl, rfl⟩)
  go_wp2_with fail
  go_ret
  exact ⟨ret_int (gcdV_eq a b).symm, rfl⟩


end Go.Proofs.YtfenmogbellhdaaDoor
