/-
  Contracts of num.In and num.Gcd, and of the program's Int.
-/
import Derived.Test.YtfkfbomllkpjjaaDoorNumMath
import Derived.Test.YtfkfbomllkpjjaaDoorBigG
namespace Go.Proofs.YtfkfbomllkpjjaaDoor
open Go.RowKit

theorem in_any (n : Int) (w : World) : Calls Tryd.prog 40 #[.int .i64 n] w fun e w' => e = .returned (.bool (inB n)) ∧ w = w' := by
  by_cases h1 : -1000000000000 ≤ n
  · by_cases h2 : n ≤ 1000000000000
    · have H := Lib.hid (inB_yes h1 h2)
      go_enter Tryd.func40, Tryd.ntmps40
      go_wp2
      go_ret
      exact ⟨ret_bool H.out.symm, rfl⟩
    · have H := Lib.hid (inB_no (n := n) (by omega))
      go_enter Tryd.func40, Tryd.ntmps40
      go_wp2
      go_ret
      exact ⟨ret_bool H.out.symm, rfl⟩
  · have H := Lib.hid (inB_no (n := n) (by omega))
    go_enter Tryd.func40, Tryd.ntmps40
    go_wp2
    go_ret
    exact ⟨ret_bool H.out.symm, rfl⟩

theorem mag_pos (n : Int) (w : World) (h : 0 ≤ n) : Calls Tryd.prog 73 #[.int .i64 n] w fun e w' => e = .returned (.int .i64 n) ∧ w = w' := by
  go_enter Tryd.func73, Tryd.ntmps73
  go_wp2_with fail
  go_ret
  exact ⟨rfl, rfl⟩
theorem mag_neg (n : Int) (w : World) (h : n < 0) (h2 : -9223372036854775808 < n) : Calls Tryd.prog 73 #[.int .i64 n] w fun e w' => e = .returned (.int .i64 (-n)) ∧ w = w' := by
  go_enter Tryd.func73, Tryd.ntmps73
  go_wp2_with fail
  go_ret
  exact ⟨rfl, rfl⟩
theorem mag_least (w : World) : Calls Tryd.prog 73 #[.int .i64 (-9223372036854775808)] w fun e w' => e = .returned (.int .i64 1000000000000) ∧ w = w' := by
  go_enter Tryd.func73, Tryd.ntmps73
  go_wp2_with fail
  go_ret
  exact ⟨rfl, rfl⟩

/-- The greatest common divisor of two numbers that are not negative. -/
def gcdI (a b : Int) : Int := (Nat.gcd a.toNat b.toNat : Nat)
theorem gcdV_eq (a b : Int) : gcdV a b = gcdI (mag a) (mag b) := rfl
theorem gcdI_zero {a : Int} (ha : 0 ≤ a) : a = gcdI a 0 := by
  unfold gcdI
  simp
  omega
theorem gcdI_step {a b : Int} (ha : 0 ≤ a) (hb : 0 < b) : gcdI b (a % b) = gcdI a b := by
  unfold gcdI
  rw [Int.toNat_emod ha (by omega), Nat.gcd_comm a.toNat, Nat.gcd_rec b.toNat a.toNat, Nat.gcd_comm]
theorem gcdI_bd {a b : Int} (_ha : 0 ≤ a) (hb : 0 < b) : 0 ≤ gcdI a b ∧ gcdI a b ≤ b := by
  unfold gcdI
  have : Nat.gcd a.toNat b.toNat ≤ b.toNat := Nat.gcd_le_right _ (by omega)
  omega

theorem euclid_any (k : Nat) : ∀ (a b : Int) (w : World), b ≤ k → 0 ≤ a → a ≤ 9223372036854775807 → 0 ≤ b → b ≤ 9223372036854775807 →
    Calls Tryd.prog 72 #[.int .i64 a, .int .i64 b] w fun e w' => e = .returned (.int .i64 (gcdI a b)) ∧ w = w' := by
  induction k with
  | zero =>
    intro a b w hk h1 h2 h3 _
    obtain rfl : b = 0 := by omega
    have H := Lib.hid (gcdI_zero h1)
    clear h3 hk
    go_enter Tryd.func72, Tryd.ntmps72
    go_wp2_with fail
    go_ret
    exact ⟨ret_int H.out, rfl⟩
  | succ k ih =>
    intro a b w hk h1 h2 h3 h4
    by_cases hb : b = 0
    · subst hb
      have H := Lib.hid (gcdI_zero h1)
      clear h3 hk
      go_enter Tryd.func72, Tryd.ntmps72
      go_wp2_with fail
      go_ret
      exact ⟨ret_int H.out, rfl⟩
    · have hlt : a % b < b := Int.emod_lt_of_pos a (by omega)
      have hge : 0 ≤ a % b := Int.emod_nonneg a hb
      have H := Lib.hid (gcdI_step h1 (b := b) (by omega))
      have IH := Lib.hid ih
      clear ih
      have hb1 : 1 ≤ b := by omega
      go_enter Tryd.func72, Tryd.ntmps72
      go_wp2_with fail
      refine (IH.out b (a % b) _ (by omega) (by omega) (by omega) (by omega) (by omega)).mono ?_
      rintro e w' ⟨rfl, rfl⟩
      go_wp2_with fail
      go_ret
      exact ⟨ret_int H.out, rfl⟩

theorem mag_any (n : Int) (w : World) (h1 : -9223372036854775808 ≤ n) : Calls Tryd.prog 73 #[.int .i64 n] w fun e w' => e = .returned (.int .i64 (mag n)) ∧ w = w' := by
  unfold mag
  by_cases h : n = -9223372036854775808
  · subst h
    rw [if_pos rfl]
    exact mag_least w
  · rw [if_neg h]
    by_cases hn : n < 0
    · rw [if_pos hn]
      exact mag_neg n w hn (by omega)
    · rw [if_neg hn]
      exact mag_pos n w (by omega)

theorem gcd_any (a b : Int) (w : World) (h1 : -9223372036854775808 ≤ a) (h2 : a ≤ 9223372036854775807) (h3 : -9223372036854775808 ≤ b) (h4 : b ≤ 9223372036854775807) :
    Calls Tryd.prog 58 #[.int .i64 a, .int .i64 b] w fun e w' => e = .returned (.int .i64 (gcdV a b)) ∧ w = w' := by
  obtain ⟨m1, m2⟩ := mag_in h1 h2
  obtain ⟨m3, m4⟩ := mag_in h3 h4
  go_enter Tryd.func58, Tryd.ntmps58
  go_wp2_with fail
  (refine (mag_any a _ h1).mono ?_; rintro e w' ⟨rfl, rfl⟩)
  go_wp2_with fail
  (refine (mag_any b _ h3).mono ?_; rintro e w' ⟨rfl, rfl⟩)
  go_wp2_with fail
  (refine (euclid_any (mag b).toNat (mag a) (mag b) _ (by omega) m1 m2 m3 m4).mono ?_; rintro e w' ⟨rfl, rfl⟩)
  go_wp2_with fail
  go_ret
  exact ⟨ret_int (gcdV_eq a b).symm, rfl⟩


def intV (z : Int) : Int := if inB z then z else 0
theorem intV_no {z : Int} (h : inB z = false) : intV z = 0 := by unfold intV; rw [h]; rfl
theorem intV_yes {z : Int} (h : inB z = true) : intV z = z := by unfold intV; rw [h]; rfl
theorem long_out {z : Int} (h : 4 < (lOf z).length) : inB z = false := by
  refine inB_no ?_
  have h1 := val_top (lOf_ok z) (lOf_top z) (fun e => by rw [e] at h; simp at h)
  rw [val_lOf] at h1
  have h2 := pw_mono (show 4 ≤ (lOf z).length - 1 by omega)
  have : pw 4 = 10000000000000000 := rfl
  omega

set_option maxHeartbeats 1000000 in
theorem int_big (na : Bool) (A : Option Addr) (n c : Nat) (xs : List Int) (w : World) (ha : Sl w A n c xs) :
    Calls Tryd.prog 13 #[.agg #[.bool na, .slice A n c]] w fun e w' => e = .returned (.tuple #[.int .i64 (intV (zOf na xs)), .bool (inB (zOf na xs))]) ∧ Below w.heap.size w w' := by
  have HA := Lib.hid ha
  have HF := Lib.hid (fit_zOf na xs)
  clear ha
  go_enter Tryd.func13, Tryd.ntmps13
  go_wp2_with fail
  have X1 := Lib.hid (Bx.new w (.bool na) (.slice A n c))
  have BW : Hid (Below w.heap.size w (w.alloc (.cells #[.bool na, .slice A n c] 24))) := (Below.refl _ _).alloc (Nat.le_refl _) _
  generalize w.alloc (.cells #[.bool na, .slice A n c] 24) = W at *
  (refine (sound_any na A n c xs _ (HA.out.below BW.out)).mono ?_; rintro e w1 ⟨B, m, d, rfl, hs, hb⟩)
  have Y1 := X1.out.below hb
  have HS := Lib.hid (hs.box Y1.box (.bool (nOf (zOf na xs))) (.slice B m d))
  have BW1 := Lib.hid (((below_up BW.out hb).setCell (p := ⟨w.heap.size, 0, none⟩) (Nat.le_refl _) (.bool (nOf (zOf na xs)))).setCell (p := ⟨w.heap.size, 1, none⟩) (Nat.le_refl _) (.slice B m d))
  have Z1 := Lib.hid (Y1.set_ (.bool (nOf (zOf na xs))) (.slice B m d))
  have c1 := Y1.c0
  have c2 := Y1.c1
  have f1 := Y1.fz 0
  have f2 := Y1.fz 1
  have hfit := HS.out.fit HF.out
  have hlen := Lib.hid HS.out.len
  clear hs hb Y1 X1 BW
  go_upto_region 2 with fail
  clear c1 c2 f1 f2
  generalize (w1.setCell ⟨w.heap.size, 0, none⟩ (.bool (nOf (zOf na xs)))).setCell ⟨w.heap.size, 1, none⟩ (.slice B m d) = W2 at *
  generalize hz : zOf na xs = z at *
  have HZ := Lib.hid hz
  clear hz
  have c1 := Z1.out.c0
  have c2 := Z1.out.c1
  by_cases h4 : 4 < m
  · have HO := Lib.hid (long_out (z := z) (by rw [hlen.out]; exact h4))
    go_wp2_with fail
    go_ret2
    exact ⟨ret_two (by rw [HZ.out, intV_no HO.out]) (by rw [HZ.out, HO.out]), BW1.out⟩
  · obtain ⟨b1, b2⟩ := val_bd4 (lOf_ok z) (by rw [hlen.out]; omega)
    have HV : Hid (val (lOf z) = z.natAbs) := val_lOf z
    have HV2 := Lib.hid (val_bd (lOf_ok z))
    cases hn : nOf z with
    | true =>
      rw [hn] at c1
      have HE : Hid (-val (lOf z) = z) := by have := nOf_true hn; show -val (lOf z) = z; rw [val_lOf]; omega
      clear hn
      cases hi : inB (-val (lOf z)) with
      | true =>
        have HI : Hid (inB z = true) := by show inB z = true; rw [← HE.out]; exact hi
        go_wp2_with fail
        (refine (small_any B m d (lOf z) _ HS.out (lOf_ok z) (by omega)).mono ?_; rintro e w3 ⟨rfl, rfl⟩)
        go_wp2_with fail
        (refine (in_any _ _).mono ?_; rintro e w3 ⟨rfl, rfl⟩)
        go_wp2_with fail
        go_ret2
        exact ⟨ret_two (by rw [HZ.out, intV_yes HI.out, HE.out]) (by rw [HZ.out, HI.out]), BW1.out⟩
      | false =>
        have HI : Hid (inB z = false) := by show inB z = false; rw [← HE.out]; exact hi
        go_wp2_with fail
        (refine (small_any B m d (lOf z) _ HS.out (lOf_ok z) (by omega)).mono ?_; rintro e w3 ⟨rfl, rfl⟩)
        go_wp2_with fail
        (refine (in_any _ _).mono ?_; rintro e w3 ⟨rfl, rfl⟩)
        go_wp2_with fail
        go_ret2
        exact ⟨ret_two (by rw [HZ.out, intV_no HI.out]) (by rw [HZ.out, HI.out]), BW1.out⟩
    | false =>
      rw [hn] at c1
      have HE : Hid (val (lOf z) = z) := by have := nOf_false hn; show val (lOf z) = z; rw [val_lOf]; omega
      clear hn
      cases hi : inB (val (lOf z)) with
      | true =>
        have HI : Hid (inB z = true) := by show inB z = true; rw [← HE.out]; exact hi
        go_wp2_with fail
        (refine (small_any B m d (lOf z) _ HS.out (lOf_ok z) (by omega)).mono ?_; rintro e w3 ⟨rfl, rfl⟩)
        go_wp2_with fail
        (refine (in_any _ _).mono ?_; rintro e w3 ⟨rfl, rfl⟩)
        go_wp2_with fail
        go_ret2
        exact ⟨ret_two (by rw [HZ.out, intV_yes HI.out, HE.out]) (by rw [HZ.out, HI.out]), BW1.out⟩
      | false =>
        have HI : Hid (inB z = false) := by show inB z = false; rw [← HE.out]; exact hi
        go_wp2_with fail
        (refine (small_any B m d (lOf z) _ HS.out (lOf_ok z) (by omega)).mono ?_; rintro e w3 ⟨rfl, rfl⟩)
        go_wp2_with fail
        (refine (in_any _ _).mono ?_; rintro e w3 ⟨rfl, rfl⟩)
        go_wp2_with fail
        go_ret2
        exact ⟨ret_two (by rw [HZ.out, intV_no HI.out]) (by rw [HZ.out, HI.out]), BW1.out⟩
end Go.Proofs.YtfkfbomllkpjjaaDoor
