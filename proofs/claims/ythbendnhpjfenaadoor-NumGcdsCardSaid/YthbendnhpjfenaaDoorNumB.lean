/-
  Contracts of Mul, Div and Mod (of the program and of the reference): for every two ints, in every world, with the same answers.
-/
import Derived.Test.YthbendnhpjfenaaDoorNumA
namespace Go.Proofs.YthbendnhpjfenaaDoor
open Go.RowKit

theorem mul_eq {a b : Int} (ha : inB a = true) (hb : inB b = true) (hs : inB (a * b) = true) : a * b = mulV a b ∧ true = mulB a b := by simp [mulV, mulB, *]
theorem mul_no {a b : Int} (h : inB a = false ∨ inB b = false ∨ inB (a * b) = false) : 0 = mulV a b ∧ false = mulB a b := by
  have : mulB a b = false := by rcases h with h | h | h <;> simp [mulB, h]
  simp [mulV, this]
theorem mul_zero_left {b : Int} (hb : inB b = true) : 0 = mulV 0 b ∧ true = mulB 0 b := by
  have : inB 0 = true := by decide
  simp [mulV, mulB, *]
theorem mul_zero_right {a : Int} (ha : inB a = true) : 0 = mulV a 0 ∧ true = mulB a 0 := by
  have : inB 0 = true := by decide
  simp [mulV, mulB, *]

/-- 'magnitude', sign by sign. -/
theorem mag_pos (n : Int) (w : World) (h : 0 ≤ n) : Calls Tryd.prog 30 #[.int .i64 n] w fun e w' => e = .returned (.int .i64 n) ∧ w = w' := by
  go_enter Tryd.func30, Tryd.ntmps30
  go_wp2_with fail
  go_ret
  exact ⟨rfl, rfl⟩
theorem mag_neg (n : Int) (w : World) (h : n < 0) (h2 : -9223372036854775808 < n) : Calls Tryd.prog 30 #[.int .i64 n] w fun e w' => e = .returned (.int .i64 (-n)) ∧ w = w' := by
  go_enter Tryd.func30, Tryd.ntmps30
  go_wp2_with fail
  go_ret
  exact ⟨rfl, rfl⟩
theorem mag_least (w : World) : Calls Tryd.prog 30 #[.int .i64 (-9223372036854775808)] w fun e w' => e = .returned (.int .i64 1000000000000) ∧ w = w' := by
  go_enter Tryd.func30, Tryd.ntmps30
  go_wp2_with fail
  go_ret
  exact ⟨rfl, rfl⟩

/-- num.Mul of numbers in bounds that are not 0: the signs, and whether the product is in bounds. -/
theorem in_neg {n : Int} (h1 : -1000000000000 ≤ n) (h2 : n ≤ 1000000000000) : -9223372036854775808 < n := by omega

theorem mul_any (a b : Int) (w : World) : Calls Tryd.prog 13 #[.int .i64 a, .int .i64 b] w fun e w' => e = .returned (.tuple #[.int .i64 (mulV a b), .bool (mulB a b)]) ∧ w = w' := by
  cases ha : inB a with
  | false =>
    have H := Lib.hid (mul_no (a := a) (b := b) (.inl ha))
    go_enter Tryd.func13, Tryd.ntmps13
    go_wp2_with (go_at_call 15; refine (in_any _ _).mono ?_; rintro e w' ⟨rfl, rfl⟩)
    go_ret2
    exact ⟨ret_two H.out.1 H.out.2, rfl⟩
  | true =>
    cases hb : inB b with
    | false =>
      have H := Lib.hid (mul_no (a := a) (b := b) (.inr (.inl hb)))
      go_enter Tryd.func13, Tryd.ntmps13
      go_wp2_with (go_at_call 15; refine (in_any _ _).mono ?_; rintro e w' ⟨rfl, rfl⟩)
      go_ret2
      exact ⟨ret_two H.out.1 H.out.2, rfl⟩
    | true =>
      by_cases hz : a = 0
      · subst hz
        have H := Lib.hid (mul_zero_left hb)
        go_enter Tryd.func13, Tryd.ntmps13
        go_wp2_with (go_at_call 15; refine (in_any _ _).mono ?_; rintro e w' ⟨rfl, rfl⟩)
        go_ret2
        exact ⟨ret_two H.out.1 H.out.2, rfl⟩
      · obtain ⟨h1, h2⟩ := of_inB ha
        obtain ⟨h3, h4⟩ := of_inB hb
        have hz' : (a != 0) = true := by simpa using hz
        obtain ⟨x, hx, hmx, hxM⟩ : ∃ x : Int, 0 < x ∧ (∀ w, Calls Tryd.prog 30 #[.int .i64 a] w fun e w' => e = .returned (.int .i64 x) ∧ w = w') ∧ (x = a ∨ x = -a) := by
          rcases Int.lt_or_gt_of_ne hz with h | h
          · exact ⟨-a, by omega, fun w => mag_neg a w h (by omega), .inr rfl⟩
          · exact ⟨a, h, fun w => mag_pos a w (by omega), .inl rfl⟩
        obtain ⟨y, hy, hmy, hyM⟩ : ∃ y : Int, 0 ≤ y ∧ (∀ w, Calls Tryd.prog 30 #[.int .i64 b] w fun e w' => e = .returned (.int .i64 y) ∧ w = w') ∧ (y = b ∨ y = -b) := by
          by_cases h : b < 0
          · exact ⟨-b, by omega, fun w => mag_neg b w h (by omega), .inr rfl⟩
          · exact ⟨b, by omega, fun w => mag_pos b w (by omega), .inl rfl⟩
        have hp : a * b = x * y ∨ a * b = -(x * y) := by
          rcases hxM with rfl | rfl <;> rcases hyM with rfl | rfl <;> simp [Int.neg_mul, Int.mul_neg]
        by_cases hq : y ≤ 1000000000000 / x
        · have hle := prod_le hx hy hq
          have h0 : 0 ≤ x * y := Int.mul_nonneg (by omega) hy
          have h5 : -1000000000000 ≤ a * b := by omega
          have h6 : a * b ≤ 1000000000000 := by omega
          have H := Lib.hid (mul_eq ha hb (inB_yes h5 h6))
          have HX := Lib.hid hmx
          have HY := Lib.hid hmy
          have hq' : decide (1000000000000 / x < y) = false := decide_eq_false (by omega)
          clear hp hxM hyM hmx hmy hle h0
          go_enter Tryd.func13, Tryd.ntmps13
          go_wp2_with (first | (go_at_call 15; refine (in_any _ _).mono ?_; rintro e w' ⟨rfl, rfl⟩))
          (refine (HY.out _).mono ?_; rintro e w' ⟨rfl, rfl⟩)
          go_wp2_with fail
          (refine (HX.out _).mono ?_; rintro e w' ⟨rfl, rfl⟩)
          go_wp2_with fail
          go_ret2
          exact ⟨ret_two H.out.1 H.out.2, rfl⟩
        · have hgt := prod_gt (y := y) hx (by omega)
          have H := Lib.hid (mul_no (a := a) (b := b) (.inr (.inr (inB_no (by omega)))))
          have HX := Lib.hid hmx
          have HY := Lib.hid hmy
          have hq' : decide (1000000000000 / x < y) = true := decide_eq_true (by omega)
          clear hp hxM hyM hmx hmy hgt hq
          go_enter Tryd.func13, Tryd.ntmps13
          go_wp2_with (first | (go_at_call 15; refine (in_any _ _).mono ?_; rintro e w' ⟨rfl, rfl⟩))
          (refine (HY.out _).mono ?_; rintro e w' ⟨rfl, rfl⟩)
          go_wp2_with fail
          (refine (HX.out _).mono ?_; rintro e w' ⟨rfl, rfl⟩)
          go_wp2_with fail
          go_ret2
          exact ⟨ret_two H.out.1 H.out.2, rfl⟩
end Go.Proofs.YthbendnhpjfenaaDoor
