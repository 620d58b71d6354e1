/-
  Contracts of the reference's Mul: for every two ints, in every world, with the program's answers.
-/
import Derived.Test.YthbendnhpjfenaaDoorNumB
namespace Go.Proofs.YthbendnhpjfenaaDoor
open Go.RowKit

theorem rmul_any (a b : Int) (w : World) : Calls Tryd.prog 14 #[.int .i64 a, .int .i64 b] w fun e w' => e = .returned (.tuple #[.int .i64 (mulV a b), .bool (mulB a b)]) ∧ w = w' := by
  cases ha : inB a with
  | false =>
    have H := Lib.hid (mul_no (a := a) (b := b) (.inl ha))
    go_enter Tryd.func14, Tryd.ntmps14
    go_wp2_with (go_at_call 16; refine (rin_any _ _).mono ?_; rintro e w' ⟨rfl, rfl⟩)
    go_ret2
    exact ⟨ret_two H.out.1 H.out.2, rfl⟩
  | true =>
    cases hb : inB b with
    | false =>
      have H := Lib.hid (mul_no (a := a) (b := b) (.inr (.inl hb)))
      go_enter Tryd.func14, Tryd.ntmps14
      go_wp2_with (go_at_call 16; refine (rin_any _ _).mono ?_; rintro e w' ⟨rfl, rfl⟩)
      go_ret2
      exact ⟨ret_two H.out.1 H.out.2, rfl⟩
    | true =>
      by_cases hz : a = 0
      · subst hz
        have H := Lib.hid (mul_zero_left hb)
        go_enter Tryd.func14, Tryd.ntmps14
        go_wp2_with (go_at_call 16; refine (rin_any _ _).mono ?_; rintro e w' ⟨rfl, rfl⟩)
        go_ret2
        exact ⟨ret_two H.out.1 H.out.2, rfl⟩
      by_cases hy0 : b = 0
      · subst hy0
        have H := Lib.hid (mul_zero_right ha)
        have hz' : (a == 0) = false := by simpa using hz
        go_enter Tryd.func14, Tryd.ntmps14
        go_wp2_with (go_at_call 16; refine (rin_any _ _).mono ?_; rintro e w' ⟨rfl, rfl⟩)
        go_ret2
        exact ⟨ret_two H.out.1 H.out.2, rfl⟩
      obtain ⟨h1, h2⟩ := of_inB ha
      obtain ⟨h3, h4⟩ := of_inB hb
      have hz' : (a == 0) = false := by simpa using hz
      have hy' : (b == 0) = false := by simpa using hy0
      rcases Int.lt_or_gt_of_ne hy0 with hsb | hsb
      · obtain ⟨c, rfl⟩ : ∃ c : Int, b = -c := ⟨-b, by omega⟩
        rcases Int.lt_or_gt_of_ne hz with hsa | hsa
        · have hp : c * (-a) = a * (-c) := by simp [Int.mul_neg, Int.mul_comm]
          by_cases hq : (-a) ≤ 1000000000000 / (c)
          · have hle := prod_le (x := c) (y := -a) (by omega) (by omega) hq
            have h0 : 0 ≤ (c) * (-a) := Int.mul_nonneg (by omega) (by omega)
            have h5 : -1000000000000 ≤ a * (-c) := by omega
            have h6 : a * (-c) ≤ 1000000000000 := by omega
            have H := Lib.hid (mul_eq ha hb (inB_yes h5 h6))
            have hq' : decide (1000000000000 / (c) < (-a)) = false := decide_eq_false (by omega)
            clear hp hle h0 hz hy0
            go_enter Tryd.func14, Tryd.ntmps14
            go_wp2_with (go_at_call 16; refine (rin_any _ _).mono ?_; rintro e w' ⟨rfl, rfl⟩)
            go_ret2
            exact ⟨ret_two H.out.1 H.out.2, rfl⟩
          · have hgt := prod_gt (x := c) (y := -a) (by omega) (by omega)
            have H := Lib.hid (mul_no (a := a) (b := (-c)) (.inr (.inr (inB_no (by omega)))))
            have hq' : decide (1000000000000 / (c) < (-a)) = true := decide_eq_true (by omega)
            clear hp hgt hz hy0 hq
            go_enter Tryd.func14, Tryd.ntmps14
            go_wp2_with (go_at_call 16; refine (rin_any _ _).mono ?_; rintro e w' ⟨rfl, rfl⟩)
            go_ret2
            exact ⟨ret_two H.out.1 H.out.2, rfl⟩
        · have hp : c * (a) = -(a * (-c)) := by simp [Int.mul_neg, Int.mul_comm]
          by_cases hq : (a) ≤ 1000000000000 / (c)
          · have hle := prod_le (x := c) (y := a) (by omega) (by omega) hq
            have h0 : 0 ≤ (c) * (a) := Int.mul_nonneg (by omega) (by omega)
            have h5 : -1000000000000 ≤ a * (-c) := by omega
            have h6 : a * (-c) ≤ 1000000000000 := by omega
            have H := Lib.hid (mul_eq ha hb (inB_yes h5 h6))
            have hq' : decide (1000000000000 / (c) < (a)) = false := decide_eq_false (by omega)
            clear hp hle h0 hz hy0
            go_enter Tryd.func14, Tryd.ntmps14
            go_wp2_with (go_at_call 16; refine (rin_any _ _).mono ?_; rintro e w' ⟨rfl, rfl⟩)
            go_ret2
            exact ⟨ret_two H.out.1 H.out.2, rfl⟩
          · have hgt := prod_gt (x := c) (y := a) (by omega) (by omega)
            have H := Lib.hid (mul_no (a := a) (b := (-c)) (.inr (.inr (inB_no (by omega)))))
            have hq' : decide (1000000000000 / (c) < (a)) = true := decide_eq_true (by omega)
            clear hp hgt hz hy0 hq
            go_enter Tryd.func14, Tryd.ntmps14
            go_wp2_with (go_at_call 16; refine (rin_any _ _).mono ?_; rintro e w' ⟨rfl, rfl⟩)
            go_ret2
            exact ⟨ret_two H.out.1 H.out.2, rfl⟩
      · rcases Int.lt_or_gt_of_ne hz with hsa | hsa
        · have hp : b * (-a) = -(a * b) := by simp [Int.mul_neg, Int.mul_comm]
          by_cases hq : (-a) ≤ 1000000000000 / (b)
          · have hle := prod_le (x := b) (y := -a) (by omega) (by omega) hq
            have h0 : 0 ≤ (b) * (-a) := Int.mul_nonneg (by omega) (by omega)
            have h5 : -1000000000000 ≤ a * b := by omega
            have h6 : a * b ≤ 1000000000000 := by omega
            have H := Lib.hid (mul_eq ha hb (inB_yes h5 h6))
            have hq' : decide (1000000000000 / (b) < (-a)) = false := decide_eq_false (by omega)
            clear hp hle h0 hz hy0
            go_enter Tryd.func14, Tryd.ntmps14
            go_wp2_with (go_at_call 16; refine (rin_any _ _).mono ?_; rintro e w' ⟨rfl, rfl⟩)
            go_ret2
            exact ⟨ret_two H.out.1 H.out.2, rfl⟩
          · have hgt := prod_gt (x := b) (y := -a) (by omega) (by omega)
            have H := Lib.hid (mul_no (a := a) (b := b) (.inr (.inr (inB_no (by omega)))))
            have hq' : decide (1000000000000 / (b) < (-a)) = true := decide_eq_true (by omega)
            clear hp hgt hz hy0 hq
            go_enter Tryd.func14, Tryd.ntmps14
            go_wp2_with (go_at_call 16; refine (rin_any _ _).mono ?_; rintro e w' ⟨rfl, rfl⟩)
            go_ret2
            exact ⟨ret_two H.out.1 H.out.2, rfl⟩
        · have hp : b * (a) = a * b := by simp [Int.mul_comm]
          by_cases hq : (a) ≤ 1000000000000 / (b)
          · have hle := prod_le (x := b) (y := a) (by omega) (by omega) hq
            have h0 : 0 ≤ (b) * (a) := Int.mul_nonneg (by omega) (by omega)
            have h5 : -1000000000000 ≤ a * b := by omega
            have h6 : a * b ≤ 1000000000000 := by omega
            have H := Lib.hid (mul_eq ha hb (inB_yes h5 h6))
            have hq' : decide (1000000000000 / (b) < (a)) = false := decide_eq_false (by omega)
            clear hp hle h0 hz hy0
            go_enter Tryd.func14, Tryd.ntmps14
            go_wp2_with (go_at_call 16; refine (rin_any _ _).mono ?_; rintro e w' ⟨rfl, rfl⟩)
            go_ret2
            exact ⟨ret_two H.out.1 H.out.2, rfl⟩
          · have hgt := prod_gt (x := b) (y := a) (by omega) (by omega)
            have H := Lib.hid (mul_no (a := a) (b := b) (.inr (.inr (inB_no (by omega)))))
            have hq' : decide (1000000000000 / (b) < (a)) = true := decide_eq_true (by omega)
            clear hp hgt hz hy0 hq
            go_enter Tryd.func14, Tryd.ntmps14
            go_wp2_with (go_at_call 16; refine (rin_any _ _).mono ?_; rintro e w' ⟨rfl, rfl⟩)
            go_ret2
            exact ⟨ret_two H.out.1 H.out.2, rfl⟩
end Go.Proofs.YthbendnhpjfenaaDoor
