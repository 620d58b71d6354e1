/-
  Contracts of the number functions In, Add, Sub, Mul, Div, Mod (of the program and of the reference): for every two ints, in every world, with the same answers.
-/
import Derived.Test.YthbendnhpjfenaaDoorProg
import Derived.Test.YthbendnhpjfenaaDoorNumMath
import Derived.WalkKit
import Derived.OwnWalk
import Derived.Below
import Derived.BigCall
import Derived.Lib.Hide
namespace Go.Proofs.YthbendnhpjfenaaDoor
open Go.RowKit

theorem ret_two {a a' : Int} {x x' : Bool} (h1 : a = a') (h2 : x = x') : Ending.returned (.tuple #[.int .i64 a, .bool x]) = .returned (.tuple #[.int .i64 a', .bool x']) := by rw [h1, h2]
theorem ret_bool {x x' : Bool} (h : x = x') : Ending.returned (.bool x) = .returned (.bool x') := by rw [h]
theorem ret_int {x x' : Int} (h : x = x') : Ending.returned (.int .i64 x) = .returned (.int .i64 x') := by rw [h]

theorem in_any (n : Int) (w : World) : Calls Tryd.prog 15 #[.int .i64 n] w fun e w' => e = .returned (.bool (inB n)) ∧ w = w' := by
  by_cases h1 : -1000000000000 ≤ n
  · by_cases h2 : n ≤ 1000000000000
    · have H := Lib.hid (inB_yes h1 h2)
      go_enter Tryd.func15, Tryd.ntmps15
      go_wp2
      go_ret
      exact ⟨ret_bool H.out.symm, rfl⟩
    · have H := Lib.hid (inB_no (n := n) (by omega))
      go_enter Tryd.func15, Tryd.ntmps15
      go_wp2
      go_ret
      exact ⟨ret_bool H.out.symm, rfl⟩
  · have H := Lib.hid (inB_no (n := n) (by omega))
    go_enter Tryd.func15, Tryd.ntmps15
    go_wp2
    go_ret
    exact ⟨ret_bool H.out.symm, rfl⟩

theorem rin_any (n : Int) (w : World) : Calls Tryd.prog 16 #[.int .i64 n] w fun e w' => e = .returned (.bool (inB n)) ∧ w = w' := by
  by_cases h1 : -1000000000000 ≤ n
  · by_cases h2 : n ≤ 1000000000000
    · have H := Lib.hid (inB_yes h1 h2)
      go_enter Tryd.func16, Tryd.ntmps16
      go_wp2
      go_ret
      exact ⟨ret_bool H.out.symm, rfl⟩
    · have H := Lib.hid (inB_no (n := n) (by omega))
      go_enter Tryd.func16, Tryd.ntmps16
      go_wp2
      go_ret
      exact ⟨ret_bool H.out.symm, rfl⟩
  · have H := Lib.hid (inB_no (n := n) (by omega))
    go_enter Tryd.func16, Tryd.ntmps16
    go_wp2
    go_ret
    exact ⟨ret_bool H.out.symm, rfl⟩

/-- 'bounded', way by way. -/
theorem bounded_yes (n : Int) (w : World) (h : inB n = true) : Calls Tryd.prog 28 #[.int .i64 n] w fun e w' => e = .returned (.tuple #[.int .i64 n, .bool true]) ∧ w = w' := by
  go_enter Tryd.func28, Tryd.ntmps28
  go_wp2_with (go_at_call 15; refine (in_any _ _).mono ?_; rintro e w' ⟨rfl, rfl⟩)
  go_ret2
  exact ⟨rfl, rfl⟩
theorem bounded_no (n : Int) (w : World) (h : inB n = false) : Calls Tryd.prog 28 #[.int .i64 n] w fun e w' => e = .returned (.tuple #[.int .i64 0, .bool false]) ∧ w = w' := by
  go_enter Tryd.func28, Tryd.ntmps28
  go_wp2_with (go_at_call 15; refine (in_any _ _).mono ?_; rintro e w' ⟨rfl, rfl⟩)
  go_ret2
  exact ⟨rfl, rfl⟩
/-- The reference's 'result', way by way. -/
theorem result_yes (n : Int) (w : World) (h : inB n = true) : Calls Tryd.prog 29 #[.int .i64 n, .bool true] w fun e w' => e = .returned (.tuple #[.int .i64 n, .bool true]) ∧ w = w' := by
  go_enter Tryd.func29, Tryd.ntmps29
  go_wp2_with (go_at_call 16; refine (rin_any _ _).mono ?_; rintro e w' ⟨rfl, rfl⟩)
  go_ret2
  exact ⟨rfl, rfl⟩
theorem result_no (n : Int) (w : World) (h : inB n = false) : Calls Tryd.prog 29 #[.int .i64 n, .bool true] w fun e w' => e = .returned (.tuple #[.int .i64 0, .bool false]) ∧ w = w' := by
  go_enter Tryd.func29, Tryd.ntmps29
  go_wp2_with (go_at_call 16; refine (rin_any _ _).mono ?_; rintro e w' ⟨rfl, rfl⟩)
  go_ret2
  exact ⟨rfl, rfl⟩
theorem result_not (n : Int) (w : World) : Calls Tryd.prog 29 #[.int .i64 n, .bool false] w fun e w' => e = .returned (.tuple #[.int .i64 0, .bool false]) ∧ w = w' := by
  go_enter Tryd.func29, Tryd.ntmps29
  go_wp2_with fail
  go_ret2
  exact ⟨rfl, rfl⟩

/-- WHAT Add RETURNS, way by way. -/
theorem add_eq {a b : Int} (ha : inB a = true) (hb : inB b = true) (hs : inB (a + b) = true) : a + b = addV a b ∧ true = addB a b := by simp [addV, addB, *]
theorem add_no {a b : Int} (h : inB a = false ∨ inB b = false ∨ inB (a + b) = false) : 0 = addV a b ∧ false = addB a b := by
  have : addB a b = false := by rcases h with h | h | h <;> simp [addB, h]
  simp [addV, this]
theorem sub_eq {a b : Int} (ha : inB a = true) (hb : inB b = true) (hs : inB (a - b) = true) : a - b = subV a b ∧ true = subB a b := by simp [subV, subB, *]
theorem sub_no {a b : Int} (h : inB a = false ∨ inB b = false ∨ inB (a - b) = false) : 0 = subV a b ∧ false = subB a b := by
  have : subB a b = false := by rcases h with h | h | h <;> simp [subB, h]
  simp [subV, this]

theorem add_any (a b : Int) (w : World) : Calls Tryd.prog 9 #[.int .i64 a, .int .i64 b] w fun e w' => e = .returned (.tuple #[.int .i64 (addV a b), .bool (addB a b)]) ∧ w = w' := by
  cases ha : inB a with
  | false =>
    have H := Lib.hid (add_no (a := a) (b := b) (.inl ha))
    go_enter Tryd.func9, Tryd.ntmps9
    go_wp2_with (first | (go_at_call 15; refine (in_any _ _).mono ?_; rintro e w' ⟨rfl, rfl⟩))
    go_ret2
    exact ⟨ret_two H.out.1 H.out.2, rfl⟩
  | true =>
    cases hb : inB b with
    | false =>
      have H := Lib.hid (add_no (a := a) (b := b) (.inr (.inl hb)))
      go_enter Tryd.func9, Tryd.ntmps9
      go_wp2_with (first | (go_at_call 15; refine (in_any _ _).mono ?_; rintro e w' ⟨rfl, rfl⟩))
      go_ret2
      exact ⟨ret_two H.out.1 H.out.2, rfl⟩
    | true =>
      obtain ⟨h1, h2⟩ := of_inB ha
      obtain ⟨h3, h4⟩ := of_inB hb
      cases hs : inB (a + b) with
      | false =>
        have H := Lib.hid (add_no (a := a) (b := b) (.inr (.inr hs)))
        go_enter Tryd.func9, Tryd.ntmps9
        go_wp2_with (first | (go_at_call 15; refine (in_any _ _).mono ?_; rintro e w' ⟨rfl, rfl⟩) | (go_at_call 28; refine (bounded_no _ _ hs).mono ?_; rintro e w' ⟨rfl, rfl⟩))
        go_ret2
        exact ⟨ret_two H.out.1 H.out.2, rfl⟩
      | true =>
        have H := Lib.hid (add_eq ha hb hs)
        go_enter Tryd.func9, Tryd.ntmps9
        go_wp2_with (first | (go_at_call 15; refine (in_any _ _).mono ?_; rintro e w' ⟨rfl, rfl⟩) | (go_at_call 28; refine (bounded_yes _ _ hs).mono ?_; rintro e w' ⟨rfl, rfl⟩))
        go_ret2
        exact ⟨ret_two H.out.1 H.out.2, rfl⟩

theorem radd_any (a b : Int) (w : World) : Calls Tryd.prog 10 #[.int .i64 a, .int .i64 b] w fun e w' => e = .returned (.tuple #[.int .i64 (addV a b), .bool (addB a b)]) ∧ w = w' := by
  cases ha : inB a with
  | false =>
    have H := Lib.hid (add_no (a := a) (b := b) (.inl ha))
    go_enter Tryd.func10, Tryd.ntmps10
    go_wp2_with (first | (go_at_call 16; refine (rin_any _ _).mono ?_; rintro e w' ⟨rfl, rfl⟩) | (go_at_call 29; refine (result_not _ _).mono ?_; rintro e w' ⟨rfl, rfl⟩))
    go_ret2
    exact ⟨ret_two H.out.1 H.out.2, rfl⟩
  | true =>
    cases hb : inB b with
    | false =>
      have H := Lib.hid (add_no (a := a) (b := b) (.inr (.inl hb)))
      go_enter Tryd.func10, Tryd.ntmps10
      go_wp2_with (first | (go_at_call 16; refine (rin_any _ _).mono ?_; rintro e w' ⟨rfl, rfl⟩) | (go_at_call 29; refine (result_not _ _).mono ?_; rintro e w' ⟨rfl, rfl⟩))
      go_ret2
      exact ⟨ret_two H.out.1 H.out.2, rfl⟩
    | true =>
      obtain ⟨h1, h2⟩ := of_inB ha
      obtain ⟨h3, h4⟩ := of_inB hb
      cases hs : inB (a + b) with
      | false =>
        have H := Lib.hid (add_no (a := a) (b := b) (.inr (.inr hs)))
        go_enter Tryd.func10, Tryd.ntmps10
        go_wp2_with (first | (go_at_call 16; refine (rin_any _ _).mono ?_; rintro e w' ⟨rfl, rfl⟩) | (go_at_call 29; refine (result_no _ _ hs).mono ?_; rintro e w' ⟨rfl, rfl⟩))
        go_ret2
        exact ⟨ret_two H.out.1 H.out.2, rfl⟩
      | true =>
        have H := Lib.hid (add_eq ha hb hs)
        go_enter Tryd.func10, Tryd.ntmps10
        go_wp2_with (first | (go_at_call 16; refine (rin_any _ _).mono ?_; rintro e w' ⟨rfl, rfl⟩) | (go_at_call 29; refine (result_yes _ _ hs).mono ?_; rintro e w' ⟨rfl, rfl⟩))
        go_ret2
        exact ⟨ret_two H.out.1 H.out.2, rfl⟩

theorem sub_any (a b : Int) (w : World) : Calls Tryd.prog 11 #[.int .i64 a, .int .i64 b] w fun e w' => e = .returned (.tuple #[.int .i64 (subV a b), .bool (subB a b)]) ∧ w = w' := by
  cases ha : inB a with
  | false =>
    have H := Lib.hid (sub_no (a := a) (b := b) (.inl ha))
    go_enter Tryd.func11, Tryd.ntmps11
    go_wp2_with (first | (go_at_call 15; refine (in_any _ _).mono ?_; rintro e w' ⟨rfl, rfl⟩))
    go_ret2
    exact ⟨ret_two H.out.1 H.out.2, rfl⟩
  | true =>
    cases hb : inB b with
    | false =>
      have H := Lib.hid (sub_no (a := a) (b := b) (.inr (.inl hb)))
      go_enter Tryd.func11, Tryd.ntmps11
      go_wp2_with (first | (go_at_call 15; refine (in_any _ _).mono ?_; rintro e w' ⟨rfl, rfl⟩))
      go_ret2
      exact ⟨ret_two H.out.1 H.out.2, rfl⟩
    | true =>
      obtain ⟨h1, h2⟩ := of_inB ha
      obtain ⟨h3, h4⟩ := of_inB hb
      cases hs : inB (a - b) with
      | false =>
        have H := Lib.hid (sub_no (a := a) (b := b) (.inr (.inr hs)))
        go_enter Tryd.func11, Tryd.ntmps11
        go_wp2_with (first | (go_at_call 15; refine (in_any _ _).mono ?_; rintro e w' ⟨rfl, rfl⟩) | (go_at_call 28; refine (bounded_no _ _ hs).mono ?_; rintro e w' ⟨rfl, rfl⟩))
        go_ret2
        exact ⟨ret_two H.out.1 H.out.2, rfl⟩
      | true =>
        have H := Lib.hid (sub_eq ha hb hs)
        go_enter Tryd.func11, Tryd.ntmps11
        go_wp2_with (first | (go_at_call 15; refine (in_any _ _).mono ?_; rintro e w' ⟨rfl, rfl⟩) | (go_at_call 28; refine (bounded_yes _ _ hs).mono ?_; rintro e w' ⟨rfl, rfl⟩))
        go_ret2
        exact ⟨ret_two H.out.1 H.out.2, rfl⟩

theorem rsub_any (a b : Int) (w : World) : Calls Tryd.prog 12 #[.int .i64 a, .int .i64 b] w fun e w' => e = .returned (.tuple #[.int .i64 (subV a b), .bool (subB a b)]) ∧ w = w' := by
  cases ha : inB a with
  | false =>
    have H := Lib.hid (sub_no (a := a) (b := b) (.inl ha))
    go_enter Tryd.func12, Tryd.ntmps12
    go_wp2_with (first | (go_at_call 16; refine (rin_any _ _).mono ?_; rintro e w' ⟨rfl, rfl⟩) | (go_at_call 29; refine (result_not _ _).mono ?_; rintro e w' ⟨rfl, rfl⟩))
    go_ret2
    exact ⟨ret_two H.out.1 H.out.2, rfl⟩
  | true =>
    cases hb : inB b with
    | false =>
      have H := Lib.hid (sub_no (a := a) (b := b) (.inr (.inl hb)))
      go_enter Tryd.func12, Tryd.ntmps12
      go_wp2_with (first | (go_at_call 16; refine (rin_any _ _).mono ?_; rintro e w' ⟨rfl, rfl⟩) | (go_at_call 29; refine (result_not _ _).mono ?_; rintro e w' ⟨rfl, rfl⟩))
      go_ret2
      exact ⟨ret_two H.out.1 H.out.2, rfl⟩
    | true =>
      obtain ⟨h1, h2⟩ := of_inB ha
      obtain ⟨h3, h4⟩ := of_inB hb
      cases hs : inB (a - b) with
      | false =>
        have H := Lib.hid (sub_no (a := a) (b := b) (.inr (.inr hs)))
        go_enter Tryd.func12, Tryd.ntmps12
        go_wp2_with (first | (go_at_call 16; refine (rin_any _ _).mono ?_; rintro e w' ⟨rfl, rfl⟩) | (go_at_call 29; refine (result_no _ _ hs).mono ?_; rintro e w' ⟨rfl, rfl⟩))
        go_ret2
        exact ⟨ret_two H.out.1 H.out.2, rfl⟩
      | true =>
        have H := Lib.hid (sub_eq ha hb hs)
        go_enter Tryd.func12, Tryd.ntmps12
        go_wp2_with (first | (go_at_call 16; refine (rin_any _ _).mono ?_; rintro e w' ⟨rfl, rfl⟩) | (go_at_call 29; refine (result_yes _ _ hs).mono ?_; rintro e w' ⟨rfl, rfl⟩))
        go_ret2
        exact ⟨ret_two H.out.1 H.out.2, rfl⟩

end Go.Proofs.YthbendnhpjfenaaDoor
