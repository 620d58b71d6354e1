/-
  Contracts of the number functions In, Add, Sub, Mul, Div, Mod (of the program and of the reference): for every two ints, in every world, with the same answers.
-/
import Derived.Test.YtblakndpionmgaaDoorProg
import Derived.Test.YtblakndpionmgaaDoorNumMath
import Derived.WalkKit
import Derived.OwnWalk
import Derived.Below
import Derived.BigCall
import Derived.Lib.Hide
namespace Go.Proofs.YtblakndpionmgaaDoor
open Go.RowKit

theorem ret_two {a a' : Int} {x x' : Bool} (h1 : a = a') (h2 : x = x') : Ending.returned (.tuple #[.int .i64 a, .bool x]) = .returned (.tuple #[.int .i64 a', .bool x']) := by rw [h1, h2]
theorem ret_bool {x x' : Bool} (h : x = x') : Ending.returned (.bool x) = .returned (.bool x') := by rw [h]
theorem ret_int {x x' : Int} (h : x = x') : Ending.returned (.int .i64 x) = .returned (.int .i64 x') := by rw [h]

theorem in_any (n : Int) (w : World) : Calls Tryd.prog 118 #[.int .i64 n] w fun e w' => e = .returned (.bool (inB n)) ∧ w = w' := by
  by_cases h1 : -1000000000000 ≤ n
  · by_cases h2 : n ≤ 1000000000000
    · have H := Lib.hid (inB_yes h1 h2)
      go_enter Tryd.func118, Tryd.ntmps118
      go_wp2
      go_ret
      exact ⟨ret_bool H.out.symm, rfl⟩
    · have H := Lib.hid (inB_no (n := n) (by omega))
      go_enter Tryd.func118, Tryd.ntmps118
      go_wp2
      go_ret
      exact ⟨ret_bool H.out.symm, rfl⟩
  · have H := Lib.hid (inB_no (n := n) (by omega))
    go_enter Tryd.func118, Tryd.ntmps118
    go_wp2
    go_ret
    exact ⟨ret_bool H.out.symm, rfl⟩

/-- WHAT Add RETURNS, way by way. -/
theorem add_eq {a b : Int} (ha : inB a = true) (hb : inB b = true) (hs : inB (a + b) = true) : a + b = addV a b ∧ true = addB a b := by simp [addV, addB, *]
theorem add_no {a b : Int} (h : inB a = false ∨ inB b = false ∨ inB (a + b) = false) : 0 = addV a b ∧ false = addB a b := by
  have : addB a b = false := by rcases h with h | h | h <;> simp [addB, h]
  simp [addV, this]
theorem sub_eq {a b : Int} (ha : inB a = true) (hb : inB b = true) (hs : inB (a - b) = true) : a - b = subV a b ∧ true = subB a b := by simp [subV, subB, *]
theorem sub_no {a b : Int} (h : inB a = false ∨ inB b = false ∨ inB (a - b) = false) : 0 = subV a b ∧ false = subB a b := by
  have : subB a b = false := by rcases h with h | h | h <;> simp [subB, h]
  simp [subV, this]

end Go.Proofs.YtblakndpionmgaaDoor
