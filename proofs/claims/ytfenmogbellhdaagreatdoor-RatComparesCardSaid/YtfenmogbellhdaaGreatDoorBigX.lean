/-
  Contracts of the reference's Same and Long.
-/
import Derived.Test.YtfenmogbellhdaaGreatDoorBigG
namespace Go.Proofs.YtfenmogbellhdaaGreatDoor
open Go.RowKit

theorem eq_take {a b : List Int} {k : Nat} {x y : Int} (ha : k < a.length) (hb : k < b.length) (hx : a.getD k 0 = x) (hy : b.getD k 0 = y) (h : a.take k = b.take k) : (a.take (k + 1) = b.take (k + 1)) ↔ x = y := by
  rw [take_succ_at a ha, take_succ_at b hb, h]
  have e1 : a[k] = x := by simpa [List.getD, ha] using hx
  have e2 : b[k] = y := by simpa [List.getD, hb] using hy
  rw [e1, e2]
  simp
theorem ne_of_take {a b : List Int} {k : Nat} (h : a.take k ≠ b.take k) : (a == b) = false := by
  rw [beq_eq_false_iff_ne]
  rintro rfl
  exact h rfl

end Go.Proofs.YtfenmogbellhdaaGreatDoor
