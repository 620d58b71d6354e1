/-
  Sets of texts as maps.
-/
import Derived.Test.YtegognbnphpigaaDoorNmB
import Derived.Maps.OwnSet
import Derived.Maps.OwnOps
import Derived.StringKeys
import Derived.Carry
namespace Go.Proofs.YtegognbnphpigaaDoor
open Go.RowKit

open Go.WideShapes Go.Maps
/-- The map whose keys are these texts. -/
def mapOf (acc : List Txt) : DataW Unit := Maps.setOf (.lit (.bool true)) (acc.map Lit.string)
theorem mapOf_snoc (acc : List Txt) (x : Txt) : mapOf (acc ++ [x]) = (mapOf acc).put (.string x) (.lit (.bool true)) := by
  unfold mapOf
  rw [List.map_append, List.map_singleton, Maps.setOf_snoc]
theorem mapOf_isMap (acc : List Txt) : IsMap (mapOf acc) := (Maps.tidy_setOf _ _ (by intro x hx; obtain ⟨y, _, rfl⟩ := List.mem_map.1 hx; trivial)).isMap
theorem mapOf_at (acc : List Txt) (x : Txt) : (mapOf acc).atKey (.string x) (.lit (.bool false)) = .lit (.bool (decide (x ∈ acc))) := by
  have h : ∀ r : List Txt, (mapOf r.reverse).atKey (.string x) (.lit (.bool false)) = .lit (.bool (decide (x ∈ r))) := by
    intro r
    induction r with
    | nil => rfl
    | cons y r ih =>
      rw [List.reverse_cons, mapOf_snoc]
      by_cases e : x = y
      · subst e
        rw [Maps.atKey_put_same (mapOf_isMap _) (show WideAt.IsKeyLit (.string x) from True.intro)]
        simp
      · rw [Maps.atKey_put_other (by simpa using e), ih]
        simp [e]
  have := h acc.reverse
  rw [List.reverse_reverse] at this
  rw [this]
  congr 2
  simp
theorem Kstr : Keyed Tryd.prog 9 := Maps.string_keyed Tryd.underlying9
/-- Block b of w is the set of the texts acc. -/
def Ms (w : World) (b : Nat) (acc : List Txt) : Prop := w.ownsMap Tryd.prog 9 (plainElem Tryd.prog 4) b acc.length (mapOf acc)
theorem Ms.made (w : World) : Ms (w.alloc (.map #[] 0)) w.heap.size [] := World.ownsMap_made w _ _ _
theorem Ms.lt {w : World} {b : Nat} {acc : List Txt} (h : Ms w b acc) : b < w.heap.size := World.ownsMap.lt h
theorem Ms.keep {w w' : World} {b : Nat} {acc : List Txt} (h : Ms w b acc) (hb : Below w.heap.size w w') : Ms w' b acc := by
  have hl := h.lt
  obtain ⟨es, clock, hbl, F, hs, hD⟩ := h
  exact ⟨es, clock, by rw [hb.block _ hl]; exact hbl, F, hs, hD⟩
theorem zero_bool (w : World) : (zeroValue 4).run Tryd.prog w = .ok (.bool false) w := by kernel_rfl
theorem Ms.look {w : World} {b : Nat} {acc : List Txt} (h : Ms w b acc) (s : ByteArray) (hs : s.size ≤ maxLen) : (Instr.lookup 89 (.map (some b)) (.string s) false).run Tryd.prog w = .ok (.bool (decide (s.data.toList ∈ acc))) w := by
  obtain ⟨v, ps, hr, hv⟩ := World.ownsMap.lookup h Kstr Tryd.underlying89 (zero_bool w) (plainElem_bool Tryd.underlying4 false) (Go.WideMaps.keyOf_string_mk Tryd.underlying9 hs)
  rw [mapOf_at] at hv
  rw [hr]
  have hv2 : v = .bool (decide (s.data.toList ∈ acc)) := by
    unfold plainElem at hv
    generalize hu : Tryd.prog.underlying 4 = u at hv
    have hu2 : u = some .bool := hu.symm.trans Tryd.underlying4
    subst hu2
    cases v <;> simp at hv
    rw [hv.1]
  rw [hv2]
theorem Ms.put {w : World} {b : Nat} {acc : List Txt} (h : Ms w b acc) (hn : acc.length < maxLen) (s : ByteArray) (hs : s.size ≤ maxLen) :
    ∃ w', (Instr.mapUpdate 89 (.map (some b)) (.string s) (.bool true)).run Tryd.prog w = .ok () w' ∧ Ms w' b (acc ++ [s.data.toList]) ∧ w.grownBy w' (some b) := by
  obtain ⟨w', hr, ho, hg⟩ := World.ownsMap.update h Kstr Tryd.underlying89 hn (Go.WideMaps.keyOf_string_mk Tryd.underlying9 hs) (plainElem_bool Tryd.underlying4 true)
  refine ⟨w', hr, ?_, hg⟩
  unfold Ms
  rw [List.length_append, List.length_singleton, mapOf_snoc]
  exact ho
theorem run_make_hint (w : World) (n : Nat) : (Instr.makeMap 89 (some (.int .i64 (n : Int)))).run Tryd.prog w = .ok (.map (some w.heap.size)) (w.alloc (.map #[] 0)) := by
  simp [Instr.makeMap, go_sem, asInt, asIntOf, run_underlying]
end Go.Proofs.YtegognbnphpigaaDoor
