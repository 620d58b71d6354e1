/-
  A literal list of texts.
-/
import Derived.Test.YtegognbnphpigaaDoorNmC
import Derived.Test.YtegognbnphpigaaDoorNmI
namespace Go.Proofs.YtegognbnphpigaaDoor
open Go.RowKit

abbrev encStr : Txt → Value := fun l => Value.string ⟨l.toArray⟩
theorem below_alloc {w : World} (o : Obj) : Below w.heap.size w (w.alloc o) := (Below.refl _ _).alloc (Nat.le_refl _) o
theorem ss_lit {w : World} {t : TypeId} (xs : List Txt) {cells : Array Value} {n : Nat} (h : cells = (xs.map strVal).toArray) (hn : xs.length = n) (hn2 : n ≤ 9223372036854775807) : Ss (w.alloc (.cells cells t)) (some ⟨w.heap.size, 0, none⟩) n n xs := by
  refine ⟨hn, Nat.le_refl _, hn2, fun _ => ⟨w.heap.size, 0, rfl, (Array.getElem?_eq_some_iff.1 (MapKept.heap_alloc w _).1).1, fun k hk => ?_⟩⟩
  unfold World.cell?
  rw [(MapKept.heap_alloc w _).1]
  have hk2 : k < xs.length := by omega
  simp [h, strVal, List.getD, hk2]
/-- A row that the call made, as a slice of texts. -/
theorem Ss.of_row {w : World} {base : Nat} {v : Value} {n : Nat} {ss : List Txt} (hn : ss.length = n) (h : w.ownsRow base 9 1 v n (ss.map encStr)) : ∃ A c, v = .slice A n c ∧ Ss w A n c ss := by
  obtain ⟨hl, h⟩ := h
  rcases h with ⟨rfl, h0⟩ | ⟨g, cap, cur, rfl, hb, hg, hc, hm, hs, ht⟩
  · subst h0
    have : ss = [] := List.eq_nil_of_length_eq_zero hn
    subst this
    exact ⟨none, 0, rfl, Ss.nil w⟩
  · refine ⟨some ⟨g, 0, none⟩, cap, rfl, hn, hc, by simpa [maxLen] using hm, fun _ => ⟨g, 0, rfl, (Array.getElem?_eq_some_iff.1 hg).1, fun k hk => ?_⟩⟩
    have h1 : w.cell? ⟨g, 0 + k, none⟩ = cur[k]? := by simp [World.cell?, hg]
    rw [h1]
    have h2 : (cur.toList.take (n * 1))[k]? = (ss.map encStr)[k]? := by rw [ht]
    rw [Nat.mul_one, List.getElem?_take_of_lt hk] at h2
    rw [← Array.getElem?_toList, h2]
    have hk2 : k < ss.length := by omega
    simp [encStr, List.getD, hk2]
end Go.Proofs.YtegognbnphpigaaDoor
