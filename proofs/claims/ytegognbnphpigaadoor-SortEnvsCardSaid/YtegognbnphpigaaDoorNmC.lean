/-
  Find, Distinct and setOf.
-/
import Derived.Test.YtegognbnphpigaaDoorNmM
namespace Go.Proofs.YtegognbnphpigaaDoor
open Go.RowKit


theorem take_snoc {l : List Txt} {k : Nat} (hk : k < l.length) : l.take (k + 1) = l.take k ++ [l.getD k []] := by
  rw [List.take_succ_eq_append_getElem hk]; simp [List.getD, hk]
theorem nodup_snoc {l : List Txt} {k : Nat} (hk : k < l.length) (h : (l.take k).Nodup) (hn : l.getD k [] ∉ l.take k) : (l.take (k + 1)).Nodup := by
  rw [take_snoc hk]
  refine List.nodup_append.2 ⟨h, by simp, ?_⟩
  intro a ha b hb e
  rw [List.mem_singleton.1 hb] at e
  exact hn (e ▸ ha)
theorem not_nodup {l : List Txt} {k : Nat} (hk : k < l.length) (hn : l.getD k [] ∈ l.take k) : ¬ l.Nodup := by
  intro h
  have h2 : (l.take (k + 1)).Nodup := h.sublist (List.take_sublist _ _)
  rw [take_snoc hk] at h2
  exact (List.nodup_append.1 h2).2.2 _ hn _ (by simp) rfl
theorem getD_mem {l : List Txt} {k : Nat} (hk : k < l.length) : l.getD k [] ∈ l := by
  have : l.getD k [] = l[k] := by simp [List.getD, hk]
  rw [this]; exact List.getElem_mem _
/-- No text is longer than memory. -/
def Fit_ (ss : List Txt) : Prop := ∀ y ∈ ss, y.length ≤ maxLen
theorem Fit_.at_ {ss : List Txt} (h : Fit_ ss) {k : Nat} (hk : k < ss.length) {x : ByteArray} (hx : x.data.toList = ss.getD k []) : x.size ≤ maxLen := by
  rw [size_list, hx]; exact h _ (getD_mem hk)
def ndB (l : List Txt) : Bool := decide l.Nodup

/-- The cells from ⟨g, o⟩ on hold slices that read as these lists of texts. -/
structure Rows_ (w : World) (g o m : Nat) (rs : List (List Txt)) : Prop where
  len : rs.length = m
  lt : g < w.heap.size
  cells : ∀ k, k < m → ∃ A n c, w.cell? ⟨g, o + k, none⟩ = some (.slice A n c) ∧ Ss w A n c (rs.getD k []) ∧ Fit_ (rs.getD k [])
theorem Rows_.below {w w' : World} {g o m : Nat} {rs : List (List Txt)} (h : Rows_ w g o m rs) (hb : Below w.heap.size w w') : Rows_ w' g o m rs :=
  ⟨h.len, Nat.lt_of_lt_of_le h.lt hb.size, fun k hk => by
    obtain ⟨A, n, c, h1, h2, h3⟩ := h.cells k hk
    exact ⟨A, n, c, (hb.cell h.lt).trans h1, h2.below hb, h3⟩⟩
theorem flat_snoc {rs : List (List Txt)} {k : Nat} (hk : k < rs.length) : (rs.take (k + 1)).flatten = (rs.take k).flatten ++ rs.getD k [] := by
  rw [List.take_succ_eq_append_getElem hk, List.flatten_append]; simp [List.getD, hk]
theorem flat_le {rs : List (List Txt)} {k j : Nat} (hk : k < rs.length) (hj : j ≤ (rs.getD k []).length) : ((rs.take k).flatten ++ (rs.getD k []).take j).length ≤ rs.flatten.length := by
  have h1 : rs.flatten = (rs.take (k + 1)).flatten ++ (rs.drop (k + 1)).flatten := by rw [← List.flatten_append, List.take_append_drop]
  rw [h1, flat_snoc hk]
  simp only [List.length_append, List.length_take]
  omega

end Go.Proofs.YtegognbnphpigaaDoor
