/-
  Increasing lists of texts, and the keys of a set.
-/
import Derived.Test.YtblakndpionmgaaDoorNmC
import Derived.Sort.KeysCollected
import Derived.Test.YtblakndpionmgaaDoorIter
namespace Go.Proofs.YtblakndpionmgaaDoor
open Go.RowKit Go.Maps Go.Sort Go.Shelf

/-! ### Increasing lists of texts -/
def sinc (l : List Txt) : Prop := l.Pairwise (fun x y => x < y)
def putB : List Txt → Txt → List Txt
  | [], s => [s]
  | x :: l, s => if x < s then x :: putB l s else if x = s then x :: l else s :: x :: l
def unB (l : List Txt) : List Txt := l.foldl putB []
theorem txt_tri (x y : Txt) (h : ¬ x < y) (hn : x ≠ y) : y < x := by
  by_cases h2 : y < x
  · exact h2
  · exact absurd (List.le_antisymm (List.not_lt.1 h2) (List.not_lt.1 h)) hn
theorem mem_putB (l : List Txt) (s y : Txt) : y ∈ putB l s ↔ y = s ∨ y ∈ l := by
  induction l with
  | nil => simp [putB]
  | cons x l ih =>
    unfold putB
    split
    · simp only [List.mem_cons, ih]
      constructor
      · rintro (h | h | h) <;> simp [h]
      · rintro (h | h | h) <;> simp [h]
    · split
      · rename_i h; subst h; simp
      · simp
theorem sinc_putB {l : List Txt} (h : sinc l) (s : Txt) : sinc (putB l s) := by
  induction l with
  | nil => simp [putB, sinc]
  | cons x l ih =>
    have h1 := List.pairwise_cons.1 h
    unfold putB
    split
    · rename_i hx
      refine List.pairwise_cons.2 ⟨fun y hy => ?_, ih h1.2⟩
      rcases (mem_putB l s y).1 hy with rfl | hy
      · exact hx
      · exact h1.1 y hy
    · rename_i hx
      split
      · exact h
      · rename_i hn
        have hs := txt_tri x s hx hn
        refine List.pairwise_cons.2 ⟨fun y hy => ?_, h⟩
        rcases List.mem_cons.1 hy with rfl | hy
        · exact hs
        · exact List.lt_trans hs (h1.1 y hy)
theorem foldl_put_sinc (l acc : List Txt) (h : sinc acc) : sinc (l.foldl putB acc) := by
  induction l generalizing acc with
  | nil => exact h
  | cons x l ih => exact ih _ (sinc_putB h x)
theorem foldl_put_mem (l acc : List Txt) (y : Txt) : y ∈ l.foldl putB acc ↔ y ∈ acc ∨ y ∈ l := by
  induction l generalizing acc with
  | nil => simp
  | cons x l ih =>
    rw [List.foldl_cons, ih, mem_putB, List.mem_cons]
    constructor
    · rintro ((h | h) | h) <;> simp [h]
    · rintro (h | h | h) <;> simp [h]
theorem unB_sinc (l : List Txt) : sinc (unB l) := foldl_put_sinc l [] List.Pairwise.nil
theorem unB_mem (l : List Txt) (y : Txt) : y ∈ unB l ↔ y ∈ l := by unfold unB; rw [foldl_put_mem]; simp
theorem sinc_nodup {l : List Txt} (h : sinc l) : l.Nodup := h.imp fun {x y} h e => by subst e; exact List.lt_irrefl _ h
theorem sinc_uniq {l r : List Txt} (hl : sinc l) (hr : sinc r) (h : ∀ x, x ∈ l ↔ x ∈ r) : l = r := by
  have hp : l.Perm r := (List.perm_ext_iff_of_nodup (sinc_nodup hl) (sinc_nodup hr)).2 h
  exact List.Perm.eq_of_pairwise (le := fun a b : Txt => a < b) (fun a b _ _ h1 h2 => absurd (List.lt_trans h1 h2) (List.lt_irrefl _)) hl hr hp
theorem unB_ext {l r : List Txt} (h : ∀ x, x ∈ l ↔ x ∈ r) : unB l = unB r := sinc_uniq (unB_sinc l) (unB_sinc r) fun x => by rw [unB_mem, unB_mem]; exact h x
theorem sinc_sorted {l : List Txt} (h : sinc l) : l.mergeSort leB = l :=
  List.mergeSort_of_pairwise (h.imp fun {x y} h => by simp only [leB, decide_eq_true_eq]; exact List.le_of_lt h)

/-! ### The keys of a set -/
theorem has_mapOf (acc : List Txt) (x : Txt) : Maps.has (mapOf acc) (.string x) = true ↔ x ∈ acc := by
  unfold mapOf
  rw [Maps.has_setOf _ _ _ (by intro y hy; obtain ⟨z, _, rfl⟩ := List.mem_map.1 hy; exact True.intro), List.any_eq_true]
  constructor
  · rintro ⟨y, hy, h⟩
    obtain ⟨z, hz, rfl⟩ := List.mem_map.1 hy
    have : z = x := by simpa [Lit.sameKey] using h
    rw [← this]; exact hz
  · intro h
    exact ⟨.string x, List.mem_map.2 ⟨x, h, rfl⟩, by simp [Lit.sameKey]⟩
theorem keys_mapOf {w : World} {b : Nat} {acc : List Txt} (h : Ms w b acc) : (unB acc).Perm (strKeys (mapOf acc)) := by
  obtain ⟨es, e1, e2⟩ := World.ownsMap.keysOf h
  obtain ⟨es', e3, e4⟩ := World.ownsMap.tidy h Kstr
  rw [e3] at e1
  cases e1
  rw [e3]
  refine perm_strKeys e4 (fun p hp => ?_) (sinc_nodup (unB_sinc acc)) (fun x => ?_)
  · obtain ⟨v, hv⟩ := e2 p hp
    obtain ⟨x, _, hx, _⟩ := Maps.keyOf_str Tryd.underlying9 hv
    exact ⟨x, hx⟩
  · rw [unB_mem, ← has_mapOf acc x, e3]
theorem size_mapOf {w : World} {b : Nat} {acc : List Txt} (h : Ms w b acc) : Maps.size (mapOf acc) ≤ acc.length := by
  obtain ⟨es, clock, _, _, hs, hD⟩ := h
  rw [hD]
  show ((es.toList.map _).foldr DataW.insert []).length ≤ _
  rw [length_sorted]
  simpa using hs
/-- A row that the call made, as a slice of texts. -/
theorem Ss.of_row {w : World} {base : Nat} {v : Value} {n : Nat} {ss : List Txt} (hn : ss.length = n) (h : w.ownsRow base 9 1 v n (ss.map encStr)) : ∃ A c, v = .slice A n c ∧ Ss w A n c ss := by
  obtain ⟨hl, h⟩ := h
  rcases h with ⟨rfl, h0⟩ | ⟨g, cap, cur, rfl, hb, hg, hc, hm, hs, ht⟩
  · subst h0
    have : ss = [] := List.eq_nil_of_length_eq_zero hn
    subst this
    exact ⟨none, 0, rfl, Ss.nil w⟩
  · refine ⟨some ⟨g, 0, none⟩, cap, rfl, hn, hc, by simpa [maxLen] using hm, fun _ => ⟨g, 0, rfl, (Array.getElem?_eq_some_iff.1 hg).1, fun k hk => ?_⟩⟩
    have h1 : w.cell? ⟨g, 0 + k, none⟩ = cur[k]? := by simp [World.cell?, hg]
    rw [h1]
    have h2 : (cur.toList.take (n * 1))[k]? = (ss.map encStr)[k]? := by rw [ht]
    rw [Nat.mul_one, List.getElem?_take_of_lt hk] at h2
    rw [← Array.getElem?_toList, h2]
    have hk2 : k < ss.length := by omega
    simp [encStr, List.getD, hk2]
end Go.Proofs.YtblakndpionmgaaDoor
