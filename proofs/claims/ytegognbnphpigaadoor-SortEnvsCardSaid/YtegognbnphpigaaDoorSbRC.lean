/-
  The reference's put and Union.
-/
import Derived.Test.YtegognbnphpigaaDoorSbN
import Derived.Test.YtegognbnphpigaaDoorSbRA
namespace Go.Proofs.YtegognbnphpigaaDoor
open Go.RowKit

theorem one_txt {w : World} (x : ByteArray) : Ss (w.alloc (.cells #[.string x] 9)) (some ⟨w.heap.size, 0, none⟩) 1 1 [x.data.toList] := ss_lit _ (by simp [strVal]) rfl (by omega)
/-- The slice value from its k-th text on. -/
theorem Ss.drop {w : World} {g o n c : Nat} {ss : List Txt} (h : Ss w (some ⟨g, o, none⟩) n c ss) {k : Nat} (hk : k ≤ n) : Ss w (some ⟨g, o + k, none⟩) (n - k) (c - k) (ss.drop k) := by
  refine ⟨by rw [List.length_drop, h.len], by have := h.cap; omega, by have := h.top; omega, fun hn => ?_⟩
  obtain ⟨g', o', e, hg, hc⟩ := h.cells (by omega)
  cases e
  refine ⟨g, o + k, rfl, hg, fun i hi => ?_⟩
  have := hc (k + i) (by omega)
  rw [Nat.add_assoc, this]
  have e1 : k + i < ss.length := by rw [h.len]; omega
  have e2 : i < (ss.drop k).length := by rw [List.length_drop]; omega
  simp [List.getD]

theorem str_size : (Tryd.prog.info? 9).map (·.size) = some 1 := by kernel_rfl
theorem slice_from {w : World} {A : Option Addr} {n c : Nat} {ss : List Txt} (h : Ss w A n c ss) {k : Nat} (hk : k ≤ n) (i : Int) (hik : i = (k : Int)) : ∃ B m d, (∀ W, (Instr.slice 52 (.slice A n c) (some (.int .i64 i)) none none).run Tryd.prog W = .ok (.slice B m d) W) ∧ Ss w B m d (ss.drop k) := by
  subst hik
  obtain ⟨i0, hi, hz0, hz1, hz2⟩ := info_parts str_info
  refine ⟨if c = k then A else A.map (·.add (k * 1)), n - k, c - k, fun W => ?_, ?_⟩
  · have he : Tryd.prog.elem 52 = 9 := by kernel_rfl
    rw [run_slice_l (t := 52) (a := A) (len := n) (cap := c) (ht := by rw [he]; exact Tryd.underlying52) (kl := .i64) (l := (k : Int)) (h0 := by omega) (h1 := by omega), he]
    simp [sizeOf, typeInfo, hi, hz1, sliced, Result.andThen, go_sem]
  · rcases Nat.eq_zero_or_pos (n - k) with h0 | h0
    · rw [h0]
      have : ss.drop k = [] := List.drop_eq_nil_of_le (by rw [h.len]; omega)
      rw [this]
      exact Ss.empty w _ (by have := h.top; omega)
    · have hc := h.cap
      rw [if_neg (by omega)]
      obtain ⟨g, o, e, _, _⟩ := h.cells (by omega)
      subst e
      have e2 : (some (⟨g, o, none⟩ : Addr)).map (·.add (k * 1)) = some ⟨g, o + k, none⟩ := by simp [Addr.add]
      rw [e2]
      exact h.drop hk

end Go.Proofs.YtegognbnphpigaaDoor
