/-
  Lines of tokens that do not decrease, and of texts of words. No program in sight.
-/
import Derived.Test.YtblakndpionmgaaDoorLxM
import Derived.Test.YtblakndpionmgaaDoorLxRoundMath
namespace Go.Proofs.YtblakndpionmgaaDoor
open Go.RowKit

theorem wf_adj {ts : List Tk} : ∀ {p : Int}, wfT p ts → p ≤ (ts.getD 0 tk0).line ∧ ∀ i, i + 1 < ts.length → (ts.getD i tk0).line ≤ (ts.getD (i + 1) tk0).line ∧ (ts.getD i tk0).kind ≠ 0 := by
  induction ts with
  | nil => intro p h; cases h
  | cons t r ih =>
    intro p h
    obtain ⟨h1, h2⟩ := h
    refine ⟨h1, fun i hi => ?_⟩
    rcases h2 with ⟨rfl, -⟩ | ⟨hk, -, -, hr⟩
    · simp at hi
    · obtain ⟨h3, h4⟩ := ih hr
      cases i with
      | zero => exact ⟨h3, hk⟩
      | succ i => exact h4 i (by simpa using hi)
theorem wf_mono {ts : List Tk} {p : Int} (h : wfT p ts) : ∀ (d i : Nat), i + d < ts.length → (ts.getD i tk0).line ≤ (ts.getD (i + d) tk0).line := by
  intro d
  induction d with
  | zero => intro i _; exact Int.le_refl _
  | succ d ih =>
    intro i hi
    exact Int.le_trans (ih i (by omega)) ((wf_adj h).2 (i + d) (by omega)).1
theorem mem_addI {acc : List Int} {x y : Int} : y ∈ addI acc x ↔ y ∈ acc ∨ y = x := by
  unfold addI
  split
  · rename_i h; exact ⟨.inl, fun e => e.elim id (fun e => e ▸ h)⟩
  · rw [List.mem_append, List.mem_singleton]
theorem mem_fold {y : Int} : ∀ (xs acc : List Int), y ∈ xs.foldl addI acc ↔ y ∈ acc ∨ y ∈ xs
  | [], acc => by simp
  | x :: xs, acc => by rw [List.foldl_cons, mem_fold xs, mem_addI, List.mem_cons, or_assoc]
theorem mem_linesI {xs : List Int} {y : Int} : y ∈ linesI xs ↔ y ∈ xs := by unfold linesI; rw [mem_fold]; simp
theorem linesI_snoc (xs : List Int) (x : Int) : linesI (xs ++ [x]) = addI (linesI xs) x := by unfold linesI; rw [List.foldl_append]; rfl
theorem mem_keys {ts : List Tk} {x : Int} (h : x ∈ keysL ts) : ∃ j, j < ts.length ∧ (ts.getD j tk0).line = x := by
  unfold keysL at h
  obtain ⟨t, ht, rfl⟩ := List.mem_map.1 h
  obtain ⟨hm, -⟩ := List.mem_filter.1 ht
  obtain ⟨j, hj, rfl⟩ := List.mem_iff_getElem.1 hm
  exact ⟨j, hj, by simp [List.getD, hj]⟩
theorem keys_mem {ts : List Tk} {j : Nat} (hj : j < ts.length) (hk : (ts.getD j tk0).kind ≠ 0) : (ts.getD j tk0).line ∈ keysL ts := by
  have e : ts.getD j tk0 = ts[j] := by simp [List.getD, hj]
  rw [e] at hk ⊢
  unfold keysL
  exact List.mem_map.2 ⟨_, List.mem_filter.2 ⟨List.getElem_mem hj, by simpa using hk⟩, rfl⟩
theorem getD_take {ts : List Tk} {j k : Nat} (h : j < k) : (ts.take k).getD j tk0 = ts.getD j tk0 := by
  simp [List.getD, h]
/-- One more line is counted just if it is a new one. -/
theorem lines_new {ts : List Tk} {p : Int} (hw : wfT p ts) {k : Nat} (hk : k < ts.length) (hn : (ts.getD k tk0).kind ≠ 0) (h : k = 0 ∨ (ts.getD (k - 1) tk0).line < (ts.getD k tk0).line) :
    (linesI (keysL (ts.take (k + 1)))).length = (linesI (keysL (ts.take k))).length + 1 := by
  rw [keys_add hk hn, linesI_snoc]
  unfold addI
  rw [if_neg]
  · simp
  · rw [mem_linesI]
    intro hm
    obtain ⟨j, hj, e⟩ := mem_keys hm
    rw [List.length_take] at hj
    rw [getD_take (by omega)] at e
    rcases h with h | h
    · omega
    · have := wf_mono hw (k - 1 - j) j (by omega)
      rw [show j + (k - 1 - j) = k - 1 by omega] at this
      omega
theorem lines_old {ts : List Tk} {p : Int} (hw : wfT p ts) {k : Nat} (hk : k < ts.length) (hn : (ts.getD k tk0).kind ≠ 0) (h0 : 0 < k) (h : ¬ (ts.getD (k - 1) tk0).line < (ts.getD k tk0).line) :
    (linesI (keysL (ts.take (k + 1)))).length = (linesI (keysL (ts.take k))).length := by
  have ha := (wf_adj hw).2 (k - 1) (by omega)
  rw [show k - 1 + 1 = k by omega] at ha
  have e : (ts.getD k tk0).line = (ts.getD (k - 1) tk0).line := by omega
  rw [keys_add hk hn, linesI_snoc]
  unfold addI
  rw [if_pos]
  rw [mem_linesI, e]
  have := keys_mem (ts := ts.take k) (j := k - 1) (by rw [List.length_take]; omega) (by rw [getD_take (by omega)]; exact ha.2)
  rwa [getD_take (by omega)] at this
/-! A text of n words, one a line. -/
def repW : Nat → Txt
  | 0 => []
  | n + 1 => 120 :: 49 :: 10 :: repW n
theorem repW_snoc (n : Nat) : repW n ++ [120, 49, 10] = repW (n + 1) := by
  induction n with
  | zero => rfl
  | succ n ih => rw [repW, List.cons_append, List.cons_append, List.cons_append, ih]; rfl
theorem repW_len (n : Nat) : (repW n).length = 3 * n := by
  induction n with
  | zero => rfl
  | succ n ih => rw [repW, List.length_cons, List.length_cons, List.length_cons, ih]; omega
def wtoks : Nat → Int → List Tk
  | 0, line => [⟨0, [], 0, line⟩]
  | n + 1, line => ⟨1, [120, 49], 0, line⟩ :: wtoks n (line + 1)
theorem wtoks_len (n : Nat) (line : Int) : (wtoks n line).length = n + 1 := by
  induction n generalizing line with
  | zero => rfl
  | succ n ih => rw [wtoks, List.length_cons, ih]
theorem toks_words : ∀ (n f : Nat) (line : Int), 3 * n < f → toksF f false line (repW n) [] = (wtoks n line, 0, 0) := by
  intro n
  induction n with
  | zero =>
    intro f line hf
    cases f with
    | zero => omega
    | succ f =>
      rw [repW, toks_end (by simp)]
      have : lfs ([].take (gapN false [])) = 0 := rfl
      rw [this, Int.add_zero]; rfl
  | succ n ih =>
    intro f line hf
    cases f with
    | zero => omega
    | succ f =>
      have hg : gapN false (repW (n + 1)) = 0 := gap_zero (by decide) (by decide) (by decide) (by decide)
      have hfi : firstT (repW (n + 1)) = some ⟨1, [120, 49], 0, 0⟩ := by
        have := first_app (b := 10) (.inl rfl) [120, 49] (repW n) (by simp)
        exact this.trans (by rfl)
      cases f with
      | zero => omega
      | succ f =>
        rw [toks_go (t := ⟨1, [120, 49], 0, 0⟩) (by rw [hg, List.drop_zero]; exact hfi), hg, List.drop_zero, List.take_zero]
        have : lfs [] = 0 := rfl
        rw [this, Int.add_zero]
        show toksF (f + 1) false line (10 :: repW n) _ = _
        rw [toks_nl, toks_acc, ih (f + 1) (line + 1) (by omega), if_pos rfl]
        rfl
theorem linesI_nodup : ∀ (xs acc : List Int), (acc ++ xs).Nodup → xs.foldl addI acc = acc ++ xs
  | [], acc, _ => by simp
  | x :: xs, acc, h => by
    have hx : x ∉ acc := fun hm => by
      rw [List.nodup_append] at h
      exact h.2.2 x hm x (by simp) rfl
    rw [List.foldl_cons]
    unfold addI
    rw [if_neg hx]
    have := linesI_nodup xs (acc ++ [x]) (by simpa using h)
    unfold addI at this
    rw [this]
    simp
theorem words_keys (n : Nat) (line : Int) : (keysL (wtoks n line)).length = n ∧ (keysL (wtoks n line)).Nodup ∧ ∀ x ∈ keysL (wtoks n line), line ≤ x := by
  induction n generalizing line with
  | zero => exact ⟨rfl, List.nodup_nil, fun x hx => by cases hx⟩
  | succ n ih =>
    obtain ⟨h1, h2, h3⟩ := ih (line + 1)
    have e : keysL (wtoks (n + 1) line) = line :: keysL (wtoks n (line + 1)) := rfl
    rw [e]
    refine ⟨by rw [List.length_cons, h1], List.nodup_cons.2 ⟨fun hm => ?_, h2⟩, fun x hx => ?_⟩
    · have := h3 line hm; omega
    · rcases List.mem_cons.1 hx with rfl | h
      · exact Int.le_refl _
      · have := h3 x h; omega
theorem words_lines (n : Nat) (line : Int) : linesN (wtoks n line) = n := by
  obtain ⟨h1, h2, -⟩ := words_keys n line
  unfold linesN linesI
  rw [linesI_nodup _ [] (by simpa using h2)]
  simpa using h1
theorem words_tokens {n : Nat} (h : n ≤ 255) : tokens (repW n) = (wtoks n 1, 0, 0) := by
  unfold tokens
  rw [if_neg (by rw [repW_len]; omega)]
  exact toks_words n _ 1 (by rw [repW_len]; omega)
theorem words_bd (n : Nat) (line : Int) (h1 : 1 ≤ line) : ∀ t ∈ wtoks n line, 1 ≤ t.line ∧ t.line ≤ line + n := by
  induction n generalizing line with
  | zero => intro t ht; rw [wtoks, List.mem_singleton] at ht; subst ht; exact ⟨h1, by show line ≤ line + ((0 : Nat) : Int); omega⟩
  | succ n ih =>
    intro t ht
    rw [wtoks, List.mem_cons] at ht
    rcases ht with rfl | ht
    · exact ⟨h1, by show line ≤ line + _; omega⟩
    · have := ih (line + 1) (by omega) t ht
      omega
end Go.Proofs.YtblakndpionmgaaDoor
