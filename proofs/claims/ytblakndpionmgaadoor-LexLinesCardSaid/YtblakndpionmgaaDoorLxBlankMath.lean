/-
  Blanks, line feeds and comments around a text change no token but its line. No program in sight.
-/
import Derived.Test.YtblakndpionmgaaDoorLxMath
namespace Go.Proofs.YtblakndpionmgaaDoor
open Go

theorem tw_app {p : UInt8 → Bool} {b : UInt8} (hb : p b = false) (l r : Txt) : (l ++ b :: r).takeWhile p = l.takeWhile p := by
  induction l with
  | nil => rw [List.nil_append, List.takeWhile_cons_of_neg (by rw [hb]; simp)]; rfl
  | cons c l ih =>
    rw [List.cons_append, List.takeWhile_cons, List.takeWhile_cons, ih]
theorem pre_app {b : UInt8} (x l r : Txt) (h : b ∉ x) : x.isPrefixOf (l ++ b :: r) = x.isPrefixOf l := by
  induction x generalizing l with
  | nil => rfl
  | cons c x ih =>
    have hc : c ≠ b := fun e => h (by simp [e])
    have hx : b ∉ x := fun e => h (by simp [e])
    cases l with
    | nil =>
      show (c == b && x.isPrefixOf r) = false
      rw [beq_eq_false_iff_ne.2 hc]; rfl
    | cons d l =>
      show (c == d && x.isPrefixOf (l ++ b :: r)) = (c == d && x.isPrefixOf l)
      rw [ih l hx]
/-- A byte that ends every token. -/
def endB (b : UInt8) : Prop := b = 10 ∨ b = 32 ∨ b = 9
theorem end_id {b : UInt8} (h : endB b) : idB b = false ∧ dgB b = false := by rcases h with rfl | rfl | rfl <;> decide
theorem end_sg {b : UInt8} (h : endB b) {x : Txt} (hx : x ∈ sgs) : b ∉ x := by
  have h1 : sgs.all (fun x => !x.contains 10 && !x.contains 32 && !x.contains 9) = true := by decide
  have h2 := List.all_eq_true.1 h1 x hx
  simp only [Bool.and_eq_true, Bool.not_eq_true', List.contains_eq_mem, decide_eq_false_iff_not] at h2
  rcases h with rfl | rfl | rfl
  · exact h2.1.1
  · exact h2.1.2
  · exact h2.2
theorem find_congr {p q : Txt → Bool} : ∀ {l : List Txt}, (∀ x ∈ l, p x = q x) → l.find? p = l.find? q
  | [], _ => rfl
  | a :: l, h => by
    rw [List.find?_cons, List.find?_cons, h a (by simp), find_congr (fun x hx => h x (by simp [hx]))]
theorem sign_app {b : UInt8} (h : endB b) (l r : Txt) : signO (l ++ b :: r) = signO l := by
  unfold signO
  exact find_congr fun x hx => pre_app x l r (end_sg h hx)
theorem first_app {b : UInt8} (h : endB b) (l r : Txt) (hl : l ≠ []) : firstT (l ++ b :: r) = firstT l := by
  cases l with
  | nil => exact absurd rfl hl
  | cons c l =>
    have e1 := tw_app (end_id h).1 (c :: l) r
    have e2 := tw_app (end_id h).2 (c :: l) r
    have e3 := sign_app h (c :: l) r
    rw [List.cons_append] at e1 e2 e3
    rw [List.cons_append, firstT, firstT, e1, e2, e3]
/-! A comment to the end of a line. -/
theorem toks_comment {f : Nat} {line : Int} {acc : List Tk} (q : Txt) : ∀ (r : Txt), 10 ∉ r → toksF (f + 1) true line (r ++ q) acc = toksF (f + 1) true line q acc := by
  intro r
  induction r with
  | nil => intro _; rfl
  | cons c r ih =>
    intro h
    rw [List.cons_append, toks_skip (fun e => h (by simp [e])) (.inl rfl)]
    exact ih (fun e => h (by simp [e]))
theorem toks_front {f : Nat} {line : Int} {acc : List Tk} (r q : Txt) (h : 10 ∉ r) : toksF (f + 1) false line ([32, 9, 35, 32] ++ r ++ [10] ++ q) acc = toksF (f + 1) false (line + 1) q acc := by
  have e : [32, 9, 35, 32] ++ r ++ [10] ++ q = 32 :: 9 :: 35 :: 32 :: (r ++ (10 :: q)) := by simp
  rw [e, toks_skip (by decide) (.inr (.inl rfl)), toks_skip (by decide) (.inr (.inr rfl)), toks_hash, toks_skip (by decide) (.inl rfl), toks_comment _ _ h, toks_nl]
/-! What stands behind. -/
theorem gap_app {s q : Txt} : ∀ {cm : Bool}, s.drop (gapN cm s) ≠ [] → gapN cm (s ++ q) = gapN cm s := by
  induction s with
  | nil => intro cm h; simp at h
  | cons c s ih =>
    intro cm h
    rw [List.cons_append, gapN, gapN]
    rw [gapN] at h
    split
    · rename_i h1
      rw [if_pos h1, List.drop_succ_cons] at h
      rw [ih h]
    · rename_i h1
      rw [if_neg h1] at h
      split
      · rename_i h2
        rw [if_pos h2, List.drop_succ_cons] at h
        rw [ih h]
      · rename_i h2
        rw [if_neg h2] at h
        split
        · rfl
        · rename_i h3
          rw [if_neg h3, List.drop_succ_cons] at h
          rw [ih h]
theorem gap_all {s q : Txt} (h35 : 35 ∉ s) (h : s.drop (gapN false s) = []) : gapN false (s ++ q) = s.length + gapN false q := by
  induction s with
  | nil => simp
  | cons c s ih =>
    have hc : c ≠ 35 := fun e => h35 (by simp [e])
    have hs : 35 ∉ s := fun e => h35 (by simp [e])
    rw [gapN] at h
    rw [List.cons_append, gapN]
    by_cases h1 : c = 10
    · rw [if_pos h1, List.drop_succ_cons] at h
      rw [if_pos h1, ih hs h, List.length_cons]; omega
    · rw [if_neg h1, if_neg hc] at h
      rw [if_neg h1, if_neg hc]
      by_cases h3 : false = false ∧ c ≠ 32 ∧ c ≠ 9
      · rw [if_pos h3] at h; cases h
      · rw [if_neg h3, List.drop_succ_cons] at h
        rw [if_neg h3, ih hs h, List.length_cons]; omega
theorem gap_comment {r : Txt} (h : 10 ∉ r) : gapN true r = r.length := by
  induction r with
  | nil => rfl
  | cons c r ih =>
    have hc : c ≠ 10 := fun e => h (by simp [e])
    have hr := ih (fun e => h (by simp [e]))
    rw [gapN, if_neg hc]
    split
    · rw [hr]; rfl
    · rw [if_neg (by rintro ⟨e, _⟩; cases e), hr]; rfl
theorem lfs_app (a b : Txt) : lfs (a ++ b) = lfs a + lfs b := by unfold lfs; rw [List.count_append]; omega
theorem lfs_none {a : Txt} (h : 10 ∉ a) : lfs a = 0 := by unfold lfs; rw [List.count_eq_zero_of_not_mem h]; rfl
theorem toks_behind {r : Txt} (h10 : 10 ∉ r) : ∀ (n : Nat) (s : Txt), s.length ≤ n → 35 ∉ s → ∀ (f g : Nat) (line : Int) (acc : List Tk), s.length < f → s.length < g →
    toksF f false line (s ++ 9 :: 32 :: 35 :: r) acc = toksF g false line s acc := by
  intro n
  induction n with
  | zero =>
    intro s hn h35 f g line acc hf hg
    have : s = [] := List.eq_nil_of_length_eq_zero (by omega)
    subst this
    cases f with
    | zero => simp at hf
    | succ f =>
      cases g with
      | zero => simp at hg
      | succ g =>
        rw [List.nil_append, toks_skip (by decide) (.inr (.inr rfl)), toks_skip (by decide) (.inr (.inl rfl)), toks_hash]
        have e1 := toks_end (f := f) (cm := true) (line := line) (l := r) (acc := acc) (by rw [gap_comment h10, List.drop_length])
        have e2 := toks_end (f := g) (cm := false) (line := line) (l := []) (acc := acc) (by simp)
        rw [e1, e2, gap_comment h10, List.take_length, lfs_none h10]
        rfl
  | succ n ih =>
    intro s hn h35 f g line acc hf hg
    cases f with
    | zero => simp at hf
    | succ f =>
      cases g with
      | zero => simp at hg
      | succ g =>
        by_cases h0 : s.drop (gapN false s) = []
        · have hlen : s.length ≤ gapN false s := by
            have := congrArg List.length h0
            rw [List.length_drop] at this
            simp at this
            omega
          have hle := gapN_le false s
          have e2 := toks_end (f := g) (cm := false) (line := line) (l := s) (acc := acc) h0
          have hgS : gapN false (9 :: 32 :: 35 :: r) = (9 :: 32 :: 35 :: r).length := by
            rw [gapN, if_neg (by decide), if_neg (by decide), if_neg (by rintro ⟨_, _, e⟩; exact e rfl), gapN, if_neg (by decide), if_neg (by decide), if_neg (by rintro ⟨_, e, _⟩; exact e rfl), gapN, if_neg (by decide), if_pos rfl, gap_comment h10]
            rfl
          have hga := gap_all (q := 9 :: 32 :: 35 :: r) h35 h0
          rw [hgS, ← List.length_append] at hga
          have e1 := toks_end (f := f) (cm := false) (line := line) (l := s ++ 9 :: 32 :: 35 :: r) (acc := acc) (by rw [hga, List.drop_length])
          rw [e1, e2, hga, List.take_length, lfs_app, List.take_of_length_le hlen]
          rw [show lfs (9 :: 32 :: 35 :: r) = 0 from lfs_none (by simp [h10]), Int.add_zero]
        · have hga := gap_app (q := 9 :: 32 :: 35 :: r) h0
          have hle := gapN_le false s
          have hdr : (s ++ 9 :: 32 :: 35 :: r).drop (gapN false s) = s.drop (gapN false s) ++ 9 :: 32 :: 35 :: r := List.drop_append_of_le_length hle
          have htk : (s ++ 9 :: 32 :: 35 :: r).take (gapN false s) = s.take (gapN false s) := List.take_append_of_le_length hle
          have hfi := first_app (b := 9) (.inr (.inr rfl)) (s.drop (gapN false s)) (32 :: 35 :: r) h0
          cases hft : firstT (s.drop (gapN false s)) with
          | none =>
            rw [hft] at hfi
            rw [toks_bad (f := g) (cm := false) (line := line) (l := s) (acc := acc) h0 hft, toks_bad (f := f) (cm := false) (line := line) (l := s ++ 9 :: 32 :: 35 :: r) (acc := acc) (by rw [hga, hdr]; simp) (by rw [hga, hdr]; exact hfi), hga, htk]
          | some t =>
            rw [hft] at hfi
            obtain ⟨ht1, ht2, -⟩ := first_facts hft
            rw [toks_go (f := g) (cm := false) (line := line) (l := s) (acc := acc) hft, toks_go (f := f) (cm := false) (line := line) (l := s ++ 9 :: 32 :: 35 :: r) (acc := acc) (by rw [hga, hdr]; exact hfi), hga, htk, hdr, List.drop_append_of_le_length ht2]
            have hl2 : ((s.drop (gapN false s)).drop t.text.length).length + 1 ≤ s.length := by
              rw [List.length_drop]
              rw [List.length_drop] at ht2 ⊢
              omega
            exact ih _ (by omega) (fun e => h35 (List.mem_of_mem_drop (List.mem_of_mem_drop e))) f g _ _ (by omega) (by omega)
/-! Lines. -/
def shT (d : Int) (t : Tk) : Tk := ⟨t.kind, t.text, t.n, t.line + d⟩
theorem toks_shift (d : Int) : ∀ (f : Nat) (cm : Bool) (line : Int) (l : Txt) (acc : List Tk),
    toksF f cm (line + d) l (acc.map (shT d)) = ((toksF f cm line l acc).1.map (shT d), (if (toksF f cm line l acc).2.2 = 0 then 0 else (toksF f cm line l acc).2.1 + d), (toksF f cm line l acc).2.2) := by
  intro f
  induction f with
  | zero => intro cm line l acc; rfl
  | succ f ih =>
    intro cm line l acc
    by_cases h0 : l.drop (gapN cm l) = []
    · rw [toks_end h0, toks_end h0]
      simp [shT]; omega
    · cases hft : firstT (l.drop (gapN cm l)) with
      | none =>
        rw [toks_bad h0 hft, toks_bad h0 hft]
        simp; omega
      | some t =>
        rw [toks_go hft, toks_go hft]
        have e : line + d + lfs (l.take (gapN cm l)) = (line + lfs (l.take (gapN cm l))) + d := by omega
        have e2 : acc.map (shT d) ++ [(⟨t.kind, t.text, t.n, line + lfs (l.take (gapN cm l)) + d⟩ : Tk)] = (acc ++ [(⟨t.kind, t.text, t.n, line + lfs (l.take (gapN cm l))⟩ : Tk)]).map (shT d) := by simp [shT]
        rw [e, e2]
        exact ih _ _ _ _
/-- What Tokens hands back. -/
theorem toks_end_zero : ∀ (f : Nat) (cm : Bool) (line : Int) (l : Txt) (acc : List Tk), (toksF f cm line l acc).2.2 = 0 ∧ (toksF f cm line l acc).2.1 = 0 ∨ (toksF f cm line l acc).2.2 = 14 ∧ (toksF f cm line l acc).1 = [] := by
  intro f
  induction f with
  | zero => intro cm line l acc; exact .inl ⟨rfl, rfl⟩
  | succ f ih =>
    intro cm line l acc
    by_cases h0 : l.drop (gapN cm l) = []
    · rw [toks_end h0]; exact .inl ⟨rfl, rfl⟩
    · cases hft : firstT (l.drop (gapN cm l)) with
      | none => rw [toks_bad h0 hft]; exact .inr ⟨rfl, rfl⟩
      | some t => rw [toks_go hft]; exact ih _ _ _ _
theorem toks_lines : ∀ (f : Nat) (cm : Bool) (line : Int) (l : Txt) (acc : List Tk) (B : Int), 1 ≤ line → line + l.length ≤ B → (∀ t ∈ acc, 1 ≤ t.line ∧ t.line ≤ B) →
    (∀ t ∈ (toksF f cm line l acc).1, 1 ≤ t.line ∧ t.line ≤ B) ∧ 0 ≤ (toksF f cm line l acc).2.1 ∧ (toksF f cm line l acc).2.1 ≤ B := by
  intro f
  induction f with
  | zero => intro cm line l acc B h1 h2 h3; exact ⟨h3, Int.le_refl _, (by show (0 : Int) ≤ B; omega)⟩
  | succ f ih =>
    intro cm line l acc B h1 h2 h3
    have hle := gapN_le cm l
    have hlf := lfs_le (l.take (gapN cm l))
    rw [List.length_take] at hlf
    by_cases h0 : l.drop (gapN cm l) = []
    · rw [toks_end h0]
      refine ⟨fun t ht => ?_, Int.le_refl _, by show (0 : Int) ≤ B; omega⟩
      rcases List.mem_append.1 ht with h | h
      · exact h3 t h
      · rw [List.mem_singleton.1 h]
        exact ⟨(by show 1 ≤ line + lfs (l.take (gapN cm l)); omega), (by show line + lfs (l.take (gapN cm l)) ≤ B; omega)⟩
    · cases hft : firstT (l.drop (gapN cm l)) with
      | none =>
        rw [toks_bad h0 hft]
        exact ⟨fun t ht => (by cases ht), (by show 0 ≤ line + lfs (l.take (gapN cm l)); omega), (by show line + lfs (l.take (gapN cm l)) ≤ B; omega)⟩
      | some t =>
        rw [toks_go hft]
        obtain ⟨ht1, ht2, -⟩ := first_facts hft
        rw [List.length_drop] at ht2
        refine ih _ _ _ _ B (by omega) (by rw [List.length_drop, List.length_drop]; omega) (fun u hu => ?_)
        rcases List.mem_append.1 hu with h | h
        · exact h3 u h
        · rw [List.mem_singleton.1 h]
          exact ⟨(by show 1 ≤ line + lfs (l.take (gapN cm l)); omega), (by show line + lfs (l.take (gapN cm l)) ≤ B; omega)⟩
theorem tokens_lines {l : Txt} (h : l.length ≤ 40000) : (∀ t ∈ (tokens l).1, 1 ≤ t.line ∧ t.line ≤ 40001) ∧ 0 ≤ (tokens l).2.1 ∧ (tokens l).2.1 ≤ 40001 := by
  unfold tokens
  rw [if_neg (by omega)]
  exact toks_lines _ _ _ _ _ 40001 (by omega) (by omega) (fun t ht => by cases ht)
theorem tokens_kind {l : Txt} (h : l.length ≤ 40000) : (tokens l).2.2 = 0 ∧ (tokens l).2.1 = 0 ∨ (tokens l).2.2 = 14 ∧ (tokens l).1 = [] := by
  unfold tokens
  rw [if_neg (by omega)]
  exact toks_end_zero _ _ _ _ _
theorem tokens_blank {s r : Txt} (hs : s.length ≤ 3000) (hr : r.length ≤ 100) (h35 : 35 ∉ s) (h10 : 10 ∉ r) :
    tokens ([32, 9, 35, 32] ++ r ++ [10] ++ s ++ [9, 32, 35] ++ r) = ((tokens s).1.map (shT 1), (if (tokens s).2.2 = 0 then 0 else (tokens s).2.1 + 1), (tokens s).2.2) := by
  have hlen : ([32, 9, 35, 32] ++ r ++ [10] ++ s ++ [9, 32, 35] ++ r).length = s.length + 2 * r.length + 8 := by simp; omega
  have e0 : [32, 9, 35, 32] ++ r ++ [10] ++ s ++ [9, 32, 35] ++ r = [32, 9, 35, 32] ++ r ++ [10] ++ (s ++ 9 :: 32 :: 35 :: r) := by simp
  unfold tokens
  rw [if_neg (by omega), if_neg (by omega), hlen, e0, toks_front r _ h10, toks_behind h10 s.length s (Nat.le_refl _) h35 _ (s.length + 1) _ _ (by omega) (by omega)]
  exact toks_shift 1 (s.length + 1) false 1 s []
end Go.Proofs.YtblakndpionmgaaDoor
