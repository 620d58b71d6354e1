/-
  Tokens of the text of tokens are these tokens. No program in sight.
-/
import Derived.Test.YtblakndpionmgaaDoorLxBlankMath
import Derived.Test.YtblakndpionmgaaDoorLxTextMath
namespace Go.Proofs.YtblakndpionmgaaDoor
open Go

theorem toks_acc : ∀ (f : Nat) (cm : Bool) (line : Int) (l : Txt) (acc : List Tk),
    toksF f cm line l acc = if (toksF f cm line l []).2.2 = 0 then (acc ++ (toksF f cm line l []).1, 0, 0) else toksF f cm line l [] := by
  intro f
  induction f with
  | zero => intro cm line l acc; simp [toksF]
  | succ f ih =>
    intro cm line l acc
    by_cases h0 : l.drop (gapN cm l) = []
    · rw [toks_end h0, toks_end h0]; simp
    · cases hft : firstT (l.drop (gapN cm l)) with
      | none => rw [toks_bad h0 hft, toks_bad h0 hft]; simp
      | some t =>
        rw [toks_go hft, toks_go hft, ih _ _ _ (acc ++ _), ih _ _ _ ([] ++ _)]
        by_cases he : (toksF f false (line + lfs (l.take (gapN cm l))) ((l.drop (gapN cm l)).drop t.text.length) []).2.2 = 0
        · rw [if_pos he, if_pos he]; simp
        · rw [if_neg he, if_neg he, if_neg he]
def wfT : Int → List Tk → Prop
  | _, [] => False
  | p, t :: r => p ≤ t.line ∧ ((r = [] ∧ t.kind = 0 ∧ t.text = [] ∧ t.n = 0) ∨ (t.kind ≠ 0 ∧ firstT t.text = some ⟨t.kind, t.text, t.n, 0⟩ ∧ t.text.length ≤ 40000 ∧ wfT t.line r))
/-! A token's text is read as this token. -/
theorem tw_tw (p : UInt8 → Bool) (l : Txt) : (l.takeWhile p).takeWhile p = l.takeWhile p := by
  induction l with
  | nil => rfl
  | cons c l ih =>
    rw [List.takeWhile_cons]
    split
    · rename_i h
      rw [List.takeWhile_cons_of_pos h, ih]
    · rfl
theorem sg_self {x : Txt} (h : x ∈ sgs) : signO x = some x := by
  have h1 : sgs.all (fun x => decide (signO x = some x)) = true := by decide +kernel
  exact of_decide_eq_true (List.all_eq_true.1 h1 x h)
theorem first_line {l : Txt} {t : Tk} (h : firstT l = some t) : t.line = 0 := by
  cases l with
  | nil => cases h
  | cons c r =>
    rw [firstT] at h
    split at h
    · cases h; rfl
    · split at h
      · cases h; rfl
      · split at h
        · split at h
          · cases h; rfl
          · cases h
        · cases hs : signO (c :: r) with
          | none => rw [hs] at h; cases h
          | some s => rw [hs] at h; cases h; rfl
theorem first_idem {l : Txt} {t : Tk} (h : firstT l = some t) : firstT t.text = some t := by
  cases l with
  | nil => cases h
  | cons c r =>
    rw [firstT] at h
    split at h
    · rename_i hc
      cases h
      show firstT ((c :: r).takeWhile idB) = _
      have e : (c :: r).takeWhile idB = c :: r.takeWhile idB := List.takeWhile_cons_of_pos (by unfold idB; rw [hc]; rfl)
      have e2 := tw_tw idB (c :: r)
      rw [e] at e2 ⊢
      rw [firstT, if_pos hc, e2]
    · rename_i h1
      split at h
      · rename_i hc
        cases h
        show firstT ((c :: r).takeWhile idB) = _
        have e : (c :: r).takeWhile idB = c :: r.takeWhile idB := List.takeWhile_cons_of_pos (by unfold idB; rw [hc]; simp)
        have e2 := tw_tw idB (c :: r)
        rw [e] at e2 ⊢
        rw [firstT, if_neg h1, if_pos hc, e2]
      · rename_i h2
        split at h
        · rename_i hc
          split at h
          · rename_i hv
            cases h
            show firstT ((c :: r).takeWhile dgB) = _
            have e : (c :: r).takeWhile dgB = c :: r.takeWhile dgB := List.takeWhile_cons_of_pos hc
            have e2 := tw_tw dgB (c :: r)
            rw [e] at e2 hv ⊢
            rw [firstT, if_neg h1, if_neg h2, if_pos hc, e2, if_pos hv]
          · cases h
        · rename_i h3
          cases hs : signO (c :: r) with
          | none => rw [hs] at h; cases h
          | some s =>
            rw [hs] at h
            cases h
            obtain ⟨hm, hp⟩ := sign_mem hs
            have hl := sgs_len hm
            cases s with
            | nil => simp at hl
            | cons d q =>
              have hd : d = c := by
                have : (d == c && q.isPrefixOf r) = true := hp
                rw [Bool.and_eq_true, beq_iff_eq] at this
                exact this.1
              subst hd
              show firstT (d :: q) = _
              rw [firstT, if_neg h1, if_neg h2, if_neg h3, sg_self hm]; rfl
theorem first_head {c : UInt8} {r : Txt} {t : Tk} (h : firstT (c :: r) = some t) : c ≠ 10 ∧ c ≠ 35 ∧ c ≠ 32 ∧ c ≠ 9 := by
  have hk : ∀ b : UInt8, b = 10 ∨ b = 35 ∨ b = 32 ∨ b = 9 → smB b = false ∧ cpB b = false ∧ dgB b = false ∧ sgs.all (fun x => x.head? != some b) = true := by
    rintro b (rfl | rfl | rfl | rfl) <;> exact ⟨by decide, by decide, by decide, by decide⟩
  by_cases hc : c = 10 ∨ c = 35 ∨ c = 32 ∨ c = 9
  · exfalso
    obtain ⟨h1, h2, h3, h4⟩ := hk c hc
    rw [firstT, if_neg (by rw [h1]; simp), if_neg (by rw [h2]; simp), if_neg (by rw [h3]; simp)] at h
    cases hs : signO (c :: r) with
    | none => rw [hs] at h; cases h
    | some s =>
      obtain ⟨hm, hp⟩ := sign_mem hs
      have hl := sgs_len hm
      cases s with
      | nil => simp at hl
      | cons d q =>
        have hd : d = c := by
          have : (d == c && q.isPrefixOf r) = true := hp
          rw [Bool.and_eq_true, beq_iff_eq] at this
          exact this.1
        have := List.all_eq_true.1 h4 _ hm
        rw [hd] at this
        simp at this
  · exact ⟨fun e => hc (.inl e), fun e => hc (.inr (.inl e)), fun e => hc (.inr (.inr (.inl e))), fun e => hc (.inr (.inr (.inr e)))⟩
/-! What Tokens returns is well formed, and its text is short. -/
def bodyT : Bool → Int → List Tk → Txt
  | _, _, [] => []
  | b, line, t :: r => gapT b (t.line - line) t ++ t.text ++ bodyT false t.line r
theorem gapT_len (b : Bool) (d : Int) (t : Tk) : (gapT b d t).length ≤ d.toNat + 1 := by
  unfold gapT
  rw [List.length_append, List.length_replicate]
  split <;> simp
theorem toks_wf : ∀ (f : Nat) (cm : Bool) (line : Int) (l : Txt), l.length < f → l.length ≤ 40000 → (toksF f cm line l []).2.2 = 0 → wfT line (toksF f cm line l []).1 ∧ ∀ b, (bodyT b line (toksF f cm line l []).1).length ≤ 2 * l.length := by
  intro f
  induction f with
  | zero => intro cm line l h; omega
  | succ f ih =>
    intro cm line l hf hl he
    have hle := gapN_le cm l
    have hlf := lfs_le (l.take (gapN cm l))
    rw [List.length_take] at hlf
    by_cases h0 : l.drop (gapN cm l) = []
    · rw [toks_end h0]
      refine ⟨⟨by show line ≤ line + lfs _; omega, .inl ⟨rfl, rfl, rfl, rfl⟩⟩, fun b => ?_⟩
      show (gapT b (line + lfs (l.take (gapN cm l)) - line) ⟨0, [], 0, line + lfs (l.take (gapN cm l))⟩ ++ [] ++ []).length ≤ _
      have : gapT b (line + lfs (l.take (gapN cm l)) - line) ⟨0, [], 0, line + lfs (l.take (gapN cm l))⟩ = List.replicate (line + lfs (l.take (gapN cm l)) - line).toNat 10 := by
        unfold gapT; rw [if_neg (by rintro ⟨_, _, h⟩; exact h rfl), List.append_nil]
      rw [this]
      simp
      omega
    · cases hft : firstT (l.drop (gapN cm l)) with
      | none => rw [toks_bad h0 hft] at he; cases he
      | some t =>
        obtain ⟨ht1, ht2, -, hk1, -, -, -⟩ := first_facts hft
        have hid := first_idem hft
        have hln := first_line hft
        rw [List.length_drop] at ht2
        rw [toks_go hft, List.nil_append, toks_acc] at he ⊢
        by_cases he2 : (toksF f false (line + lfs (l.take (gapN cm l))) ((l.drop (gapN cm l)).drop t.text.length) []).2.2 = 0
        · have hrl : ((l.drop (gapN cm l)).drop t.text.length).length + t.text.length + gapN cm l = l.length := by rw [List.length_drop, List.length_drop]; omega
          obtain ⟨i1, i2⟩ := ih false (line + lfs (l.take (gapN cm l))) _ (by omega) (by omega) he2
          rw [if_pos he2]
          obtain ⟨R, hR⟩ : ∃ R, (toksF f false (line + lfs (l.take (gapN cm l))) ((l.drop (gapN cm l)).drop t.text.length) []).1 = R := ⟨_, rfl⟩
          rw [hR] at i1 i2 ⊢
          refine ⟨⟨by show line ≤ line + lfs _; omega, .inr ⟨by show t.kind ≠ 0; omega, ?_, by show t.text.length ≤ 40000; omega, i1⟩⟩, fun b => ?_⟩
          · show firstT t.text = some ⟨t.kind, t.text, t.n, 0⟩
            rw [hid]; cases t; simp only at hln; rw [hln]
          · show (gapT b (line + lfs (l.take (gapN cm l)) - line) ⟨t.kind, t.text, t.n, line + lfs (l.take (gapN cm l))⟩ ++ t.text ++ bodyT false (line + lfs (l.take (gapN cm l))) R).length ≤ _
            have h1 := i2 false
            have h2 := gapT_len b (line + lfs (l.take (gapN cm l)) - line) ⟨t.kind, t.text, t.n, line + lfs (l.take (gapN cm l))⟩
            simp only [List.length_append] at h1 h2 ⊢
            omega
        · rw [if_neg he2] at he; exact absurd he he2
/-! The text of such a list. -/
theorem wf_check {ts : List Tk} : ∀ {p : Int}, 1 ≤ p → wfT p ts → checkF p ts = 0 := by
  induction ts with
  | nil => intro p _ h; cases h
  | cons t r ih =>
    intro p hp h
    obtain ⟨h1, h2⟩ := h
    rw [checkF]
    rcases h2 with ⟨rfl, hk, ht, hn⟩ | ⟨hk, hf, hlen, hr⟩
    · have hfit : fitTk t = true := by
        unfold fitTk
        rw [if_neg (by rw [ht]; simp; omega), if_pos hk, ht, hn]; rfl
      rw [if_neg (by rw [hfit]; simp), if_neg (by omega)]; rfl
    · have hfit : fitTk t = true := by
        unfold fitTk
        rw [if_neg (by omega), if_neg hk, hf]; simp
      rw [if_neg (by rw [hfit]; rintro (h | ⟨h, _⟩); cases h; exact hk h), if_neg (by omega)]
      exact ih (by omega) hr
theorem feeds_le (b : Bool) (d : Int) (t : Tk) : d ≤ (gapT b d t).length := by
  unfold gapT
  rw [List.length_append, List.length_replicate]
  omega
theorem text_body {ts : List Tk} : ∀ {b : Bool} {line : Int} {out : Txt}, out.length + (bodyT b line ts).length ≤ 40000 → textF b line out ts = some (out ++ bodyT b line ts) := by
  induction ts with
  | nil => intro b line out _; simp [textF, bodyT]
  | cons t r ih =>
    intro b line out h
    rw [bodyT] at h ⊢
    have h1 := feeds_le b (t.line - line) t
    simp only [List.length_append] at h
    rw [textF, if_neg (by omega), if_neg (by simp only [List.length_append]; omega), ih (by simp only [List.length_append]; omega)]
    simp
theorem toks_feeds {f : Nat} {acc : List Tk} (q : Txt) : ∀ (d : Nat) (line : Int), toksF (f + 1) false line (List.replicate d 10 ++ q) acc = toksF (f + 1) false (line + d) q acc := by
  intro d
  induction d with
  | zero => intro line; simp
  | succ d ih =>
    intro line
    rw [List.replicate_succ, List.cons_append, toks_nl, ih]
    congr 1; omega
/-- How the text of the rest begins. -/
theorem body_head {p : Int} {ts : List Tk} (h : wfT p ts) : bodyT false p ts = [] ∨ ∃ b q, endB b ∧ bodyT false p ts = b :: q := by
  cases ts with
  | nil => cases h
  | cons t r =>
    obtain ⟨h1, h2⟩ := h
    by_cases hd : t.line - p = 0
    · rcases h2 with ⟨rfl, hk, ht, hn⟩ | ⟨hk, hf, hlen, hr⟩
      · left
        rw [bodyT, hd, ht]
        unfold gapT
        rw [if_neg (by rintro ⟨_, _, h⟩; exact h hk)]
        rfl
      · right
        refine ⟨32, t.text ++ bodyT false t.line r, .inr (.inl rfl), ?_⟩
        rw [bodyT, hd]
        unfold gapT
        rw [if_pos ⟨rfl, rfl, hk⟩]
        simp
    · right
      obtain ⟨d, hdd⟩ : ∃ d : Nat, (t.line - p).toNat = d + 1 := ⟨(t.line - p).toNat - 1, by omega⟩
      rw [bodyT]
      unfold gapT
      rw [hdd, List.replicate_succ]
      exact ⟨10, _, .inl rfl, rfl⟩
theorem parse_body {ts : List Tk} : ∀ {b : Bool} {p : Int} {g : Nat}, wfT p ts → (bodyT b p ts).length < g → toksF g false p (bodyT b p ts) [] = (ts, 0, 0) := by
  induction ts with
  | nil => intro b p g h; cases h
  | cons t r ih =>
    intro b p g h hg
    obtain ⟨h1, h2⟩ := h
    cases g with
    | zero => omega
    | succ g =>
      have hln : p + ((t.line - p).toNat : Nat) = t.line := by omega
      rcases h2 with ⟨rfl, hk, ht, hn⟩ | ⟨hk, hf, hlen, hr⟩
      · have e : bodyT b p [t] = List.replicate (t.line - p).toNat 10 ++ [] := by
          rw [bodyT, ht]
          unfold gapT
          rw [if_neg (by rintro ⟨_, _, h⟩; exact h hk)]
          simp [bodyT]
        rw [e, toks_feeds, hln, toks_end (by simp)]
        have : lfs ([].take (gapN false [])) = 0 := rfl
        rw [this, Int.add_zero]
        cases t; simp only at hk ht hn; rw [hk, ht, hn]; rfl
      · have hne : t.text ≠ [] := by intro e; rw [e] at hf; cases hf
        obtain ⟨c, q, hcq⟩ : ∃ c q, t.text = c :: q := by
          cases hq : t.text with
          | nil => exact absurd hq hne
          | cons c q => exact ⟨c, q, rfl⟩
        have hhd := first_head (c := c) (r := q) (by rw [← hcq]; exact hf)
        have hstep : ∀ acc, toksF (g + 1) false t.line (t.text ++ bodyT false t.line r) acc = toksF g false t.line (bodyT false t.line r) (acc ++ [t]) := by
          intro acc
          have hgz : gapN false (t.text ++ bodyT false t.line r) = 0 := by rw [hcq, List.cons_append]; exact gap_zero hhd.1 hhd.2.1 hhd.2.2.1 hhd.2.2.2
          have hfa : firstT (t.text ++ bodyT false t.line r) = some ⟨t.kind, t.text, t.n, 0⟩ := by
            rcases body_head hr with e | ⟨b', q', hb', e⟩
            · rw [e, List.append_nil]; exact hf
            · rw [e, first_app hb' _ _ hne]; exact hf
          rw [toks_go (t := ⟨t.kind, t.text, t.n, 0⟩) (by rw [hgz, List.drop_zero]; exact hfa), hgz, List.drop_zero, List.take_zero]
          have : lfs [] = 0 := rfl
          rw [this, Int.add_zero]
          show toksF g false t.line ((t.text ++ bodyT false t.line r).drop t.text.length) _ = _
          rw [List.drop_left]
        have hlen2 : (bodyT false t.line r).length < g := by
          rw [bodyT] at hg
          simp only [List.length_append, hcq, List.length_cons] at hg
          omega
        have hrec := ih (b := false) (p := t.line) (g := g) hr hlen2
        have hfin : toksF (g + 1) false t.line (t.text ++ bodyT false t.line r) [] = (t :: r, 0, 0) := by
          rw [hstep, toks_acc, hrec, if_pos rfl]; rfl
        rw [bodyT]
        unfold gapT
        split
        · rename_i hsp
          have hz : (t.line - p).toNat = 0 := by rw [hsp.2.1]; rfl
          rw [hz]
          show toksF (g + 1) false p (32 :: (t.text ++ bodyT false t.line r)) [] = _
          rw [toks_skip (by decide) (.inr (.inl rfl))]
          have : p = t.line := by omega
          rw [this]; exact hfin
        · rw [List.append_nil, List.append_assoc, toks_feeds, hln]; exact hfin
/-- Tokens are read back from their text, which is its own canonical text. -/
theorem round_trip {s : Txt} (hs : s.length ≤ 3000) (he : (tokens s).2.2 = 0) : ∃ t, textR (tokens s).1 = (t, 0) ∧ tokens t = ((tokens s).1, 0, 0) ∧ wfT 1 (tokens s).1 := by
  unfold tokens at he ⊢
  rw [if_neg (by omega)] at he ⊢
  obtain ⟨h1, h2⟩ := toks_wf (s.length + 1) false 1 s (by omega) (by omega) he
  have hb := h2 true
  refine ⟨bodyT true 1 (toksF (s.length + 1) false 1 s []).1, ?_, ?_, h1⟩
  · unfold textR
    rw [if_neg (by rw [wf_check (by omega) h1]; simp), text_body (by simp; omega)]
    rfl
  · rw [if_neg (by omega)]
    exact parse_body h1 (by omega)
theorem toks_count : ∀ (f : Nat) (cm : Bool) (line : Int) (l : Txt), (toksF f cm line l []).1.length ≤ l.length + 1 := by
  intro f
  induction f with
  | zero => intro cm line l; simp [toksF]
  | succ f ih =>
    intro cm line l
    by_cases h0 : l.drop (gapN cm l) = []
    · rw [toks_end h0]; simp
    · cases hft : firstT (l.drop (gapN cm l)) with
      | none => rw [toks_bad h0 hft]; simp
      | some t =>
        obtain ⟨ht1, ht2, -⟩ := first_facts hft
        rw [List.length_drop] at ht2
        have h1 := ih false (line + lfs (l.take (gapN cm l))) ((l.drop (gapN cm l)).drop t.text.length)
        rw [List.length_drop, List.length_drop] at h1
        rw [toks_go hft, toks_acc]
        split
        · simp only [List.length_append, List.length_cons, List.length_nil]; omega
        · omega
theorem tokens_count {l : Txt} (h : l.length ≤ 3000) : (tokens l).1.length ≤ 3001 := by
  unfold tokens
  rw [if_neg (by omega)]
  have := toks_count (l.length + 1) false 1 l
  omega
theorem wf_last {ts : List Tk} : ∀ {p : Int}, wfT p ts → 0 < ts.length ∧ (ts.getD (ts.length - 1) ⟨0, [], 0, 0⟩).kind = 0 := by
  induction ts with
  | nil => intro p h; cases h
  | cons t r ih =>
    intro p h
    refine ⟨by simp, ?_⟩
    obtain ⟨-, h2⟩ := h
    rcases h2 with ⟨rfl, hk, -⟩ | ⟨-, -, -, hr⟩
    · exact hk
    · obtain ⟨h3, h4⟩ := ih hr
      cases r with
      | nil => simp at h3
      | cons u q =>
        have : (t :: u :: q).length - 1 = ((u :: q).length - 1) + 1 := by simp
        rw [this]
        exact h4
theorem toks_bad_line : ∀ (f : Nat) (cm : Bool) (line : Int) (l : Txt) (acc : List Tk), 1 ≤ line → (toksF f cm line l acc).2.2 ≠ 0 → 1 ≤ (toksF f cm line l acc).2.1 := by
  intro f
  induction f with
  | zero => intro cm line l acc _ h; exact absurd rfl h
  | succ f ih =>
    intro cm line l acc h1 h
    have hlf := lfs_le (l.take (gapN cm l))
    by_cases h0 : l.drop (gapN cm l) = []
    · rw [toks_end h0] at h; exact absurd rfl h
    · cases hft : firstT (l.drop (gapN cm l)) with
      | none => rw [toks_bad h0 hft]; show 1 ≤ line + lfs (l.take (gapN cm l)); omega
      | some t =>
        rw [toks_go hft] at h ⊢
        exact ih _ _ _ _ (by omega) h
end Go.Proofs.YtblakndpionmgaaDoor
