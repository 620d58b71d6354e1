/-
  Plain facts on tokens of texts. No program in sight.
-/
import Derived.Test.YtblakndpionmgaaDoorNmMath
namespace Go.Proofs.YtblakndpionmgaaDoor
open Go

/-- A token. -/
structure Tk where
  kind : Int
  text : Txt
  n : Int
  line : Int
def tkB (a b : Tk) : Bool := decide (a.kind = b.kind) && decide (a.text = b.text) && decide (a.n = b.n) && decide (a.line = b.line)
theorem tkB_eq {a b : Tk} : tkB a b = true ↔ a = b := by
  unfold tkB
  cases a; cases b
  simp [and_assoc]
def idB (c : UInt8) : Bool := smB c || cpB c || dgB c || c == 95
def valN (l : Txt) : Nat := l.foldl (fun n c => 10 * n + (c.toNat - 48)) 0
def sgs : List Txt := [[60, 61, 62], [45, 62], [61, 62], [60, 61], [62, 61], [33, 61], [61, 61], [38, 38], [124, 124], [43], [45], [42], [47], [37], [40], [41], [123], [125], [91], [93], [60], [62], [61], [124], [44], [58], [59], [46], [33], [63], [39]]
def signO (l : Txt) : Option Txt := sgs.find? (fun s => s.isPrefixOf l)
/-- The token at the start of a text, with line 0. -/
def firstT (l : Txt) : Option Tk :=
  match l with
  | [] => none
  | c :: _ =>
    if smB c then some ⟨1, l.takeWhile idB, 0, 0⟩
    else if cpB c then some ⟨2, l.takeWhile idB, 0, 0⟩
    else if dgB c then (if valN (l.takeWhile dgB) ≤ 1000000000000 then some ⟨3, l.takeWhile dgB, (valN (l.takeWhile dgB) : Nat), 0⟩ else none)
    else (signO l).map fun s => ⟨4, s, 0, 0⟩
/-- How many bytes at the start of a text stand between tokens; the flag: inside of a comment. -/
def gapN : Bool → Txt → Nat
  | _, [] => 0
  | cm, c :: r => if c = 10 then gapN false r + 1 else if c = 35 then gapN true r + 1 else if cm = false ∧ c ≠ 32 ∧ c ≠ 9 then 0 else gapN cm r + 1
def lfs (l : Txt) : Int := (l.count 10 : Nat)
def toksF : Nat → Bool → Int → Txt → List Tk → List Tk × Int × Int
  | 0, _, _, _, acc => (acc, 0, 0)
  | f + 1, cm, line, l, acc =>
    match l.drop (gapN cm l) with
    | [] => (acc ++ [⟨0, [], 0, line + lfs (l.take (gapN cm l))⟩], 0, 0)
    | c :: r => match firstT (c :: r) with
      | none => ([], line + lfs (l.take (gapN cm l)), 14)
      | some t => toksF f false (line + lfs (l.take (gapN cm l))) ((c :: r).drop t.text.length) (acc ++ [⟨t.kind, t.text, t.n, line + lfs (l.take (gapN cm l))⟩])
def tokens (l : Txt) : List Tk × Int × Int := if 40000 < l.length then ([], 0, 7) else toksF (l.length + 1) false 1 l []

theorem gapN_le (cm : Bool) (l : Txt) : gapN cm l ≤ l.length := by
  induction l generalizing cm with
  | nil => exact Nat.le_refl _
  | cons c r ih =>
    unfold gapN
    have h1 := ih false; have h2 := ih true; have h3 := ih cm
    simp only [List.length_cons]
    split
    · omega
    · split
      · omega
      · split
        · omega
        · omega
theorem lfs_le (l : Txt) : 0 ≤ lfs l ∧ lfs l ≤ l.length := by
  unfold lfs
  have := List.count_le_length (a := (10 : UInt8)) (l := l)
  omega
theorem toks_end {f : Nat} {cm : Bool} {line : Int} {l : Txt} {acc : List Tk} (h : l.drop (gapN cm l) = []) : toksF (f + 1) cm line l acc = (acc ++ [⟨0, [], 0, line + lfs (l.take (gapN cm l))⟩], 0, 0) := by
  rw [toksF]; rw [h]
theorem toks_bad {f : Nat} {cm : Bool} {line : Int} {l : Txt} {acc : List Tk} (h0 : l.drop (gapN cm l) ≠ []) (h : firstT (l.drop (gapN cm l)) = none) : toksF (f + 1) cm line l acc = ([], line + lfs (l.take (gapN cm l)), 14) := by
  rw [toksF]
  cases hr : l.drop (gapN cm l) with
  | nil => exact absurd hr h0
  | cons c r => rw [hr] at h; simp only [h]
theorem toks_go {f : Nat} {cm : Bool} {line : Int} {l : Txt} {acc : List Tk} {t : Tk} (h : firstT (l.drop (gapN cm l)) = some t) : toksF (f + 1) cm line l acc =
    toksF f false (line + lfs (l.take (gapN cm l))) ((l.drop (gapN cm l)).drop t.text.length) (acc ++ [⟨t.kind, t.text, t.n, line + lfs (l.take (gapN cm l))⟩]) := by
  rw [toksF]
  cases hr : l.drop (gapN cm l) with
  | nil => rw [hr] at h; cases h
  | cons c r => rw [hr] at h; simp only [h]
/-! Byte by byte. -/
theorem toks_nl {f : Nat} {cm : Bool} {line : Int} {r : Txt} {acc : List Tk} : toksF (f + 1) cm line (10 :: r) acc = toksF (f + 1) false (line + 1) r acc := by
  have hg : gapN cm (10 :: r) = gapN false r + 1 := by rw [gapN, if_pos rfl]
  have hl : line + lfs ((10 :: r).take (gapN false r + 1)) = line + 1 + lfs (r.take (gapN false r)) := by
    unfold lfs; rw [List.take_succ_cons, List.count_cons_self]; omega
  rw [toksF, toksF, hg, hl, List.drop_succ_cons]
theorem toks_skip {f : Nat} {cm : Bool} {line : Int} {c : UInt8} {r : Txt} {acc : List Tk} (h10 : c ≠ 10) (h : cm = true ∨ c = 32 ∨ c = 9) : toksF (f + 1) cm line (c :: r) acc = toksF (f + 1) cm line r acc := by
  have hg : gapN cm (c :: r) = gapN cm r + 1 := by
    rw [gapN, if_neg h10]
    by_cases h35 : c = 35
    · rw [if_pos h35]
      rcases h with h | h | h
      · rw [h]
      · rw [h] at h35; exact absurd h35 (by decide)
      · rw [h] at h35; exact absurd h35 (by decide)
    · rw [if_neg h35, if_neg]
      rintro ⟨h1, h2, h3⟩
      rcases h with h | h | h
      · rw [h1] at h; cases h
      · exact h2 h
      · exact h3 h
  have hl : lfs ((c :: r).take (gapN cm r + 1)) = lfs (r.take (gapN cm r)) := by
    unfold lfs; rw [List.take_succ_cons, List.count_cons_of_ne h10]
  rw [toksF, toksF, hg, hl, List.drop_succ_cons]
theorem toks_hash {f : Nat} {cm : Bool} {line : Int} {r : Txt} {acc : List Tk} : toksF (f + 1) cm line (35 :: r) acc = toksF (f + 1) true line r acc := by
  have hg : gapN cm (35 :: r) = gapN true r + 1 := by rw [gapN, if_neg (by decide), if_pos rfl]
  have hl : lfs ((35 :: r).take (gapN true r + 1)) = lfs (r.take (gapN true r)) := by
    unfold lfs; rw [List.take_succ_cons, List.count_cons_of_ne (by decide)]
  rw [toksF, toksF, hg, hl, List.drop_succ_cons]
theorem gap_zero {c : UInt8} {r : Txt} (h10 : c ≠ 10) (h35 : c ≠ 35) (h32 : c ≠ 32) (h9 : c ≠ 9) : gapN false (c :: r) = 0 := by
  rw [gapN, if_neg h10, if_neg h35, if_pos ⟨rfl, h32, h9⟩]
theorem takeWhile_le (p : UInt8 → Bool) (l : Txt) : (l.takeWhile p).length ≤ l.length := (List.takeWhile_sublist p).length_le
theorem takeWhile_take (p : UInt8 → Bool) (l : Txt) : l.takeWhile p = l.take (l.takeWhile p).length := by
  exact (List.prefix_iff_eq_take.1 (List.takeWhile_prefix p))
theorem sign_mem {l s : Txt} (h : signO l = some s) : s ∈ sgs ∧ s.isPrefixOf l = true := ⟨List.mem_of_find?_eq_some h, by have h1 : sgs.find? (fun s : Txt => s.isPrefixOf l) = some s := h; simpa using List.find?_some h1⟩
theorem sgs_len {s : Txt} (h : s ∈ sgs) : 1 ≤ s.length ∧ s.length ≤ 3 := by
  have : sgs.all (fun s => decide (1 ≤ s.length) && decide (s.length ≤ 3)) = true := by decide
  have := List.all_eq_true.1 this s h
  simpa using this
/-- What firstT returns. -/
theorem first_facts {l : Txt} {t : Tk} (h : firstT l = some t) : 1 ≤ t.text.length ∧ t.text.length ≤ l.length ∧ t.text = l.take t.text.length ∧ 1 ≤ t.kind ∧ t.kind ≤ 4 ∧ 0 ≤ t.n ∧ t.n ≤ 1000000000000 := by
  cases l with
  | nil => cases h
  | cons c r =>
    rw [firstT] at h
    split at h
    · rename_i hc
      cases h
      refine ⟨?_, takeWhile_le _ _, takeWhile_take _ _, by show (1 : Int) ≤ 1; decide, by show (1 : Int) ≤ 4; decide, by show (0 : Int) ≤ 0; decide, by show (0 : Int) ≤ 1000000000000; decide⟩
      show 1 ≤ ((c :: r).takeWhile idB).length
      rw [List.takeWhile_cons_of_pos (by unfold idB; rw [hc]; rfl)]
      simp
    · split at h
      · rename_i hc
        cases h
        refine ⟨?_, takeWhile_le _ _, takeWhile_take _ _, by show (1 : Int) ≤ 2; decide, by show (2 : Int) ≤ 4; decide, by show (0 : Int) ≤ 0; decide, by show (0 : Int) ≤ 1000000000000; decide⟩
        show 1 ≤ ((c :: r).takeWhile idB).length
        rw [List.takeWhile_cons_of_pos (by unfold idB; rw [hc]; simp)]
        simp
      · split at h
        · rename_i hc
          split at h
          · rename_i hv
            cases h
            refine ⟨?_, takeWhile_le _ _, takeWhile_take _ _, by show (1 : Int) ≤ 3; decide, by show (3 : Int) ≤ 4; decide, by show (0 : Int) ≤ (valN _ : Nat); omega, by show ((valN _ : Nat) : Int) ≤ _; omega⟩
            show 1 ≤ ((c :: r).takeWhile dgB).length
            rw [List.takeWhile_cons_of_pos hc]
            simp
          · cases h
        · cases hs : signO (c :: r) with
          | none => rw [hs] at h; cases h
          | some s =>
            rw [hs] at h
            cases h
            obtain ⟨h1, h2⟩ := sign_mem hs
            have h3 := sgs_len h1
            have hp := List.isPrefixOf_iff_prefix.1 h2
            exact ⟨h3.1, hp.length_le, List.prefix_iff_eq_take.1 hp, by show (1 : Int) ≤ 4; decide, by show (4 : Int) ≤ 4; decide, by show (0 : Int) ≤ 0; decide, by show (0 : Int) ≤ _; decide⟩
end Go.Proofs.YtblakndpionmgaaDoor
