/-
  What Text writes: the errors of a list of tokens, and its text. No program in sight.
-/
import Derived.Test.YtblakndpionmgaaDoorLxMath
namespace Go.Proofs.YtblakndpionmgaaDoor
open Go

def fitTk (t : Tk) : Bool :=
  if t.line < 1 ∨ 40000 < t.text.length then false
  else if t.kind = 0 then decide (t.text = []) && decide (t.n = 0)
  else match firstT t.text with
    | none => false
    | some u => decide (u.kind = t.kind) && decide (u.text = t.text) && decide (u.n = t.n)
def checkF : Int → List Tk → Int
  | _, [] => 0
  | p, t :: r => if fitTk t = false ∨ t.kind = 0 ∧ r ≠ [] then 6 else if t.line < p then 9 else checkF t.line r
def gapT (b : Bool) (feeds : Int) (t : Tk) : Txt := List.replicate feeds.toNat 10 ++ (if b = false ∧ feeds = 0 ∧ t.kind ≠ 0 then [32] else [])
def textF : Bool → Int → Txt → List Tk → Option Txt
  | _, _, out, [] => some out
  | b, line, out, t :: r =>
    if 40000 < t.line - line then none
    else if 40000 < (out ++ gapT b (t.line - line) t ++ t.text).length then none
    else textF false t.line (out ++ gapT b (t.line - line) t ++ t.text) r
def textR (l : List Tk) : Txt × Int :=
  if checkF 1 l ≠ 0 then ([], checkF 1 l) else match textF true 1 [] l with
    | none => ([], 7)
    | some o => (o, 0)
theorem fit_line {t : Tk} (h : fitTk t = true) : 1 ≤ t.line ∧ t.text.length ≤ 40000 := by
  unfold fitTk at h
  split at h
  · cases h
  · rename_i h1; omega
/-- Step by step. -/
theorem check_six {p : Int} {l : List Tk} {k : Nat} (hk : k < l.length) (h : fitTk (l.getD k ⟨0, [], 0, 0⟩) = false ∨ (l.getD k ⟨0, [], 0, 0⟩).kind = 0 ∧ k + 1 < l.length) : checkF p (l.drop k) = 6 := by
  rw [List.drop_eq_getElem_cons hk, checkF, if_pos]
  have e : l.getD k ⟨0, [], 0, 0⟩ = l[k] := by simp [List.getD, hk]
  rw [e] at h
  rcases h with h | ⟨h1, h2⟩
  · exact .inl h
  · refine .inr ⟨h1, fun h0 => ?_⟩
    have := congrArg List.length h0
    rw [List.length_drop] at this
    simp at this
    omega
theorem check_step {p : Int} {l : List Tk} {k : Nat} (hk : k < l.length) (h1 : fitTk (l.getD k ⟨0, [], 0, 0⟩) = true) (h2 : (l.getD k ⟨0, [], 0, 0⟩).kind ≠ 0 ∨ k + 1 = l.length) :
    checkF p (l.drop k) = if (l.getD k ⟨0, [], 0, 0⟩).line < p then 9 else checkF (l.getD k ⟨0, [], 0, 0⟩).line (l.drop (k + 1)) := by
  have e : l.getD k ⟨0, [], 0, 0⟩ = l[k] := by simp [List.getD, hk]
  rw [List.drop_eq_getElem_cons hk, checkF, if_neg, e]
  rw [e] at h1 h2
  rintro (h | ⟨h, h3⟩)
  · rw [h1] at h; cases h
  · rcases h2 with h2 | h2
    · exact h2 h
    · exact h3 (List.drop_eq_nil_of_le (by omega))
theorem text_step {b : Bool} {line : Int} {out : Txt} {l : List Tk} {k : Nat} (hk : k < l.length) :
    textF b line out (l.drop k) = if 40000 < (l.getD k ⟨0, [], 0, 0⟩).line - line then none
      else if 40000 < (out ++ gapT b ((l.getD k ⟨0, [], 0, 0⟩).line - line) (l.getD k ⟨0, [], 0, 0⟩) ++ (l.getD k ⟨0, [], 0, 0⟩).text).length then none
      else textF false (l.getD k ⟨0, [], 0, 0⟩).line (out ++ gapT b ((l.getD k ⟨0, [], 0, 0⟩).line - line) (l.getD k ⟨0, [], 0, 0⟩) ++ (l.getD k ⟨0, [], 0, 0⟩).text) (l.drop (k + 1)) := by
  have e : l.getD k ⟨0, [], 0, 0⟩ = l[k] := by simp [List.getD, hk]
  rw [List.drop_eq_getElem_cons hk, textF, e]
/-- A list without errors. -/
def okFrom : Int → List Tk → Prop
  | _, [] => True
  | p, t :: r => fitTk t = true ∧ p ≤ t.line ∧ okFrom t.line r
theorem ok_of_check {l : List Tk} : ∀ {p : Int}, checkF p l = 0 → okFrom p l := by
  induction l with
  | nil => intro p _; trivial
  | cons t r ih =>
    intro p h
    rw [checkF] at h
    split at h
    · cases h
    · rename_i h1
      split at h
      · cases h
      · rename_i h2
        refine ⟨?_, by omega, ih h⟩
        cases hf : fitTk t with
        | true => rfl
        | false => exact absurd (.inl hf) h1
theorem ok_at {l : List Tk} {p : Int} {k : Nat} (hk : k < l.length) (h : okFrom p (l.drop k)) : fitTk (l.getD k ⟨0, [], 0, 0⟩) = true ∧ p ≤ (l.getD k ⟨0, [], 0, 0⟩).line ∧ okFrom (l.getD k ⟨0, [], 0, 0⟩).line (l.drop (k + 1)) := by
  have e : l.getD k ⟨0, [], 0, 0⟩ = l[k] := by simp [List.getD, hk]
  rw [List.drop_eq_getElem_cons hk] at h
  rw [e]
  exact h
end Go.Proofs.YtblakndpionmgaaDoor
