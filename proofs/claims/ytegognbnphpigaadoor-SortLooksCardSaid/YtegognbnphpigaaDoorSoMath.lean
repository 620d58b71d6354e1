/-
  Sorts, symbols and environments as plain data. No program in sight.
-/
import Derived.Test.YtegognbnphpigaaDoorNmMath
namespace Go.Proofs.YtegognbnphpigaaDoor
open Go

/-- A variable, a symbol, a hole, an environment. -/
structure Vr where
  name : Txt
  sort : Txt
structure Sy where
  name : Txt
  args : List Txt
  res : Txt
structure Ho where
  name : Txt
  ps : List Vr
structure En where
  vars : List Vr
  syms : List Sy
  holes : List Ho
def vr0 : Vr := ⟨[], []⟩
def sy0 : Sy := ⟨[], [], []⟩
def ho0 : Ho := ⟨[], []⟩
def tInt : Txt := [73, 110, 116]
def tBool : Txt := [66, 111, 111, 108]
def tCell : Txt := [67, 101, 108, 108]
def tTag : Txt := [116, 97, 103]
def tVal : Txt := [118, 97, 108]
/-- A right sort. -/
def dataB (s : Txt) : Bool := coreB s && headB cpB s
def sortB (s : Txt) : Bool := s == tInt || s == tBool || s == tCell || dataB s
def sortI (s : Txt) : Int := if sortB s then 0 else 11
def nameV (s : Txt) : Bool := s == [118] || coreB s
def symI (y : Sy) : Int := if coreB y.name = false then 3 else if y.args.length < 1 ∨ 6 < y.args.length then 13 else if y.args.all sortB = false then 11 else sortI y.res
def varsGo : List Txt → List Vr → Int
  | _, [] => 0
  | S, x :: l => if nameV x.name = false then 3 else if x.name ∈ S then 4 else if sortB x.sort = false then 11 else varsGo (S ++ [x.name]) l
def varsI (l : List Vr) : Int := if 24 < l.length then 7 else varsGo [] l
def symsGo : List Txt → List Sy → Int
  | _, [] => 0
  | S, y :: l => if symI y ≠ 0 then symI y else if y.name ∈ S then 4 else symsGo (S ++ [y.name]) l
def symsI (l : List Sy) : Int := if 64 < l.length then 7 else symsGo [] l
def holesGo : List Txt → List Ho → Int
  | _, [] => 0
  | S, h :: l => if coreB h.name = false then 3 else if h.name ∈ S then 4 else if h.ps.length = 0 then 13 else if varsI h.ps ≠ 0 then varsI h.ps else holesGo (S ++ [h.name]) l
def holesI (l : List Ho) : Int := if 40 < l.length then 7 else holesGo [] l
def envI (v : En) : Int := if varsI v.vars ≠ 0 then varsI v.vars else if symsI v.syms ≠ 0 then symsI v.syms else holesI v.holes

/-! ### The rest of a list -/
theorem drop_at {α : Type} {l : List α} {k : Nat} {d : α} (h : k < l.length) : l.drop k = l.getD k d :: l.drop (k + 1) := by
  rw [List.drop_eq_getElem_cons h]; simp [List.getD, h]
theorem take_at {α : Type} {l : List α} {k : Nat} {d : α} (h : k < l.length) : l.take (k + 1) = l.take k ++ [l.getD k d] := by
  rw [List.take_succ_eq_append_getElem h]; simp [List.getD, h]
theorem map_take_at {α : Type} {l : List α} {k : Nat} {d : α} (f : α → Txt) (h : k < l.length) : (l.take (k + 1)).map f = (l.take k).map f ++ [f (l.getD k d)] := by
  rw [take_at (d := d) h, List.map_append]; rfl
theorem varsGo_at {S : List Txt} {l : List Vr} {k : Nat} {r : Int} (h : k < l.length) (hr : varsGo S (l.drop k) = r) :
    (if nameV (l.getD k vr0).name = false then 3 else if (l.getD k vr0).name ∈ S then 4 else if sortB (l.getD k vr0).sort = false then 11 else varsGo (S ++ [(l.getD k vr0).name]) (l.drop (k + 1))) = r := by
  rw [drop_at (d := vr0) h] at hr
  exact hr
theorem symsGo_at {S : List Txt} {l : List Sy} {k : Nat} {r : Int} (h : k < l.length) (hr : symsGo S (l.drop k) = r) :
    (if symI (l.getD k sy0) ≠ 0 then symI (l.getD k sy0) else if (l.getD k sy0).name ∈ S then 4 else symsGo (S ++ [(l.getD k sy0).name]) (l.drop (k + 1))) = r := by
  rw [drop_at (d := sy0) h] at hr
  exact hr
theorem holesGo_at {S : List Txt} {l : List Ho} {k : Nat} {r : Int} (h : k < l.length) (hr : holesGo S (l.drop k) = r) :
    (if coreB (l.getD k ho0).name = false then 3 else if (l.getD k ho0).name ∈ S then 4 else if (l.getD k ho0).ps.length = 0 then 13 else if varsI (l.getD k ho0).ps ≠ 0 then varsI (l.getD k ho0).ps else holesGo (S ++ [(l.getD k ho0).name]) (l.drop (k + 1))) = r := by
  rw [drop_at (d := ho0) h] at hr
  exact hr
theorem varsGo_end {S : List Txt} {l : List Vr} {k : Nat} {r : Int} (h : l.length ≤ k) (hr : varsGo S (l.drop k) = r) : 0 = r := by
  rw [List.drop_eq_nil_of_le h] at hr; exact hr
theorem symsGo_end {S : List Txt} {l : List Sy} {k : Nat} {r : Int} (h : l.length ≤ k) (hr : symsGo S (l.drop k) = r) : 0 = r := by
  rw [List.drop_eq_nil_of_le h] at hr; exact hr
theorem holesGo_end {S : List Txt} {l : List Ho} {k : Nat} {r : Int} (h : l.length ≤ k) (hr : holesGo S (l.drop k) = r) : 0 = r := by
  rw [List.drop_eq_nil_of_le h] at hr; exact hr

/-! ### Lookups -/
def varF (l : List Vr) (s : Txt) : Option Vr := l.reverse.find? (fun x => x.name == s)
def symF (l : List Sy) (s : Txt) : Option Sy := l.find? (fun y => y.name == s)
def holeF (l : List Ho) (s : Txt) : Option Ho := l.find? (fun h => h.name == s)
/-- What Find answers. -/
def findF (l : List Sy) (s : Txt) : Option Sy := if s = tTag then some ⟨tTag, [], tInt⟩ else if s = tVal then some ⟨tVal, [tCell], tInt⟩ else symF l s
def withV (l : List Vr) (x : Vr) : List Vr := l.filter (fun y => !(y.name == x.name)) ++ [x]
theorem varF_with_same (l : List Vr) (x : Vr) : varF (withV l x) x.name = some x := by
  unfold varF withV
  rw [List.reverse_append, List.reverse_singleton, List.singleton_append, List.find?_cons]
  simp
theorem varF_with_other (l : List Vr) (x : Vr) {s : Txt} (h : s ≠ x.name) : varF (withV l x) s = varF l s := by
  unfold varF withV
  have hx : (x.name == s) = false := beq_eq_false_iff_ne.2 (Ne.symm h)
  rw [List.reverse_append, List.reverse_singleton, List.singleton_append, List.find?_cons, hx]
  show (List.filter _ l).reverse.find? _ = _
  rw [← List.filter_reverse, List.find?_filter]
  congr 1
  funext y
  by_cases e : y.name = s
  · have : (y.name == x.name) = false := beq_eq_false_iff_ne.2 (by rw [e]; exact h)
    rw [this, e]; simp
  · have : (y.name == s) = false := beq_eq_false_iff_ne.2 e
    rw [this]; simp
theorem varF_mem {l : List Vr} {s : Txt} {x : Vr} (h : varF l s = some x) : x ∈ l := by
  have := List.mem_of_find?_eq_some h
  simpa using this
theorem symF_mem {l : List Sy} {s : Txt} {x : Sy} (h : symF l s = some x) : x ∈ l := List.mem_of_find?_eq_some h
theorem holeF_mem {l : List Ho} {s : Txt} {x : Ho} (h : holeF l s = some x) : x ∈ l := List.mem_of_find?_eq_some h
theorem holeF_name {l : List Ho} {s : Txt} {x : Ho} (h : holeF l s = some x) : x.name = s := by
  have := List.find?_some h
  simpa using this

/-! ### What an accepted environment is -/
theorem varsGo_ok : ∀ {l : List Vr} {S : List Txt}, varsGo S l = 0 ↔ (∀ x ∈ l, nameV x.name = true ∧ x.name ∉ S ∧ sortB x.sort = true) ∧ (l.map Vr.name).Nodup
  | [], S => by simp [varsGo]
  | x :: l, S => by
    unfold varsGo
    by_cases h1 : nameV x.name = false
    · simp [h1]
    · by_cases h2 : x.name ∈ S
      · simp [h1, h2]
      · by_cases h3 : sortB x.sort = false
        · simp [h1, h2, h3]
        · rw [if_neg h1, if_neg h2, if_neg h3, varsGo_ok]
          have h1' : nameV x.name = true := by simpa using h1
          have h3' : sortB x.sort = true := by simpa using h3
          rw [List.map_cons, List.nodup_cons]
          constructor
          · rintro ⟨ha, hb⟩
            refine ⟨fun y hy => ?_, fun hm => ?_, hb⟩
            · rcases List.mem_cons.1 hy with rfl | hy
              · exact ⟨h1', h2, h3'⟩
              · obtain ⟨p, q, r⟩ := ha y hy
                exact ⟨p, fun hs => q (List.mem_append.2 (.inl hs)), r⟩
            · obtain ⟨y, hy, e⟩ := List.mem_map.1 hm
              exact (ha y hy).2.1 (List.mem_append.2 (.inr (by rw [e]; simp)))
          · rintro ⟨ha, hn, hb⟩
            refine ⟨fun y hy => ?_, hb⟩
            obtain ⟨p, q, r⟩ := ha y (List.mem_cons_of_mem _ hy)
            refine ⟨p, fun hs => ?_, r⟩
            rcases List.mem_append.1 hs with hs | hs
            · exact q hs
            · exact hn (List.mem_map.2 ⟨y, hy, List.mem_singleton.1 hs⟩)
theorem varsI_ok {l : List Vr} : varsI l = 0 ↔ l.length ≤ 24 ∧ (∀ x ∈ l, nameV x.name = true ∧ sortB x.sort = true) ∧ (l.map Vr.name).Nodup := by
  unfold varsI
  by_cases h : 24 < l.length
  · rw [if_pos h]; constructor
    · intro e; omega
    · rintro ⟨e, _⟩; omega
  · rw [if_neg h, varsGo_ok]
    constructor
    · rintro ⟨ha, hb⟩; exact ⟨by omega, fun x hx => ⟨(ha x hx).1, (ha x hx).2.2⟩, hb⟩
    · rintro ⟨_, ha, hb⟩; exact ⟨fun x hx => ⟨(ha x hx).1, by simp, (ha x hx).2⟩, hb⟩
theorem varsI_long {l : List Vr} (h : 24 < l.length) : varsI l = 7 := if_pos h
theorem varsI_seven {l : List Vr} (h : ¬ 24 < l.length) : varsI l ≠ 7 := by
  unfold varsI
  rw [if_neg h]
  have : ∀ (l : List Vr) (S : List Txt), varsGo S l ≠ 7 := by
    intro l
    induction l with
    | nil => intro S; simp [varsGo]
    | cons x l ih =>
      intro S
      unfold varsGo
      repeat' split
      all_goals first | omega | exact ih _
  exact this _ _
theorem symsGo_ok : ∀ {l : List Sy} {S : List Txt}, symsGo S l = 0 → ∀ y ∈ l, symI y = 0
  | [], _, _, _, h => by cases h
  | x :: l, S, h, y, hy => by
    unfold symsGo at h
    by_cases h1 : symI x = 0
    · by_cases h2 : x.name ∈ S
      · simp [h1, h2] at h
      · rw [if_neg (by simpa using h1), if_neg h2] at h
        rcases List.mem_cons.1 hy with rfl | hy
        · exact h1
        · exact symsGo_ok h y hy
    · rw [if_pos h1] at h; exact absurd h h1
theorem holesGo_ok : ∀ {l : List Ho} {S : List Txt}, holesGo S l = 0 → ∀ y ∈ l, coreB y.name = true ∧ y.ps.length ≠ 0 ∧ varsI y.ps = 0
  | [], _, _, _, h => by cases h
  | x :: l, S, h, y, hy => by
    unfold holesGo at h
    by_cases h1 : coreB x.name = false
    · simp [h1] at h
    · rw [if_neg h1] at h
      by_cases h2 : x.name ∈ S
      · simp [h2] at h
      · rw [if_neg h2] at h
        by_cases h3 : x.ps.length = 0
        · simp [h3] at h
        · rw [if_neg h3] at h
          by_cases h4 : varsI x.ps = 0
          · rw [if_neg (by simpa using h4)] at h
            rcases List.mem_cons.1 hy with rfl | hy
            · exact ⟨by simpa using h1, h3, h4⟩
            · exact holesGo_ok h y hy
          · rw [if_pos h4] at h; exact absurd h h4
theorem envI_ok {v : En} (h : envI v = 0) : varsI v.vars = 0 ∧ symsI v.syms = 0 ∧ holesI v.holes = 0 := by
  unfold envI at h
  by_cases h1 : varsI v.vars = 0
  · rw [if_neg (by simpa using h1)] at h
    by_cases h2 : symsI v.syms = 0
    · rw [if_neg (by simpa using h2)] at h; exact ⟨h1, h2, h⟩
    · rw [if_pos h2] at h; exact absurd h h2
  · rw [if_pos h1] at h; exact absurd h h1
theorem env_var {v : En} (h : envI v = 0) {s : Txt} {x : Vr} (hx : varF v.vars s = some x) : sortB x.sort = true :=
  ((varsI_ok.1 (envI_ok h).1).2.1 x (varF_mem hx)).2
theorem env_sym {v : En} (h : envI v = 0) {s : Txt} {y : Sy} (hy : symF v.syms s = some y) : symI y = 0 := by
  have h2 := (envI_ok h).2.1
  unfold symsI at h2
  split at h2
  · omega
  · exact symsGo_ok h2 y (symF_mem hy)
theorem env_hole {v : En} (h : envI v = 0) {s : Txt} {y : Ho} (hy : holeF v.holes s = some y) : coreB s = true ∧ envI ⟨[], [], [y]⟩ = 0 := by
  have h2 := (envI_ok h).2.2
  unfold holesI at h2
  split at h2
  · omega
  · obtain ⟨a, b, c⟩ := holesGo_ok h2 y (holeF_mem hy)
    refine ⟨by rw [← holeF_name hy]; exact a, ?_⟩
    have hp : holesI [y] = 0 := by
      show holesGo [] [y] = 0
      unfold holesGo
      rw [if_neg (by rw [a]; decide), if_neg (by simp), if_neg b, if_neg (by simpa using c)]; rfl
    show (if varsI [] ≠ 0 then varsI [] else if symsI [] ≠ 0 then symsI [] else holesI [y]) = 0
    rw [hp]; rfl
theorem with_ok {l : List Vr} {x : Vr} (h : varsI l = 0) (h1 : nameV x.name = true) (h2 : sortB x.sort = true) : varsI (withV l x) = if (withV l x).length ≤ 24 then 0 else 7 := by
  by_cases h3 : (withV l x).length ≤ 24
  · rw [if_pos h3, varsI_ok]
    obtain ⟨_, ha, hb⟩ := varsI_ok.1 h
    refine ⟨h3, fun y hy => ?_, ?_⟩
    · rcases List.mem_append.1 hy with hy | hy
      · exact ha y (List.mem_filter.1 hy).1
      · rw [List.mem_singleton.1 hy]; exact ⟨h1, h2⟩
    · unfold withV
      rw [List.map_append, List.map_singleton]
      refine List.nodup_append.2 ⟨hb.sublist ((List.filter_sublist).map _), by simp, ?_⟩
      intro a hma b hmb e
      rw [List.mem_singleton.1 hmb] at e
      obtain ⟨y, hy, rfl⟩ := List.mem_map.1 hma
      have := (List.mem_filter.1 hy).2
      rw [e] at this
      simp at this
  · rw [if_neg h3, varsI_long (by omega)]
theorem with_env {v : En} {x : Vr} (h : envI v = 0) (h1 : nameV x.name = true) (h2 : sortB x.sort = true) : envI ⟨withV v.vars x, v.syms, v.holes⟩ = if (withV v.vars x).length ≤ 24 then 0 else 7 := by
  obtain ⟨a, b, c⟩ := envI_ok h
  have hw := with_ok a h1 h2
  unfold envI
  by_cases h3 : (withV v.vars x).length ≤ 24
  · rw [if_pos h3] at hw ⊢
    simp [hw, b, c]
  · rw [if_neg h3] at hw ⊢
    simp [hw]
end Go.Proofs.YtegognbnphpigaaDoor
