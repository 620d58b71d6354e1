/-
  Plain facts on names and lists of texts. No program in sight.
-/
import Derived.Lib.Hide
import Derived.Lib.Strings
namespace Go.Proofs.YtegognbnphpigaaDoor
open Go

abbrev Txt := List UInt8
/-- Kinds of bytes. -/
def smB (c : UInt8) : Bool := decide (97 ≤ c.toNat) && decide (c.toNat ≤ 122)
def cpB (c : UInt8) : Bool := decide (65 ≤ c.toNat) && decide (c.toNat ≤ 90)
def dgB (c : UInt8) : Bool := decide (48 ≤ c.toNat) && decide (c.toNat ≤ 57)
def wcB (c : UInt8) : Bool := smB c || dgB c || c == 95
def anB (c : UInt8) : Bool := smB c || cpB c || dgB c
def alnumB (l : Txt) : Bool := l.all anB
def longB (l : Txt) : Bool := decide (1 ≤ l.length) && decide (l.length ≤ 24)
def headB (p : UInt8 → Bool) (l : Txt) : Bool := match l with | [] => false | c :: _ => p c
def wordB (l : Txt) : Bool := longB l && headB smB l && l.all wcB
def kws : List Txt := [[97, 110, 100], [97, 115, 115, 117, 109, 101], [98, 111, 111, 108], [98, 111, 117, 110, 100], [99, 97, 115, 101], [99, 101, 108, 108], [99, 108, 97, 115, 115], [100, 97, 116, 97], [100, 101, 102], [100, 105, 118], [101, 108, 115, 101], [101, 110, 100], [102, 97, 108, 115, 101], [102, 111, 114, 97, 108, 108], [102, 117, 110], [103, 101, 116], [105, 102], [105, 110], [105, 110, 115, 116], [105, 110, 116], [105, 110, 118, 97, 114, 105, 97, 110, 116], [108, 101, 116], [109, 97, 116, 99, 104], [109, 101, 97, 115, 117, 114, 101], [109, 101, 116, 114, 105, 99], [109, 111, 100], [109, 117], [110, 101, 119], [110, 111, 116], [111, 102], [111, 114], [113, 117, 97, 108], [114, 101, 102, 108, 101, 99, 116], [115, 101, 116], [116, 104, 101, 110], [116, 114, 117, 101], [117, 115, 101], [118], [118, 97, 108], [116, 97, 103], [119, 104, 101, 114, 101], [119, 105, 116, 104]]
def bts : List Txt := [[73, 110, 116], [66, 111, 111, 108], [67, 101, 108, 108], [70, 117, 110]]
def kwB (l : Txt) : Bool := kws.contains l
def nameB (l : Txt) : Bool := wordB l && !kwB l
def titleB (l : Txt) : Bool := longB l && headB cpB l && alnumB l && !bts.contains l
def partB (l : Txt) : Bool := wordB l || longB l && alnumB l

/-- The pieces of a text between its points. -/
def cut46 : Txt → List Txt
  | [] => [[]]
  | c :: l => if c = 46 then [] :: cut46 l else match cut46 l with | [] => [[c]] | p :: r => (c :: p) :: r
theorem cut46_ne (l : Txt) : cut46 l ≠ [] := by
  cases l with
  | nil => simp [cut46]
  | cons c l =>
    unfold cut46
    split
    · simp
    · split <;> simp
def coreB (l : Txt) : Bool := decide (l.length ≤ 120) && (match cut46 l with | [] => false | [p] => nameB p || titleB p | p :: q :: r => (p == [118] || nameB p || titleB p) && (q :: r).all partB)

/-! ### Finding -/
/-- The least place of a text, or how many there are. -/
def pos (l : List Txt) (s : Txt) : Nat := l.idxOf s
def findI (l : List Txt) (s : Txt) : Int := if s ∈ l then (l.idxOf s : Nat) else -1
theorem findI_at {l : List Txt} {s : Txt} {k : Nat} (hk : k < l.length) (h : l.getD k [] = s) (hn : s ∉ l.take k) : findI l s = k := by
  have he : l[k] = s := by simpa [List.getD, hk] using h
  have hm : s ∈ l := by rw [← he]; exact List.getElem_mem hk
  unfold findI
  rw [if_pos hm]
  congr 1
  have h1 : l = l.take k ++ l[k] :: l.drop (k + 1) := by
    rw [← List.drop_eq_getElem_cons hk, List.take_append_drop]
  rw [h1, List.idxOf_append, if_neg hn, he, List.idxOf_cons_self, List.length_take]
  omega
theorem findI_no {l : List Txt} {s : Txt} (h : s ∉ l) : findI l s = -1 := if_neg h
theorem findI_neg {l : List Txt} {s : Txt} : findI l s < 0 ↔ s ∉ l := by
  unfold findI
  split
  · rename_i h; constructor
    · intro e; omega
    · intro e; exact absurd h e
  · rename_i h; exact ⟨fun _ => h, fun _ => by omega⟩
theorem findI_bd {l : List Txt} {s : Txt} : -1 ≤ findI l s ∧ findI l s < l.length ∨ findI l s = -1 := by
  unfold findI
  split
  · rename_i h
    left
    have := List.idxOf_lt_length_of_mem h
    omega
  · right; rfl
theorem not_mem_snoc {l : List Txt} {s : Txt} {k : Nat} (hk : k < l.length) (h : l.getD k [] ≠ s) (hn : s ∉ l.take k) : s ∉ l.take (k + 1) := by
  rw [List.take_succ_eq_append_getElem hk]
  intro hm
  rcases List.mem_append.1 hm with hm | hm
  · exact hn hm
  · have := List.mem_singleton.1 hm
    apply h
    simp [List.getD, hk, this]
end Go.Proofs.YtegognbnphpigaaDoor
