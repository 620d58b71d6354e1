/-
  Words for memory: a slice of ints that reads as a list, a block of ints that is known whole.
-/
import Derived.Test.YtegognbnphpigaaDoorProg
import Derived.Test.YtegognbnphpigaaDoorBigMathB
import Derived.WalkKit
import Derived.OwnWalk
import Derived.Below
import Derived.BigCall
import Derived.Lib.Hide
import Derived.LoopTactic
import Derived.Outline
import Derived.Deep.Draws
import Derived.Laws.OwnMore
namespace Go.Proofs.YtegognbnphpigaaDoor
open Go.RowKit

theorem ret_bool {x x' : Bool} (h : x = x') : Ending.returned (.bool x) = .returned (.bool x') := by rw [h]
theorem ret_int {x x' : Int} (h : x = x') : Ending.returned (.int .i64 x) = .returned (.int .i64 x') := by rw [h]
theorem ret_ints {a a' b b' : Int} (h1 : a = a') (h2 : b = b') : Ending.returned (.tuple #[.int .i64 a, .int .i64 b]) = .returned (.tuple #[.int .i64 a', .int .i64 b']) := by rw [h1, h2]
theorem ret_two {a a' : Int} {x x' : Bool} (h1 : a = a') (h2 : x = x') : Ending.returned (.tuple #[.int .i64 a, .bool x]) = .returned (.tuple #[.int .i64 a', .bool x']) := by rw [h1, h2]

def ints (l : List Int) : List Value := l.map (Value.int .i64)
theorem ints_len (l : List Int) : (ints l).length = l.length := by simp [ints]
theorem ints_at {l : List Int} {k : Nat} (h : k < l.length) : (ints l)[k]? = some (.int .i64 (l.getD k 0)) := by simp [ints, List.getD, h]
theorem ints_app (a b : List Int) : ints (a ++ b) = ints a ++ ints b := by simp [ints]
theorem ints_one (l : List Int) : ∀ v ∈ ints l, v.oneCell' = true := fun v hv => by
  obtain ⟨x, _, rfl⟩ := List.mem_map.1 hv; rfl

/-- The slice value (A, n, c) reads as the ints xs. -/
structure Sl (w : World) (A : Option Addr) (n c : Nat) (xs : List Int) : Prop where
  len : xs.length = n
  cap : n ≤ c
  top : c ≤ 9223372036854775807
  cells : 0 < n → ∃ g o, A = some ⟨g, o, none⟩ ∧ g < w.heap.size ∧ ∀ k, k < n → w.cell? ⟨g, o + k, none⟩ = some (.int .i64 (xs.getD k 0))
theorem Sl.nil (w : World) : Sl w none 0 0 [] := ⟨rfl, Nat.le_refl _, by omega, fun h => absurd h (by omega)⟩
theorem Sl.empty (w : World) (A : Option Addr) {c : Nat} (h : c ≤ 9223372036854775807) : Sl w A 0 c [] := ⟨rfl, by omega, h, fun h => absurd h (by omega)⟩
theorem Sl.at_ {w : World} {A : Option Addr} {n c : Nat} {xs : List Int} (h : Sl w A n c xs) {k : Nat} (hk : k < n) :
    ∃ g o x, A = some ⟨g, o, none⟩ ∧ g < w.heap.size ∧ w.cell? ⟨g, o + k, none⟩ = some (.int .i64 x) ∧ Hid (xs.getD k 0 = x) := by
  obtain ⟨g, o, hA, hg, hc⟩ := h.cells (by omega)
  exact ⟨g, o, _, hA, hg, hc k hk, rfl⟩
theorem Sl.keep {w w' : World} {A : Option Addr} {n c : Nat} {xs : List Int} (h : Sl w A n c xs) (hs : w.heap.size ≤ w'.heap.size) (hk : ∀ p : Addr, p.block < w.heap.size → w'.cell? p = w.cell? p) : Sl w' A n c xs :=
  ⟨h.len, h.cap, h.top, fun hn => by
    obtain ⟨g, o, e, hg, hc⟩ := h.cells hn
    exact ⟨g, o, e, by omega, fun k hk' => (hk _ hg).trans (hc k hk')⟩⟩
theorem Sl.below {w w' : World} {A : Option Addr} {n c : Nat} {xs : List Int} (h : Sl w A n c xs) (hb : Below w.heap.size w w') : Sl w' A n c xs := h.keep hb.size fun _ hp => hb.cell hp

theorem Sl.drewN {w : World} {A : Option Addr} {n c : Nat} {xs : List Int} (h : Sl w A n c xs) (q : Nat) : Sl (w.drewN q) A n c xs := ⟨h.len, h.cap, h.top, h.cells⟩
theorem below_drewN {B : Nat} {a w : World} (h : Below B a w) (n : Nat) : Below B a (w.drewN n) := ⟨h.os, h.tape, h.output, h.size, h.block⟩
theorem below_on {w w1 w2 : World} (h : Below w.heap.size w w1) (k : Below w1.heap.size w1 w2) : Below w.heap.size w w2 := h.trans (k.mono h.size)

/-- Block g is just the ints l. -/
def Own (w : World) (g : Nat) (l : List Int) : Prop := w.heap[g]? = some (.cells (ints l).toArray 3 (0, 0))
theorem Own.lt {w : World} {g : Nat} {l : List Int} (h : Own w g l) : g < w.heap.size := by
  rcases Nat.lt_or_ge g w.heap.size with hlt | hge
  · exact hlt
  · unfold Own at h; rw [Array.getElem?_eq_none hge] at h; cases h
theorem Own.cell {w : World} {g : Nat} {l : List Int} (h : Own w g l) {k : Nat} (hk : k < l.length) : w.cell? ⟨g, k, none⟩ = some (.int .i64 (l.getD k 0)) := by
  unfold Own at h
  unfold World.cell?
  simp only [h]
  simp [ints, List.getD, hk]
theorem Own.frozen {w : World} {g : Nat} {l : List Int} (h : Own w g l) (k : Nat) : w.frozen? ⟨g, k, none⟩ = false := by
  unfold Own at h
  simp [World.frozen?, h]
theorem Own.set_ {w : World} {g : Nat} {l : List Int} (h : Own w g l) (k : Nat) (x : Int) : Own (w.setCell ⟨g, k, none⟩ (.int .i64 x)) g (l.set k x) := by
  unfold Own at h ⊢
  simp [World.setCell, Array.getElem?_modify, h, ints, List.map_set]
theorem Own.below {w w' : World} {g : Nat} {l : List Int} (h : Own w g l) (hb : Below w.heap.size w w') : Own w' g l := (hb.block g h.lt).trans h
theorem Own.keep {w w' : World} {g : Nat} {l : List Int} (h : Own w g l) (hb : w'.heap[g]? = w.heap[g]?) : Own w' g l := hb.trans h
/-- A part of a block of ints. -/
theorem Own.sl {w : World} {g : Nat} {l : List Int} (h : Own w g l) (o : Nat) {n c : Nat} (hn : o + n ≤ l.length) (hc : n ≤ c) (ht : c ≤ 9223372036854775807) : Sl w (some ⟨g, o, none⟩) n c ((l.drop o).take n) :=
  ⟨by rw [List.length_take, List.length_drop]; omega, hc, ht, fun _ => ⟨g, o, rfl, h.lt, fun k hk => by
    rw [h.cell (show o + k < l.length by omega)]
    simp [List.getD, hk]⟩⟩
theorem Own.all {w : World} {g : Nat} {l : List Int} (h : Own w g l) {n c : Nat} (hn : l.length = n) (hc : n ≤ c) (ht : c ≤ 9223372036854775807) : Sl w (some ⟨g, 0, none⟩) n c l := by
  have := h.sl 0 (n := n) (by omega) hc ht
  rwa [List.drop_zero, List.take_of_length_le (by omega)] at this

/-- Nothing but block g has turned, and what is new. -/
structure But (g : Nat) (w w' : World) : Prop where
  os : w'.os = w.os
  tape : w'.tape = w.tape
  output : w'.output = w.output
  size : w.heap.size ≤ w'.heap.size
  block : ∀ k, k < w.heap.size → k ≠ g → w'.heap[k]? = w.heap[k]?
theorem But.refl (g : Nat) (w : World) : But g w w := ⟨rfl, rfl, rfl, Nat.le_refl _, fun _ _ _ => rfl⟩
theorem But.trans {g : Nat} {a b c : World} (h : But g a b) (k : But g b c) : But g a c :=
  ⟨k.os.trans h.os, k.tape.trans h.tape, k.output.trans h.output, Nat.le_trans h.size k.size, fun i hi hne => (k.block i (Nat.lt_of_lt_of_le hi h.size) hne).trans (h.block i hi hne)⟩
theorem But.of_below {g : Nat} {w w' : World} (h : Below w.heap.size w w') : But g w w' := ⟨h.os, h.tape, h.output, h.size, fun i hi _ => h.block i hi⟩
theorem But.setCell {g : Nat} {a w : World} (h : But g a w) (o : Nat) (u : Value) : But g a (w.setCell ⟨g, o, none⟩ u) :=
  ⟨h.os, h.tape, h.output, by simpa [World.setCell] using h.size, fun i hi hne => (Below.heap_setCell w ⟨g, o, none⟩ u i hne).trans (h.block i hi hne)⟩
theorem But.drewN {g : Nat} {a w : World} (h : But g a w) (n : Nat) : But g a (w.drewN n) := ⟨h.os, h.tape, h.output, h.size, h.block⟩
theorem But.below {g B : Nat} {w w' : World} (h : But g w w') (hB : B ≤ w.heap.size) (hg : B ≤ g) : Below B w w' :=
  ⟨h.os, h.tape, h.output, h.size, fun i hi => h.block i (by omega) (by omega)⟩
theorem But.cell {g : Nat} {w w' : World} (h : But g w w') {p : Addr} (hp : p.block < w.heap.size) (hne : p.block ≠ g) : w'.cell? p = w.cell? p := World.cell?_of_block (h.block p.block hp hne)
/-- A slice that doesn't lie in block g. -/
def Far (A : Option Addr) (n g : Nat) : Prop := 0 < n → ∀ a, A = some a → a.block ≠ g
theorem Sl.but {g : Nat} {w w' : World} {A : Option Addr} {n c : Nat} {xs : List Int} (h : Sl w A n c xs) (hb : But g w w') (hf : Far A n g) : Sl w' A n c xs :=
  ⟨h.len, h.cap, h.top, fun hn => by
    obtain ⟨g', o, e, hg, hc⟩ := h.cells hn
    exact ⟨g', o, e, Nat.lt_of_lt_of_le hg hb.size, fun k hk => (hb.cell (p := ⟨g', o + k, none⟩) hg (show g' ≠ g from hf hn ⟨g', o, none⟩ e)).trans (hc k hk)⟩⟩
theorem Sl.far {w : World} {A : Option Addr} {n c g : Nat} {xs : List Int} (h : Sl w A n c xs) (hg : w.heap.size ≤ g) : Far A n g := fun hn a ha => by
  obtain ⟨g', o, e, hg', _⟩ := h.cells hn
  rw [e] at ha
  cases ha
  show g' ≠ g
  omega
end Go.Proofs.YtegognbnphpigaaDoor
