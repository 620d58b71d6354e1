/-
  Words for memory: a block that holds a struct whole; rows of tokens.
-/
import Derived.Test.YtblakndpionmgaaDoorLxMath
import Derived.Test.YtblakndpionmgaaDoorNmW
namespace Go.Proofs.YtblakndpionmgaaDoor
open Go.RowKit

/-- Block b holds the cells l of a struct of type T, whole. -/
def Bk (T : TypeId) (w : World) (b : Nat) (l : Array Value) : Prop := w.heap[b]? = some (.cells l T (0, 0))
theorem Bk.c {T : TypeId} {w : World} {b : Nat} {l : Array Value} (h : Bk T w b l) (k : Nat) {v : Value} (hv : l[k]? = some v) : w.cell? ⟨b, k, none⟩ = some v := by
  unfold Bk at h; simp [World.cell?, h, hv]
theorem Bk.fz {T : TypeId} {w : World} {b : Nat} {l : Array Value} (h : Bk T w b l) (i : Nat) : w.frozen? ⟨b, i, none⟩ = false := by
  unfold Bk at h; simp [World.frozen?, h]
theorem Bk.lt {T : TypeId} {w : World} {b : Nat} {l : Array Value} (h : Bk T w b l) : b < w.heap.size := by
  rcases Nat.lt_or_ge b w.heap.size with hlt | hge
  · exact hlt
  · unfold Bk at h; rw [Array.getElem?_eq_none hge] at h; cases h
theorem Bk.new (T : TypeId) (w : World) (l : Array Value) : Bk T (w.alloc (.cells l T)) w.heap.size l := heap_alloc_new w _
theorem Bk.at {T : TypeId} {w : World} (l : Array Value) {b : Nat} (e : b = w.heap.size) : Bk T (w.alloc (.cells l T)) b l := by subst e; exact Bk.new T w l
theorem Bk.below {T : TypeId} {w w' : World} {b : Nat} {l : Array Value} (h : Bk T w b l) (hb : Below w.heap.size w w') : Bk T w' b l := (hb.block b h.lt).trans h
theorem Bk.drew {T : TypeId} {w : World} {b : Nat} {l : Array Value} (h : Bk T w b l) : Bk T w.drew b l := h
theorem Bk.alloc {T : TypeId} {w : World} {b : Nat} {l : Array Value} (h : Bk T w b l) (o : Obj) : Bk T (w.alloc o) b l := h.below ((Below.refl _ _).alloc (Nat.le_refl _) o)
theorem Bk.far {T : TypeId} {w : World} {b : Nat} {l : Array Value} (h : Bk T w b l) {p : Addr} (hp : b ≠ p.block) (u : Value) : Bk T (w.setCell p u) b l := (Below.heap_setCell w p u b hp).trans h
theorem Bk.set {T : TypeId} {w : World} {b : Nat} {l : Array Value} (h : Bk T w b l) (k : Nat) (u : Value) : Bk T (w.setCell ⟨b, k, none⟩ u) b (l.setIfInBounds k u) := by
  unfold Bk at h ⊢
  simp [World.setCell, Array.getElem?_modify, h]
theorem Bk.set2 {T : TypeId} {w : World} {b : Nat} {x y : Value} (h : Bk T w b #[x, y]) (u v : Value) : Bk T ((w.setCell ⟨b, 0, none⟩ u).setCell ⟨b, 1, none⟩ v) b #[u, v] := (h.set 0 u).set 1 v
theorem Bk.set4 {T : TypeId} {w : World} {b : Nat} {x y z t : Value} (h : Bk T w b #[x, y, z, t]) (u v u' v' : Value) : Bk T ((((w.setCell ⟨b, 0, none⟩ u).setCell ⟨b, 1, none⟩ v).setCell ⟨b, 2, none⟩ u').setCell ⟨b, 3, none⟩ v') b #[u, v, u', v'] := (((h.set 0 u).set 1 v).set 2 u').set 3 v'
theorem Bk.far2 {T : TypeId} {w : World} {b : Nat} {l : Array Value} (h : Bk T w b l) {a : Nat} (hp : b ≠ a) (u v : Value) : Bk T ((w.setCell ⟨a, 0, none⟩ u).setCell ⟨a, 1, none⟩ v) b l := (h.far (p := ⟨a, 0, none⟩) hp u).far (p := ⟨a, 1, none⟩) hp v
theorem Bk.far4 {T : TypeId} {w : World} {b : Nat} {l : Array Value} (h : Bk T w b l) {a : Nat} (hp : b ≠ a) (u v u' v' : Value) : Bk T ((((w.setCell ⟨a, 0, none⟩ u).setCell ⟨a, 1, none⟩ v).setCell ⟨a, 2, none⟩ u').setCell ⟨a, 3, none⟩ v') b l := (h.far2 hp u v).far (p := ⟨a, 2, none⟩) hp u' |>.far (p := ⟨a, 3, none⟩) hp v'
theorem below_set2 {B : Nat} {a w : World} (h : Below B a w) {b : Nat} (hp : B ≤ b) (u v : Value) : Below B a ((w.setCell ⟨b, 0, none⟩ u).setCell ⟨b, 1, none⟩ v) := (h.setCell (p := ⟨b, 0, none⟩) hp u).setCell (p := ⟨b, 1, none⟩) hp v
theorem below_set4 {B : Nat} {a w : World} (h : Below B a w) {b : Nat} (hp : B ≤ b) (u v u' v' : Value) : Below B a ((((w.setCell ⟨b, 0, none⟩ u).setCell ⟨b, 1, none⟩ v).setCell ⟨b, 2, none⟩ u').setCell ⟨b, 3, none⟩ v') := ((below_set2 h hp u v).setCell (p := ⟨b, 2, none⟩) hp u').setCell (p := ⟨b, 3, none⟩) hp v'
/-- A token's cells, and its value. -/
def encTk (t : Tk) : List Value := [.int .i64 t.kind, .string ⟨t.text.toArray⟩, .int .i64 t.n, .int .i64 t.line]
def tkVal (t : Tk) : Value := .agg #[.int .i64 t.kind, .string ⟨t.text.toArray⟩, .int .i64 t.n, .int .i64 t.line]
def tk0 : Tk := ⟨0, [], 0, 0⟩
/-- What first returns. -/
def encT : Option Tk → Value
  | some t => .tuple #[tkVal t, .bool true]
  | none => .tuple #[tkVal tk0, .bool false]
def numT (l : Txt) : Option Tk := if valN l ≤ 1000000000000 then some ⟨3, l, (valN l : Nat), 0⟩ else none
end Go.Proofs.YtblakndpionmgaaDoor
