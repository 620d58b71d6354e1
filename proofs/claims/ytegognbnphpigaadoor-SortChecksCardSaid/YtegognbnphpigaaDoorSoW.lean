/-
  Words for memory that holds variables, symbols and holes; a block that holds a struct whole.
-/
import Derived.Test.YtegognbnphpigaaDoorSoMath
import Derived.Test.YtegognbnphpigaaDoorSbK
namespace Go.Proofs.YtegognbnphpigaaDoor
open Go.RowKit

/-- Block b holds the cells l of a struct of type T, whole. -/
def Bk (T : TypeId) (w : World) (b : Nat) (l : Array Value) : Prop := w.heap[b]? = some (.cells l T (0, 0))
theorem Bk.c {T : TypeId} {w : World} {b : Nat} {l : Array Value} (h : Bk T w b l) (k : Nat) {v : Value} (hv : l[k]? = some v) : w.cell? ⟨b, k, none⟩ = some v := by
  unfold Bk at h; simp [World.cell?, h, hv]
theorem Bk.fz {T : TypeId} {w : World} {b : Nat} {l : Array Value} (h : Bk T w b l) (i : Nat) : w.frozen? ⟨b, i, none⟩ = false := by
  unfold Bk at h; simp [World.frozen?, h]
theorem Bk.lt {T : TypeId} {w : World} {b : Nat} {l : Array Value} (h : Bk T w b l) : b < w.heap.size := by
  rcases Nat.lt_or_ge b w.heap.size with hlt | hge
  · exact hlt
  · unfold Bk at h; rw [Array.getElem?_eq_none hge] at h; cases h
theorem Bk.new (T : TypeId) (w : World) (l : Array Value) : Bk T (w.alloc (.cells l T)) w.heap.size l := heap_alloc_new w _
theorem Bk.at {T : TypeId} {w : World} (l : Array Value) {b : Nat} (e : b = w.heap.size) : Bk T (w.alloc (.cells l T)) b l := by subst e; exact Bk.new T w l
theorem Bk.below {T : TypeId} {w w' : World} {b : Nat} {l : Array Value} (h : Bk T w b l) (hb : Below w.heap.size w w') : Bk T w' b l := (hb.block b h.lt).trans h
theorem Bk.drew {T : TypeId} {w : World} {b : Nat} {l : Array Value} (h : Bk T w b l) : Bk T w.drew b l := h
theorem Bk.alloc {T : TypeId} {w : World} {b : Nat} {l : Array Value} (h : Bk T w b l) (o : Obj) : Bk T (w.alloc o) b l := h.below ((Below.refl _ _).alloc (Nat.le_refl _) o)
theorem Bk.far {T : TypeId} {w : World} {b : Nat} {l : Array Value} (h : Bk T w b l) {p : Addr} (hp : b ≠ p.block) (u : Value) : Bk T (w.setCell p u) b l := (Below.heap_setCell w p u b hp).trans h
theorem Bk.set {T : TypeId} {w : World} {b : Nat} {l : Array Value} (h : Bk T w b l) (k : Nat) (u : Value) : Bk T (w.setCell ⟨b, k, none⟩ u) b (l.setIfInBounds k u) := by
  unfold Bk at h ⊢
  simp [World.setCell, Array.getElem?_modify, h]
theorem Bk.set2 {T : TypeId} {w : World} {b : Nat} {x y : Value} (h : Bk T w b #[x, y]) (u v : Value) : Bk T ((w.setCell ⟨b, 0, none⟩ u).setCell ⟨b, 1, none⟩ v) b #[u, v] := (h.set 0 u).set 1 v
theorem Bk.set4 {T : TypeId} {w : World} {b : Nat} {x y z t : Value} (h : Bk T w b #[x, y, z, t]) (u v u' v' : Value) : Bk T ((((w.setCell ⟨b, 0, none⟩ u).setCell ⟨b, 1, none⟩ v).setCell ⟨b, 2, none⟩ u').setCell ⟨b, 3, none⟩ v') b #[u, v, u', v'] := (((h.set 0 u).set 1 v).set 2 u').set 3 v'
theorem Bk.far2 {T : TypeId} {w : World} {b : Nat} {l : Array Value} (h : Bk T w b l) {a : Nat} (hp : b ≠ a) (u v : Value) : Bk T ((w.setCell ⟨a, 0, none⟩ u).setCell ⟨a, 1, none⟩ v) b l := (h.far (p := ⟨a, 0, none⟩) hp u).far (p := ⟨a, 1, none⟩) hp v
theorem Bk.far4 {T : TypeId} {w : World} {b : Nat} {l : Array Value} (h : Bk T w b l) {a : Nat} (hp : b ≠ a) (u v u' v' : Value) : Bk T ((((w.setCell ⟨a, 0, none⟩ u).setCell ⟨a, 1, none⟩ v).setCell ⟨a, 2, none⟩ u').setCell ⟨a, 3, none⟩ v') b l := (h.far2 hp u v).far (p := ⟨a, 2, none⟩) hp u' |>.far (p := ⟨a, 3, none⟩) hp v'
theorem below_set2 {B : Nat} {a w : World} (h : Below B a w) {b : Nat} (hp : B ≤ b) (u v : Value) : Below B a ((w.setCell ⟨b, 0, none⟩ u).setCell ⟨b, 1, none⟩ v) := (h.setCell (p := ⟨b, 0, none⟩) hp u).setCell (p := ⟨b, 1, none⟩) hp v
theorem below_set4 {B : Nat} {a w : World} (h : Below B a w) {b : Nat} (hp : B ≤ b) (u v u' v' : Value) : Below B a ((((w.setCell ⟨b, 0, none⟩ u).setCell ⟨b, 1, none⟩ v).setCell ⟨b, 2, none⟩ u').setCell ⟨b, 3, none⟩ v') := ((below_set2 h hp u v).setCell (p := ⟨b, 2, none⟩) hp u').setCell (p := ⟨b, 3, none⟩) hp v'

/-- The slice value (A, n, c) reads as the variables vs. -/
structure Vs (w : World) (A : Option Addr) (n c : Nat) (vs : List Vr) : Prop where
  len : vs.length = n
  cap : n ≤ c
  top : c ≤ 9223372036854775807
  cells : 0 < n → ∃ g o, A = some ⟨g, o, none⟩ ∧ g < w.heap.size ∧ ∀ k, k < n → w.cell? ⟨g, o + k * 2, none⟩ = some (strVal (vs.getD k vr0).name) ∧ w.cell? ⟨g, o + k * 2 + 1, none⟩ = some (strVal (vs.getD k vr0).sort)
theorem Vs.nil (w : World) : Vs w none 0 0 [] := ⟨rfl, Nat.le_refl _, by omega, fun h => absurd h (by omega)⟩
theorem Vs.empty (w : World) (A : Option Addr) {c : Nat} (h : c ≤ 9223372036854775807) : Vs w A 0 c [] := ⟨rfl, by omega, h, fun h => absurd h (by omega)⟩
theorem Vs.below {w w' : World} {A : Option Addr} {n c : Nat} {vs : List Vr} (h : Vs w A n c vs) (hb : Below w.heap.size w w') : Vs w' A n c vs :=
  ⟨h.len, h.cap, h.top, fun hn => by
    obtain ⟨g, o, e, hg, hc⟩ := h.cells hn
    exact ⟨g, o, e, Nat.lt_of_lt_of_le hg hb.size, fun k hk => ⟨(hb.cell hg).trans (hc k hk).1, (hb.cell hg).trans (hc k hk).2⟩⟩⟩
theorem Vs.at_ {w : World} {A : Option Addr} {n c : Nat} {vs : List Vr} (h : Vs w A n c vs) {k : Nat} (hk : k < n) :
    ∃ g o x y, A = some ⟨g, o, none⟩ ∧ g < w.heap.size ∧ w.cell? ⟨g, o + k * 2, none⟩ = some (.string x) ∧ w.cell? ⟨g, o + k * 2 + 1, none⟩ = some (.string y) ∧ Hid (x.data.toList = (vs.getD k vr0).name) ∧ Hid (y.data.toList = (vs.getD k vr0).sort) := by
  obtain ⟨g, o, hA, hg, hc⟩ := h.cells (by omega)
  exact ⟨g, o, _, _, hA, hg, (hc k hk).1, (hc k hk).2, rfl, rfl⟩
/-- The slice value (A, n, c) reads as the symbols ys. -/
structure Ys (w : World) (A : Option Addr) (n c : Nat) (ys : List Sy) : Prop where
  len : ys.length = n
  cap : n ≤ c
  top : c ≤ 9223372036854775807
  cells : 0 < n → ∃ g o, A = some ⟨g, o, none⟩ ∧ g < w.heap.size ∧ ∀ k, k < n → ∃ B m d, w.cell? ⟨g, o + k * 3, none⟩ = some (strVal (ys.getD k sy0).name) ∧ w.cell? ⟨g, o + k * 3 + 1, none⟩ = some (.slice B m d) ∧ w.cell? ⟨g, o + k * 3 + 2, none⟩ = some (strVal (ys.getD k sy0).res) ∧ Ss w B m d (ys.getD k sy0).args
theorem Ys.nil (w : World) : Ys w none 0 0 [] := ⟨rfl, Nat.le_refl _, by omega, fun h => absurd h (by omega)⟩
theorem Ys.below {w w' : World} {A : Option Addr} {n c : Nat} {ys : List Sy} (h : Ys w A n c ys) (hb : Below w.heap.size w w') : Ys w' A n c ys :=
  ⟨h.len, h.cap, h.top, fun hn => by
    obtain ⟨g, o, e, hg, hc⟩ := h.cells hn
    refine ⟨g, o, e, Nat.lt_of_lt_of_le hg hb.size, fun k hk => ?_⟩
    obtain ⟨B, m, d, h0, h1, h2, h3⟩ := hc k hk
    exact ⟨B, m, d, (hb.cell hg).trans h0, (hb.cell hg).trans h1, (hb.cell hg).trans h2, h3.below hb⟩⟩
theorem Ys.at_ {w : World} {A : Option Addr} {n c : Nat} {ys : List Sy} (h : Ys w A n c ys) {k : Nat} (hk : k < n) :
    ∃ g o x y B m d, A = some ⟨g, o, none⟩ ∧ g < w.heap.size ∧ w.cell? ⟨g, o + k * 3, none⟩ = some (.string x) ∧ w.cell? ⟨g, o + k * 3 + 1, none⟩ = some (.slice B m d) ∧ w.cell? ⟨g, o + k * 3 + 2, none⟩ = some (.string y) ∧ Hid (x.data.toList = (ys.getD k sy0).name) ∧ Hid (y.data.toList = (ys.getD k sy0).res) ∧ Hid (Ss w B m d (ys.getD k sy0).args) := by
  obtain ⟨g, o, hA, hg, hc⟩ := h.cells (by omega)
  obtain ⟨B, m, d, h0, h1, h2, h3⟩ := hc k hk
  exact ⟨g, o, _, _, B, m, d, hA, hg, h0, h1, h2, rfl, rfl, h3⟩
/-- The slice value (A, n, c) reads as the holes hs. -/
structure Hs (w : World) (A : Option Addr) (n c : Nat) (hs : List Ho) : Prop where
  len : hs.length = n
  cap : n ≤ c
  top : c ≤ 9223372036854775807
  cells : 0 < n → ∃ g o, A = some ⟨g, o, none⟩ ∧ g < w.heap.size ∧ ∀ k, k < n → ∃ B m d, w.cell? ⟨g, o + k * 2, none⟩ = some (strVal (hs.getD k ho0).name) ∧ w.cell? ⟨g, o + k * 2 + 1, none⟩ = some (.slice B m d) ∧ Vs w B m d (hs.getD k ho0).ps
theorem Hs.nil (w : World) : Hs w none 0 0 [] := ⟨rfl, Nat.le_refl _, by omega, fun h => absurd h (by omega)⟩
theorem Hs.below {w w' : World} {A : Option Addr} {n c : Nat} {hs : List Ho} (h : Hs w A n c hs) (hb : Below w.heap.size w w') : Hs w' A n c hs :=
  ⟨h.len, h.cap, h.top, fun hn => by
    obtain ⟨g, o, e, hg, hc⟩ := h.cells hn
    refine ⟨g, o, e, Nat.lt_of_lt_of_le hg hb.size, fun k hk => ?_⟩
    obtain ⟨B, m, d, h0, h1, h3⟩ := hc k hk
    exact ⟨B, m, d, (hb.cell hg).trans h0, (hb.cell hg).trans h1, h3.below hb⟩⟩
theorem Hs.at_ {w : World} {A : Option Addr} {n c : Nat} {hs : List Ho} (h : Hs w A n c hs) {k : Nat} (hk : k < n) :
    ∃ g o x B m d, A = some ⟨g, o, none⟩ ∧ g < w.heap.size ∧ w.cell? ⟨g, o + k * 2, none⟩ = some (.string x) ∧ w.cell? ⟨g, o + k * 2 + 1, none⟩ = some (.slice B m d) ∧ Hid (x.data.toList = (hs.getD k ho0).name) ∧ Hid (Vs w B m d (hs.getD k ho0).ps) := by
  obtain ⟨g, o, hA, hg, hc⟩ := h.cells (by omega)
  obtain ⟨B, m, d, h0, h1, h3⟩ := hc k hk
  exact ⟨g, o, _, B, m, d, hA, hg, h0, h1, rfl, h3⟩
/-- The value of an environment. -/
structure Es (w : World) (e : Value) (v : En) : Prop where
  form : ∃ A n c B m d C p q, e = .agg #[.slice A n c, .slice B m d, .slice C p q] ∧ Vs w A n c v.vars ∧ Ys w B m d v.syms ∧ Hs w C p q v.holes
theorem Es.below {w w' : World} {e : Value} {v : En} (h : Es w e v) (hb : Below w.heap.size w w') : Es w' e v := by
  obtain ⟨A, n, c, B, m, d, C, p, q, e, h1, h2, h3⟩ := h.form
  exact ⟨A, n, c, B, m, d, C, p, q, e, h1.below hb, h2.below hb, h3.below hb⟩
theorem core_pos {l : Txt} (h : coreB l = true) : 0 < l.length := by
  cases l with
  | nil => exact absurd h (by decide)
  | cons c l => simp
theorem txt_eq_lit {s : ByteArray} {l : Txt} {b : Bool} (h : decide (s.data.toList = l) = b) : (s.toList == l) = b := by
  rw [← h, tolist_eq, Bool.eq_iff_iff, beq_iff_eq, decide_eq_true_iff]
end Go.Proofs.YtegognbnphpigaaDoor
