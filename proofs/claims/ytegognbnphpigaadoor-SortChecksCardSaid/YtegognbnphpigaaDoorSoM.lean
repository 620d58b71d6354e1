/-
  copyEach of sort at symbols and at holes.
-/
import Derived.Test.YtegognbnphpigaaDoorSoL
import Derived.Deep.Slices
namespace Go.Proofs.YtegognbnphpigaaDoor
open Go.RowKit

theorem Ss.setfar {w : World} {B : Option Addr} {m d : Nat} {ls : List Txt} (h : Ss w B m d ls) {g : Nat} (hne : ∀ a, B = some a → 0 < m → a.block ≠ g) (i : Nat) (v : Value) : Ss (w.setCell ⟨g, i, none⟩ v) B m d ls :=
  ⟨h.len, h.cap, h.top, fun hn => by
    obtain ⟨g', o, e, hg, hc⟩ := h.cells hn
    have hgg := hne _ e hn
    exact ⟨g', o, e, by simpa using hg, fun k hk => (World.cell?_setCell_other _ _ _ _ (fun e => hgg (by cases e; rfl))).trans (hc k hk)⟩⟩
theorem Vs.setfar {w : World} {B : Option Addr} {m d : Nat} {ls : List Vr} (h : Vs w B m d ls) {g : Nat} (hne : ∀ a, B = some a → 0 < m → a.block ≠ g) (i : Nat) (v : Value) : Vs (w.setCell ⟨g, i, none⟩ v) B m d ls :=
  ⟨h.len, h.cap, h.top, fun hn => by
    obtain ⟨g', o, e, hg, hc⟩ := h.cells hn
    have hgg := hne _ e hn
    exact ⟨g', o, e, by simpa using hg, fun k hk => ⟨(World.cell?_setCell_other _ _ _ _ (fun e => hgg (by cases e; rfl))).trans (hc k hk).1, (World.cell?_setCell_other _ _ _ _ (fun e => hgg (by cases e; rfl))).trans (hc k hk).2⟩⟩⟩
theorem same_cell {w : World} {g i : Nat} {u v : Value} (h : w.cell? ⟨g, i, none⟩ = some u) : (w.setCell ⟨g, i, none⟩ v).cell? ⟨g, i, none⟩ = some v := World.cell?_setCell_same' _ _ _ (by rw [h]; rfl)
theorem other_cell {w : World} {g i j : Nat} {v : Value} (h : i ≠ j) : (w.setCell ⟨g, i, none⟩ v).cell? ⟨g, j, none⟩ = w.cell? ⟨g, j, none⟩ := World.cell?_setCell_other _ _ _ _ (fun e => h (by cases e; rfl))
/-- A row of the call's own at ⟨g, o⟩ that reads as ys, and whose inner rows lie elsewhere. -/
structure Yo (w : World) (g o n : Nat) (ys : List Sy) : Prop where
  lt : g < w.heap.size
  fz : ∀ i, w.frozen? ⟨g, i, none⟩ = false
  cells : ∀ k, k < n → ∃ B m d, (w.cell? ⟨g, o + k * 3, none⟩ = some (strVal (ys.getD k sy0).name) ∧ w.cell? ⟨g, o + k * 3 + 1, none⟩ = some (.slice B m d) ∧ w.cell? ⟨g, o + k * 3 + 2, none⟩ = some (strVal (ys.getD k sy0).res) ∧ Ss w B m d (ys.getD k sy0).args) ∧ (∀ a, B = some a → 0 < m → a.block ≠ g)
theorem Yo.below {w w' : World} {g o n : Nat} {ys : List Sy} (h : Yo w g o n ys) (hb : Below w.heap.size w w') : Yo w' g o n ys :=
  ⟨Nat.lt_of_lt_of_le h.lt hb.size, fun i => (hb.frozen (p := ⟨g, i, none⟩) h.lt).trans (h.fz i), fun k hk => by
    obtain ⟨B, m, d, ⟨h0, h1, h2, h3⟩, h4⟩ := h.cells k hk
    exact ⟨B, m, d, ⟨(hb.cell (p := ⟨g, o + k * 3, none⟩) h.lt).trans h0, (hb.cell (p := ⟨g, o + k * 3 + 1, none⟩) h.lt).trans h1, (hb.cell (p := ⟨g, o + k * 3 + 2, none⟩) h.lt).trans h2, h3.below hb⟩, h4⟩⟩
theorem Yo.store {w : World} {g o n : Nat} {ys : List Sy} (h : Yo w g o n ys) {k : Nat} (hk : k < n) {x y : ByteArray} (hx : x.data.toList = (ys.getD k sy0).name) (hy : y.data.toList = (ys.getD k sy0).res) {A : Option Addr} {m c : Nat} (hs : Ss w A m c (ys.getD k sy0).args) (ha : ∀ a, A = some a → 0 < m → a.block ≠ g) :
    Yo (((w.setCell ⟨g, o + k * 3, none⟩ (.string x)).setCell ⟨g, o + k * 3 + 1, none⟩ (.slice A m c)).setCell ⟨g, o + k * 3 + 2, none⟩ (.string y)) g o n ys := by
  refine ⟨by simpa using h.lt, fun i => by simp only [World.frozen?_setCell]; exact h.fz i, fun j hj => ?_⟩
  have ex : strVal (ys.getD k sy0).name = .string x := by unfold strVal; rw [← hx, eta_txt]
  have ey : strVal (ys.getD k sy0).res = .string y := by unfold strVal; rw [← hy, eta_txt]
  obtain ⟨B, m', d, ⟨h0, h1, h2, h3⟩, h4⟩ := h.cells j hj
  by_cases e : j = k
  · subst e
    refine ⟨A, m, c, ⟨?_, ?_, ?_, ?_⟩, ha⟩
    · rw [other_cell (by omega), other_cell (by omega), ex]; exact same_cell h0
    · rw [other_cell (by omega)]; exact same_cell ((other_cell (by omega)).trans h1)
    · rw [ey]; exact same_cell ((other_cell (by omega)).trans ((other_cell (by omega)).trans h2))
    · exact ((hs.setfar ha _ _).setfar ha _ _).setfar ha _ _
  · refine ⟨B, m', d, ⟨?_, ?_, ?_, ?_⟩, h4⟩
    · rw [other_cell (by omega), other_cell (by omega), other_cell (by omega)]; exact h0
    · rw [other_cell (by omega), other_cell (by omega), other_cell (by omega)]; exact h1
    · rw [other_cell (by omega), other_cell (by omega), other_cell (by omega)]; exact h2
    · exact ((h3.setfar h4 _ _).setfar h4 _ _).setfar h4 _ _
theorem clone_syms (A : Option Addr) (n c : Nat) (ys : List Sy) (w : World) (hs : Ys w A n c ys) (hn : n ≤ 100000) :
    Calls Tryd.prog 64 #[.slice A n c] w fun e w' => ∃ A' c', e = .returned (.slice A' n c') ∧ n ≤ c' ∧ c' ≤ 9223372036854775807 ∧ (0 < n → ∃ g o, A' = some ⟨g, o, none⟩ ∧ w.heap.size ≤ g ∧ Yo w' g o n ys) ∧ Below w.heap.size w w' := by
  have each : ∀ k, k < n → ∃ z : Option Addr × Nat × Nat, ∀ g o, A = some ⟨g, o, none⟩ → (w.cell? ⟨g, o + k * 3, none⟩ = some (strVal (ys.getD k sy0).name) ∧ w.cell? ⟨g, o + k * 3 + 1, none⟩ = some (.slice z.1 z.2.1 z.2.2) ∧ w.cell? ⟨g, o + k * 3 + 2, none⟩ = some (strVal (ys.getD k sy0).res) ∧ Ss w z.1 z.2.1 z.2.2 (ys.getD k sy0).args) := by
    intro k hk
    obtain ⟨g, o, e, hg, hc⟩ := hs.cells (by omega)
    obtain ⟨B, m, d, h⟩ := hc k hk
    exact ⟨(B, m, d), fun g' o' e' => by rw [e] at e'; cases e'; exact h⟩
  obtain ⟨q, hq⟩ := Go.Deep.choose_lt each
  obtain ⟨f, hf⟩ : ∃ f : Nat → List Value, f = fun k => [strVal (ys.getD k sy0).name, .slice (q k).1 (q k).2.1 (q k).2.2, strVal (ys.getD k sy0).res] := ⟨_, rfl⟩
  have hfl : ∀ k, (f k).length = 3 := fun k => by rw [hf]; rfl
  refine (clone_sym A n c ((List.range n).flatMap f) w (range_len _ n hfl) hn (fun h => ?_) (range_one fun k u hu => ?_)).mono ?_
  · obtain ⟨g, o, e, hg, _⟩ := hs.cells h
    refine ⟨g, o, e, range_cells _ hfl fun k hk i u hu => ?_⟩
    have hh := hq k hk g o e
    have hi : i < 3 := by have := (List.getElem?_eq_some_iff.1 hu).1; rw [hfl] at this; exact this
    rw [hf] at hu
    have hi2 : i = 0 ∨ i = 1 ∨ i = 2 := by omega
    rcases hi2 with rfl | rfl | rfl
    · cases hu; exact hh.1
    · cases hu; exact hh.2.1
    · cases hu; exact hh.2.2.1
  · rw [hf] at hu
    simp only [List.mem_cons, List.not_mem_nil, or_false] at hu
    rcases hu with rfl | rfl | rfl <;> rfl
  rintro e w' ⟨v', rfl, ho, hb⟩
  obtain ⟨A', c', rfl, h1, h2, h3, h4⟩ := row_out ho
  refine ⟨A', c', rfl, h1, by unfold maxLen at h2; omega, fun h0 => ?_, hb⟩
  obtain ⟨g, e, hg, hfz, hcl⟩ := h4 h0
  have hge := h3 _ e
  refine ⟨g, 0, e, hge, hg, hfz, fun k hk => ?_⟩
  obtain ⟨g1, o1, e1, hg1, _⟩ := hs.cells h0
  have hh := hq k hk g1 o1 e1
  have a0 := hcl (k * 3 + 0) _ ((range_at f hfl hk (by omega)).trans (by rw [hf]; rfl))
  have a1 := hcl (k * 3 + 1) _ ((range_at f hfl hk (by omega)).trans (by rw [hf]; rfl))
  have a2 := hcl (k * 3 + 2) _ ((range_at f hfl hk (by omega)).trans (by rw [hf]; rfl))
  refine ⟨(q k).1, (q k).2.1, (q k).2.2, ⟨by simpa using a0, by simpa using a1, by simpa using a2, (hh.2.2.2).below hb⟩, fun a ha hm => ?_⟩
  obtain ⟨g2, o2, e2, hg2, _⟩ := (hh.2.2.2).cells hm
  rw [e2] at ha
  cases ha
  show g2 ≠ g
  have : w.heap.size ≤ g := hge
  omega
set_option maxRecDepth 100000 in
set_option maxHeartbeats 4000000 in
theorem copyeach_syms (A : Option Addr) (n c : Nat) (ys : List Sy) (w : World) (hs : Ys w A n c ys) (hn : n ≤ 1000) (hfit : ∀ y ∈ ys, y.args.length ≤ 100000) :
    Calls Tryd.prog 50 #[.slice A n c, .func (.func 44) #[] #[]] w fun e w' => ∃ A' c', e = .returned (.slice A' n c') ∧ Ys w' A' n c' ys ∧ Below w.heap.size w w' := by
  have HL := Lib.hid hs.len
  have HF := Lib.hid hfit
  have CL := clone_syms A n c ys w hs (by omega)
  clear hs hfit
  go_enter Tryd.func50, Tryd.ntmps50
  go_wp2_with fail
  (refine CL.mono ?_); rintro e w1 ⟨A', c', rfl, hc1, hc2, hyo, hb⟩
  have HC1 := Lib.hid hc1
  have HC2 := Lib.hid hc2
  have HY1 := Lib.hid hyo
  have HB1 := Lib.hid hb
  clear CL hc1 hc2 hyo hb
  go_wp2_with fail
  go_loopw [12] (fun iv wr => ∃ k : Nat, k ≤ n ∧ iv = .int .i64 (k : Int) ∧ (0 < n → ∃ g o, A' = some ⟨g, o, none⟩ ∧ w.heap.size ≤ g ∧ Yo wr g o n ys) ∧ Below w.heap.size w wr) (fun iv _ => n - (intOf iv).toNat)
  case atStart => exact ⟨0, Nat.zero_le _, rfl, HY1.out, HB1.out⟩
  case round =>
    obtain ⟨k, hk, rfl, hy1, hb⟩ := hrel
    have HB := Lib.hid hb
    have HY2 := Lib.hid hy1
    clear hb hy1
    by_cases hlt : k < n
    · obtain ⟨g, o, rfl, hge, hyo⟩ := HY2.out (by omega)
      have HYO := Lib.hid hyo
      have HGE := Lib.hid hge
      have HGL := Lib.hid hyo.lt
      obtain ⟨B, m, d, ⟨k0, k1, k2, hss⟩, hne⟩ := hyo.cells k hlt
      have hkl : k < ys.length := by rw [HL.out]; exact hlt
      have hml : m ≤ 100000 := by rw [← hss.len]; exact HF.out _ (getD_mem_sy hkl)
      have HML := Lib.hid hml
      obtain ⟨x, hx⟩ : ∃ x : ByteArray, x = ⟨(ys.getD k sy0).name.toArray⟩ := ⟨_, rfl⟩
      have HX : Hid (x.data.toList = (ys.getD k sy0).name) := by show _ = _; rw [hx]
      rw [show strVal (ys.getD k sy0).name = .string x from by rw [hx]; rfl] at k0
      obtain ⟨y, hy⟩ : ∃ y : ByteArray, y = ⟨(ys.getD k sy0).res.toArray⟩ := ⟨_, rfl⟩
      have HYR : Hid (y.data.toList = (ys.getD k sy0).res) := by show _ = _; rw [hy]
      rw [show strVal (ys.getD k sy0).res = .string y from by rw [hy]; rfl] at k2
      have HSS := Lib.hid (hss.below (below_alloc (.cells #[.string x, .slice B m d, .string y] 25)))
      have BK := Bk.new 25 wr #[.string x, .slice B m d, .string y]
      have b0 := BK.c 0 (v := .string x) rfl
      have b1 := BK.c 1 (v := .slice B m d) rfl
      have b2 := BK.c 2 (v := .string y) rfl
      have HBA := Lib.hid (nbelow_on HB.out (below_alloc (.cells #[.string x, .slice B m d, .string y] 25)))
      have HYA := Lib.hid (hyo.below (below_alloc (.cells #[.string x, .slice B m d, .string y] 25)))
      have q1 : (k : Int) < n := by omega
      clear hyo hge hss hne hkl hml hx BK hy
      go_wp2_with fail
      (refine (copysym_any x y B m d _ _ HSS.out HML.out).mono ?_); rintro e w2 ⟨A2, c2, rfl, hs2, hge2, hb⟩
      have HY3 := Lib.hid (HYA.out.below hb)
      have HB3 := Lib.hid (nbelow_on HBA.out hb)
      have hn2 : ∀ a, A2 = some a → 0 < m → a.block ≠ g := fun a ha _ => by
        have h1 := hge2 a ha
        have h2 := HGL.out
        rw [World.size_alloc] at h1
        omega
      have hst := HY3.out.store hlt HX.out HYR.out hs2 hn2
      have HST := Lib.hid hst
      obtain ⟨B', m', d', ⟨z0, z1, z2, -⟩, -⟩ := HY3.out.cells k hlt
      have f0 := HY3.out.fz (o + k * 3)
      have f1 := HY3.out.fz (o + k * 3 + 1)
      have f2 := HY3.out.fz (o + k * 3 + 2)
      have hbs : Below w.heap.size w (((w2.setCell ⟨g, o + k * 3, none⟩ (.string x)).setCell ⟨g, o + k * 3 + 1, none⟩ (.slice A2 m c2)).setCell ⟨g, o + k * 3 + 2, none⟩ (.string y)) := ((HB3.out.setCell (p := ⟨g, o + k * 3, none⟩) HGE.out _).setCell (p := ⟨g, o + k * 3 + 1, none⟩) HGE.out _).setCell (p := ⟨g, o + k * 3 + 2, none⟩) HGE.out _
      have HBS := Lib.hid hbs
      clear hs2 hge2 hb hn2 hst hbs
      go_wp2_with fail
      go_roundw
      case rel => exact ⟨k + 1, by omega, by go_num, fun _ => ⟨g, o, rfl, HGE.out, HST.out⟩, HBS.out⟩
      case measure => simp [intOf] <;> omega
    · have hke : k = n := by omega
      subst hke
      have q1 : ¬ (k : Int) < k := by omega
      have HYF : Hid (Ys wr A' k c' ys) := ⟨HL.out, HC1.out, HC2.out, fun h0 => by
        obtain ⟨g, o, e, _, hyo⟩ := HY2.out h0
        refine ⟨g, o, e, hyo.lt, fun j hj => ?_⟩
        obtain ⟨B, m, d, h, _⟩ := hyo.cells j hj
        exact ⟨B, m, d, h⟩⟩
      go_wp2_with fail
      go_ret
      exact ⟨A', c', rfl, HYF.out, HB.out⟩
/-- A row of the call's own at ⟨g, o⟩ that reads as ys, and whose inner rows lie elsewhere. -/
structure Ho_ (w : World) (g o n : Nat) (ys : List Ho) : Prop where
  lt : g < w.heap.size
  fz : ∀ i, w.frozen? ⟨g, i, none⟩ = false
  cells : ∀ k, k < n → ∃ B m d, (w.cell? ⟨g, o + k * 2, none⟩ = some (strVal (ys.getD k ho0).name) ∧ w.cell? ⟨g, o + k * 2 + 1, none⟩ = some (.slice B m d) ∧ Vs w B m d (ys.getD k ho0).ps) ∧ (∀ a, B = some a → 0 < m → a.block ≠ g)
theorem Ho_.below {w w' : World} {g o n : Nat} {ys : List Ho} (h : Ho_ w g o n ys) (hb : Below w.heap.size w w') : Ho_ w' g o n ys :=
  ⟨Nat.lt_of_lt_of_le h.lt hb.size, fun i => (hb.frozen (p := ⟨g, i, none⟩) h.lt).trans (h.fz i), fun k hk => by
    obtain ⟨B, m, d, ⟨h0, h1, h3⟩, h4⟩ := h.cells k hk
    exact ⟨B, m, d, ⟨(hb.cell (p := ⟨g, o + k * 2, none⟩) h.lt).trans h0, (hb.cell (p := ⟨g, o + k * 2 + 1, none⟩) h.lt).trans h1, h3.below hb⟩, h4⟩⟩
theorem Ho_.store {w : World} {g o n : Nat} {ys : List Ho} (h : Ho_ w g o n ys) {k : Nat} (hk : k < n) {x : ByteArray} (hx : x.data.toList = (ys.getD k ho0).name) {A : Option Addr} {m c : Nat} (hs : Vs w A m c (ys.getD k ho0).ps) (ha : ∀ a, A = some a → 0 < m → a.block ≠ g) :
    Ho_ ((w.setCell ⟨g, o + k * 2, none⟩ (.string x)).setCell ⟨g, o + k * 2 + 1, none⟩ (.slice A m c)) g o n ys := by
  refine ⟨by simpa using h.lt, fun i => by simp only [World.frozen?_setCell]; exact h.fz i, fun j hj => ?_⟩
  have ex : strVal (ys.getD k ho0).name = .string x := by unfold strVal; rw [← hx, eta_txt]
  obtain ⟨B, m', d, ⟨h0, h1, h3⟩, h4⟩ := h.cells j hj
  by_cases e : j = k
  · subst e
    refine ⟨A, m, c, ⟨?_, ?_, ?_⟩, ha⟩
    · rw [other_cell (by omega), ex]; exact same_cell h0
    · exact same_cell ((other_cell (by omega)).trans h1)
    · exact (hs.setfar ha _ _).setfar ha _ _
  · refine ⟨B, m', d, ⟨?_, ?_, ?_⟩, h4⟩
    · rw [other_cell (by omega), other_cell (by omega)]; exact h0
    · rw [other_cell (by omega), other_cell (by omega)]; exact h1
    · exact (h3.setfar h4 _ _).setfar h4 _ _
theorem clone_hols (A : Option Addr) (n c : Nat) (ys : List Ho) (w : World) (hs : Hs w A n c ys) (hn : n ≤ 100000) :
    Calls Tryd.prog 65 #[.slice A n c] w fun e w' => ∃ A' c', e = .returned (.slice A' n c') ∧ n ≤ c' ∧ c' ≤ 9223372036854775807 ∧ (0 < n → ∃ g o, A' = some ⟨g, o, none⟩ ∧ w.heap.size ≤ g ∧ Ho_ w' g o n ys) ∧ Below w.heap.size w w' := by
  have each : ∀ k, k < n → ∃ z : Option Addr × Nat × Nat, ∀ g o, A = some ⟨g, o, none⟩ → (w.cell? ⟨g, o + k * 2, none⟩ = some (strVal (ys.getD k ho0).name) ∧ w.cell? ⟨g, o + k * 2 + 1, none⟩ = some (.slice z.1 z.2.1 z.2.2) ∧ Vs w z.1 z.2.1 z.2.2 (ys.getD k ho0).ps) := by
    intro k hk
    obtain ⟨g, o, e, hg, hc⟩ := hs.cells (by omega)
    obtain ⟨B, m, d, h⟩ := hc k hk
    exact ⟨(B, m, d), fun g' o' e' => by rw [e] at e'; cases e'; exact h⟩
  obtain ⟨q, hq⟩ := Go.Deep.choose_lt each
  obtain ⟨f, hf⟩ : ∃ f : Nat → List Value, f = fun k => [strVal (ys.getD k ho0).name, .slice (q k).1 (q k).2.1 (q k).2.2] := ⟨_, rfl⟩
  have hfl : ∀ k, (f k).length = 2 := fun k => by rw [hf]; rfl
  refine (clone_hol A n c ((List.range n).flatMap f) w (range_len _ n hfl) hn (fun h => ?_) (range_one fun k u hu => ?_)).mono ?_
  · obtain ⟨g, o, e, hg, _⟩ := hs.cells h
    refine ⟨g, o, e, range_cells _ hfl fun k hk i u hu => ?_⟩
    have hh := hq k hk g o e
    have hi : i < 2 := by have := (List.getElem?_eq_some_iff.1 hu).1; rw [hfl] at this; exact this
    rw [hf] at hu
    have hi2 : i = 0 ∨ i = 1 := by omega
    rcases hi2 with rfl | rfl
    · cases hu; exact hh.1
    · cases hu; exact hh.2.1
  · rw [hf] at hu
    simp only [List.mem_cons, List.not_mem_nil, or_false] at hu
    rcases hu with rfl | rfl <;> rfl
  rintro e w' ⟨v', rfl, ho, hb⟩
  obtain ⟨A', c', rfl, h1, h2, h3, h4⟩ := row_out ho
  refine ⟨A', c', rfl, h1, by unfold maxLen at h2; omega, fun h0 => ?_, hb⟩
  obtain ⟨g, e, hg, hfz, hcl⟩ := h4 h0
  have hge := h3 _ e
  refine ⟨g, 0, e, hge, hg, hfz, fun k hk => ?_⟩
  obtain ⟨g1, o1, e1, hg1, _⟩ := hs.cells h0
  have hh := hq k hk g1 o1 e1
  have a0 := hcl (k * 2 + 0) _ ((range_at f hfl hk (by omega)).trans (by rw [hf]; rfl))
  have a1 := hcl (k * 2 + 1) _ ((range_at f hfl hk (by omega)).trans (by rw [hf]; rfl))
  refine ⟨(q k).1, (q k).2.1, (q k).2.2, ⟨by simpa using a0, by simpa using a1, (hh.2.2).below hb⟩, fun a ha hm => ?_⟩
  obtain ⟨g2, o2, e2, hg2, _⟩ := (hh.2.2).cells hm
  rw [e2] at ha
  cases ha
  show g2 ≠ g
  have : w.heap.size ≤ g := hge
  omega
set_option maxRecDepth 100000 in
set_option maxHeartbeats 4000000 in
theorem copyeach_holes (A : Option Addr) (n c : Nat) (ys : List Ho) (w : World) (hs : Hs w A n c ys) (hn : n ≤ 1000) (hfit : ∀ y ∈ ys, y.ps.length ≤ 100000) :
    Calls Tryd.prog 51 #[.slice A n c, .func (.func 45) #[] #[]] w fun e w' => ∃ A' c', e = .returned (.slice A' n c') ∧ Hs w' A' n c' ys ∧ Below w.heap.size w w' := by
  have HL := Lib.hid hs.len
  have HF := Lib.hid hfit
  have CL := clone_hols A n c ys w hs (by omega)
  clear hs hfit
  go_enter Tryd.func51, Tryd.ntmps51
  go_wp2_with fail
  (refine CL.mono ?_); rintro e w1 ⟨A', c', rfl, hc1, hc2, hyo, hb⟩
  have HC1 := Lib.hid hc1
  have HC2 := Lib.hid hc2
  have HY1 := Lib.hid hyo
  have HB1 := Lib.hid hb
  clear CL hc1 hc2 hyo hb
  go_wp2_with fail
  go_loopw [12] (fun iv wr => ∃ k : Nat, k ≤ n ∧ iv = .int .i64 (k : Int) ∧ (0 < n → ∃ g o, A' = some ⟨g, o, none⟩ ∧ w.heap.size ≤ g ∧ Ho_ wr g o n ys) ∧ Below w.heap.size w wr) (fun iv _ => n - (intOf iv).toNat)
  case atStart => exact ⟨0, Nat.zero_le _, rfl, HY1.out, HB1.out⟩
  case round =>
    obtain ⟨k, hk, rfl, hy1, hb⟩ := hrel
    have HB := Lib.hid hb
    have HY2 := Lib.hid hy1
    clear hb hy1
    by_cases hlt : k < n
    · obtain ⟨g, o, rfl, hge, hyo⟩ := HY2.out (by omega)
      have HYO := Lib.hid hyo
      have HGE := Lib.hid hge
      have HGL := Lib.hid hyo.lt
      obtain ⟨B, m, d, ⟨k0, k1, hss⟩, hne⟩ := hyo.cells k hlt
      have hkl : k < ys.length := by rw [HL.out]; exact hlt
      have hml : m ≤ 100000 := by rw [← hss.len]; exact HF.out _ (getD_mem_ho hkl)
      have HML := Lib.hid hml
      obtain ⟨x, hx⟩ : ∃ x : ByteArray, x = ⟨(ys.getD k ho0).name.toArray⟩ := ⟨_, rfl⟩
      have HX : Hid (x.data.toList = (ys.getD k ho0).name) := by show _ = _; rw [hx]
      rw [show strVal (ys.getD k ho0).name = .string x from by rw [hx]; rfl] at k0
      have HSS := Lib.hid (hss.below (below_alloc (.cells #[.string x, .slice B m d] 44)))
      have BK := Bk.new 44 wr #[.string x, .slice B m d]
      have b0 := BK.c 0 (v := .string x) rfl
      have b1 := BK.c 1 (v := .slice B m d) rfl
      have HBA := Lib.hid (nbelow_on HB.out (below_alloc (.cells #[.string x, .slice B m d] 44)))
      have HYA := Lib.hid (hyo.below (below_alloc (.cells #[.string x, .slice B m d] 44)))
      have q1 : (k : Int) < n := by omega
      clear hyo hge hss hne hkl hml hx BK
      go_wp2_with fail
      (refine (copyhole_any x B m d _ _ HSS.out HML.out).mono ?_); rintro e w2 ⟨A2, c2, rfl, hs2, hge2, hb⟩
      have HY3 := Lib.hid (HYA.out.below hb)
      have HB3 := Lib.hid (nbelow_on HBA.out hb)
      have hn2 : ∀ a, A2 = some a → 0 < m → a.block ≠ g := fun a ha _ => by
        have h1 := hge2 a ha
        have h2 := HGL.out
        rw [World.size_alloc] at h1
        omega
      have hst := HY3.out.store hlt HX.out hs2 hn2
      have HST := Lib.hid hst
      obtain ⟨B', m', d', ⟨z0, z1, -⟩, -⟩ := HY3.out.cells k hlt
      have f0 := HY3.out.fz (o + k * 2)
      have f1 := HY3.out.fz (o + k * 2 + 1)
      have hbs : Below w.heap.size w ((w2.setCell ⟨g, o + k * 2, none⟩ (.string x)).setCell ⟨g, o + k * 2 + 1, none⟩ (.slice A2 m c2)) := (HB3.out.setCell (p := ⟨g, o + k * 2, none⟩) HGE.out _).setCell (p := ⟨g, o + k * 2 + 1, none⟩) HGE.out _
      have HBS := Lib.hid hbs
      clear hs2 hge2 hb hn2 hst hbs
      go_wp2_with fail
      go_roundw
      case rel => exact ⟨k + 1, by omega, by go_num, fun _ => ⟨g, o, rfl, HGE.out, HST.out⟩, HBS.out⟩
      case measure => simp [intOf] <;> omega
    · have hke : k = n := by omega
      subst hke
      have q1 : ¬ (k : Int) < k := by omega
      have HYF : Hid (Hs wr A' k c' ys) := ⟨HL.out, HC1.out, HC2.out, fun h0 => by
        obtain ⟨g, o, e, _, hyo⟩ := HY2.out h0
        refine ⟨g, o, e, hyo.lt, fun j hj => ?_⟩
        obtain ⟨B, m, d, h, _⟩ := hyo.cells j hj
        exact ⟨B, m, d, h⟩⟩
      go_wp2_with fail
      go_ret
      exact ⟨A', c', rfl, HYF.out, HB.out⟩
end Go.Proofs.YtegognbnphpigaaDoor
