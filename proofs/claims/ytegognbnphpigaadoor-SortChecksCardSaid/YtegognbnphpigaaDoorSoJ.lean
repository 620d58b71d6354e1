/-
  Var of sort and of the reference.
-/
import Derived.Test.YtegognbnphpigaaDoorSoI
namespace Go.Proofs.YtegognbnphpigaaDoor
open Go.RowKit Go.Shelf

attribute [local go_sem] Oper.semAt_some
theorem backward_any (A : Option Addr) (n c : Nat) (w : World) : Calls Tryd.prog 43 #[.slice A n c] w fun e w' =>
    e = .returned (.func (.func 61) #[] #[.pointer (some ⟨w.heap.size, 0, none⟩)]) ∧ w' = w.alloc (.cells #[.slice A n c] 32) := by
  go_enter Tryd.func43, Tryd.ntmps43
  go_wp2_with fail
  go_ret
  exact ⟨rfl, rfl⟩
/-- The boxes of Var: the name, the two results. -/
structure Vb (W : World) (b : Nat) (s y : ByteArray) (f : Bool) : Prop where
  nm : Bk 9 W (b + 1) #[.string s]
  so : Bk 22 W (b + 1 + 1) #[.string y]
  ok : Bk 4 W (b + 1 + 1 + 1) #[.bool f]
theorem Vb.keep {W W' : World} {n b : Nat} {s y : ByteArray} {f : Bool} (h : Vb W b s y f) (hb : Below n W W') (hn : b + 1 + 1 + 1 < n) : Vb W' b s y f :=
  ⟨(hb.block (b + 1) (by omega)).trans h.nm, (hb.block (b + 1 + 1) (by omega)).trans h.so, (hb.block (b + 1 + 1 + 1) (by omega)).trans h.ok⟩
theorem Vb.set {W : World} {b : Nat} {s y : ByteArray} {f : Bool} (h : Vb W b s y f) (y' : ByteArray) (f' : Bool) : Vb ((W.setCell ⟨b + 1 + 1, 0, none⟩ (.string y')).setCell ⟨b + 1 + 1 + 1, 0, none⟩ (.bool f')) b s y' f' :=
  ⟨(h.nm.far (p := ⟨b + 1 + 1, 0, none⟩) (by show b + 1 ≠ b + 1 + 1; omega) _).far (p := ⟨b + 1 + 1 + 1, 0, none⟩) (by show b + 1 ≠ b + 1 + 1 + 1; omega) _,
   (h.so.set 0 (.string y')).far (p := ⟨b + 1 + 1 + 1, 0, none⟩) (by show b + 1 + 1 ≠ b + 1 + 1 + 1; omega) _,
   (h.ok.far (p := ⟨b + 1 + 1, 0, none⟩) (by show b + 1 + 1 + 1 ≠ b + 1 + 1; omega) _).set 0 (.bool f')⟩
theorem own_vb {w : World} {n b : Nat} {s : ByteArray} (C : List Vr → Prop) (Y : List Vr → ByteArray) (f : Bool) (hb : b + 1 + 1 + 1 < n) (hw : w.heap.size ≤ n) : OwnFrom n (fun pre W => C pre ∧ n ≤ W.heap.size ∧ Vb W b s (Y pre) f ∧ Below w.heap.size w W) := by
  rintro t A B row ⟨h1, h2, h3, h4⟩ hg hr'
  have hb' : Below n A B := (Below.refl n A).grown hg h2 (fun k e => (hr' k e).1)
  exact ⟨h1, Nat.le_trans h2 hb'.size, h3.keep hb' hb, h4.trans (hb'.mono hw)⟩
theorem bk_cellkept {T : TypeId} {W : World} {b D : Nat} {l : Array Value} (h : Bk T W b l) (hD : W.heap[D]? = some (.deferred (some []))) (o : Obj) (k : Nat) {u : Value} (hv : l[k]? = some u) : (W.putObj D o).cell? ⟨b, k, none⟩ = some u := by
  have hne : b ≠ D := by
    intro e; subst e
    unfold Bk at h
    rw [h] at hD; cases hD
  have h2 : Bk T (W.putObj D o) b l := (World.putObj_heap_other hne).trans h
  exact h2.c k hv
def sortOf (s : ByteArray) (pre : List Vr) : ByteArray := ⟨((pre.find? (fun x : Vr => x.name == s.data.toList)).getD vr0).sort.toArray⟩
theorem find_prefix {l pre : List Vr} {p : Vr → Bool} (h : pre <+: l) (hf : (pre.find? p).isSome = true) : l.find? p = pre.find? p := by
  obtain ⟨t, rfl⟩ := h
  rw [List.find?_append]
  cases hx : pre.find? p with
  | none => rw [hx] at hf; cases hf
  | some x => rfl

set_option maxRecDepth 100000 in
set_option maxHeartbeats 4000000 in
theorem var_any (A0 : Option Addr) (n0 c0 : Nat) (B0 : Option Addr) (m0 d0 : Nat) (C0 : Option Addr) (p0 q0 : Nat) (v : En) (s : ByteArray) (w : World) (h1 : Vs w A0 n0 c0 v.vars) : Calls Tryd.prog 19 #[.agg #[.slice A0 n0 c0, .slice B0 m0 d0, .slice C0 p0 q0], .string s] w fun e w' => ∃ y : ByteArray, e = .returned (.tuple #[.string y, .bool (varF v.vars s.data.toList).isSome]) ∧ Hid (y.data.toList = ((varF v.vars s.data.toList).getD vr0).sort) ∧ Below w.heap.size w w' := by
  have hfn : Fence.wide.fn 19 := trivial
  have hf1 : Fence.wide.fn 43 := trivial
  obtain ⟨W4, hW4⟩ : ∃ W4, ((((w.alloc (.cells #[.slice A0 n0 c0, .slice B0 m0 d0, .slice C0 p0 q0] 36)).alloc (.cells #[.string s] 9)).alloc (.cells #[.string ⟨#[]⟩] 22)).alloc (.cells #[.bool false] 4)) = W4 := ⟨_, rfl⟩
  obtain ⟨WL, hWL⟩ : ∃ WL, (((((w.alloc (.cells #[.slice A0 n0 c0, .slice B0 m0 d0, .slice C0 p0 q0] 36)).alloc (.cells #[.string s] 9)).alloc (.cells #[.string ⟨#[]⟩] 22)).alloc (.cells #[.bool false] 4)).alloc (.cells #[.slice A0 n0 c0] 32)) = WL := ⟨_, rfl⟩
  have hsz : WL.heap.size = w.heap.size + 5 := by rw [← hWL]; simp
  have hb4 : Below w.heap.size w W4 := by rw [← hW4]; exact nbelow_on (nbelow_on (nbelow_on (below_alloc _) (below_alloc _)) (below_alloc _)) (below_alloc _)
  have hbl : Below w.heap.size w WL := by rw [← hWL, hW4]; exact nbelow_on hb4 (below_alloc _)
  have hvb : Vb WL w.heap.size s ⟨#[]⟩ false := by
    rw [← hWL]
    exact ⟨Bk.alloc (Bk.alloc (Bk.alloc (Bk.at _ (by simp)) _) _) _, Bk.alloc (Bk.alloc (Bk.at _ (by simp)) _) _, Bk.alloc (Bk.at _ (by simp)) _⟩
  have hc0 : WL.cell? ⟨w.heap.size + 1 + 1 + 1 + 1, 0, none⟩ = some (.slice A0 n0 c0) := by
    rw [← hWL]
    exact (Bk.at (T := 32) _ (by simp)).c 0 rfl
  have hvs : Vs WL A0 n0 c0 v.vars := h1.below hbl
  have e00 : ((((w.alloc (.cells #[.slice A0 n0 c0, .slice B0 m0 d0, .slice C0 p0 q0] 36)).alloc (.cells #[.string s] 9)).alloc (.cells #[.string ⟨#[]⟩] 22)).alloc (.cells #[.bool false] 4)).cell? ⟨w.heap.size, 0, none⟩ = some (.slice A0 n0 c0) := (((Bk.new 36 w #[.slice A0 n0 c0, .slice B0 m0 d0, .slice C0 p0 q0]).alloc _ |>.alloc _) |>.alloc _).c 0 rfl
  obtain ⟨RR, hRR⟩ : ∃ RR, varF v.vars s.data.toList = RR := ⟨_, rfl⟩
  rw [hRR]
  have HRR : Hid (v.vars.reverse.find? (fun x : Vr => x.name == s.data.toList) = RR) := hRR
  have HWL := Lib.hid hWL
  clear hWL hW4 hRR hb4
  refine (callsIn_wide (n := 6)).1 ?_
  refine callsIn_of_wp_marks Tryd.func19 rfl hfn ?_ rfl
  simp only [Tryd.ntmps19, List.size_toArray, List.length_cons, List.length_nil, Nat.reduceAdd, Nat.reduceSub, Array.replicate_succ, Array.replicate_zero, List.push_toArray, List.append_toArray, List.nil_append, List.cons_append]
  gi_wp2_with (gi_at_call 43; refine (callsIn_wide.2 (backward_any A0 n0 c0 _)).mono ?_; rintro e wx ⟨rfl, rfl⟩)
  rw [HWL.out]
  clear e00
  apply loop_back 6 (by omega) (w.heap.size + 1 + 1 + 1 + 1) (by omega) rfl rfl A0 n0 c0 v.vars hvs hc0
    (fun pre W => pre.find? (fun x : Vr => x.name == s.data.toList) = none ∧ WL.heap.size ≤ W.heap.size ∧ Vb W w.heap.size s ⟨#[]⟩ false ∧ Below w.heap.size w W)
    (fun pre W => (pre.find? (fun x : Vr => x.name == s.data.toList)).isSome = true ∧ WL.heap.size ≤ W.heap.size ∧ Vb W w.heap.size s (sortOf s pre) true ∧ Below w.heap.size w W)
    (own_vb _ (fun _ => ⟨#[]⟩) _ (by omega) (by omega)) (own_vb _ (sortOf s) _ (by omega) (by omega)) ⟨rfl, Nat.le_refl _, hvb, hbl⟩
  case hassign =>
    intro l i u W B K hB hK
    gi_wp2
    rw [← hB]
    exact hK
  case hbody =>
    rintro l pre i u B W ⟨h1, h2, h3, h4⟩ hBK hle
    have e0 := hBK.c 0 (v := .string ⟨u.name.toArray⟩) rfl
    have e1 := hBK.c 1 (v := .string ⟨u.sort.toArray⟩) rfl
    have k0 := h3.nm.c 0 (v := .string s) rfl
    have k1 := h3.so.c 0 (v := .string ⟨#[]⟩) rfl
    have k2 := h3.ok.c 0 (v := .bool false) rfl
    have z1 := h3.so.fz 0
    have z2 := h3.ok.fz 0
    have hne1 : B ≠ w.heap.size + 1 + 1 := by omega
    cases hd : decide (s.data.toList = u.name) with
    | true =>
      have TB : (u.name == s.toList) = (decide (s.data.toList = u.name)) := by rw [hd, tolist_eq]; exact name_beq hd
      rw [hd] at TB
      have L := h3.set ⟨u.sort.toArray⟩ true
      have k3 := (h3.ok.far (p := ⟨w.heap.size + 1 + 1, 0, none⟩) (by show w.heap.size + 1 + 1 + 1 ≠ w.heap.size + 1 + 1; omega) (.string ⟨u.sort.toArray⟩)).c 0 (v := .bool false) rfl
      have z3 := (h3.ok.far (p := ⟨w.heap.size + 1 + 1, 0, none⟩) (by show w.heap.size + 1 + 1 + 1 ≠ w.heap.size + 1 + 1; omega) (.string ⟨u.sort.toArray⟩)).fz 0
      gi_wp2
      have hfd : (pre ++ [u]).find? (fun x : Vr => x.name == s.data.toList) = some u := by
        rw [List.find?_append, h1, List.find?_cons, name_beq hd]; rfl
      refine ⟨((KeepsOthers.setCell _ _ _).trans (KeepsOthers.setCell _ _ _)).from _, by rw [hfd]; rfl, by simpa using h2, ?_, (h4.setCell (p := ⟨w.heap.size + 1 + 1, 0, none⟩) (by show w.heap.size ≤ w.heap.size + 1 + 1; omega) _).setCell (p := ⟨w.heap.size + 1 + 1 + 1, 0, none⟩) (by show w.heap.size ≤ w.heap.size + 1 + 1 + 1; omega) _⟩
      have e : sortOf s (pre ++ [u]) = ⟨u.sort.toArray⟩ := by unfold sortOf; rw [hfd]; rfl
      rw [e]
      exact L
    | false =>
      have TB : (u.name == s.toList) = (decide (s.data.toList = u.name)) := by rw [hd, tolist_eq]; exact name_beq hd
      rw [hd] at TB
      gi_wp2
      exact ⟨KeepsFrom.refl _ _, Below.refl _ _, by rw [List.find?_append, h1, List.find?_cons, name_beq hd]; rfl, h2, h3, h4⟩
  case hdone =>
    rintro D W hD ⟨h1, h2, h3, h4⟩ hK
    have k1 := h3.so.c 0 (v := .string ⟨#[]⟩) rfl
    have k2 := h3.ok.c 0 (v := .bool false) rfl
    have z1 := h3.so.fz 0
    have z2 := h3.ok.fz 0
    have k3 := (h3.ok.far (p := ⟨w.heap.size + 1 + 1, 0, none⟩) (by show w.heap.size + 1 + 1 + 1 ≠ w.heap.size + 1 + 1; omega) (.string ⟨#[]⟩)).c 0 (v := .bool false) rfl
    have z3 := (h3.ok.far (p := ⟨w.heap.size + 1 + 1, 0, none⟩) (by show w.heap.size + 1 + 1 + 1 ≠ w.heap.size + 1 + 1; omega) (.string ⟨#[]⟩)).fz 0
    have L := h3.set ⟨#[]⟩ false
    gi_wp2
    have hK' := ((KeepsOthers.setCell W ⟨w.heap.size + 1 + 1, 0, none⟩ (.string ⟨#[]⟩)).trans (KeepsOthers.setCell _ ⟨w.heap.size + 1 + 1 + 1, 0, none⟩ (.bool false))).same D _ hK rfl
    refine ⟨by simp, .inl ⟨_, _, rfl, run_takeDeferred hK', ?_⟩⟩
    have r1 := bk_cellkept L.so hK' (.deferred none) 0 (u := .string ⟨#[]⟩) rfl
    have r2 := bk_cellkept L.ok hK' (.deferred none) 0 (u := .bool false) rfl
    have hRN : RR = none := HRR.out.symm.trans h1
    refine ⟨.tuple #[.string ⟨#[]⟩, .bool false], ?_, ⟨#[]⟩, by rw [hRN]; rfl, by rw [hRN]; rfl, ((h4.setCell (p := ⟨w.heap.size + 1 + 1, 0, none⟩) (by show w.heap.size ≤ w.heap.size + 1 + 1; omega) _).setCell (p := ⟨w.heap.size + 1 + 1 + 1, 0, none⟩) (by show w.heap.size ≤ w.heap.size + 1 + 1 + 1; omega) _).trans (belowK_b (w := WL) (by omega) _ D _ _ hD hK' rfl rfl)⟩
    simp [results, Tryd.f19, go_sem, r1, r2]
  case hstop =>
    rintro D pre W hD hpre ⟨h1, h2, h3, h4⟩ hK
    gi_wp2
    refine ⟨by simp, .inl ⟨_, _, rfl, run_takeDeferred hK, ?_⟩⟩
    have r1 := bk_cellkept h3.so hK (.deferred none) 0 (u := .string (sortOf s pre)) rfl
    have r2 := bk_cellkept h3.ok hK (.deferred none) 0 (u := .bool true) rfl
    have hRS : RR = pre.find? (fun x : Vr => x.name == s.data.toList) := HRR.out.symm.trans (find_prefix hpre h1)
    refine ⟨.tuple #[.string (sortOf s pre), .bool true], ?_, sortOf s pre, by rw [hRS, h1], by rw [hRS]; rfl, h4.trans (belowK_b (w := WL) (by omega) W D _ _ hD hK rfl rfl)⟩
    simp [results, Tryd.f19, go_sem, r1, r2]

theorem rfind_at {p : Vr → Bool} {l : List Vr} {j : Nat} (hj : j < l.length) (hn : (l.drop (j + 1)).reverse.find? p = none) (h : p (l.getD j vr0) = true) : l.reverse.find? p = some (l.getD j vr0) := by
  have h2 : (l.drop j).reverse.find? p = some (l.getD j vr0) := by
    rw [rev_snoc hj, List.find?_append, hn, List.find?_cons, h]; rfl
  rw [find_prefix (rev_prefix l j) (by rw [h2]; rfl), h2]
theorem rfind_snoc {p : Vr → Bool} {l : List Vr} {j : Nat} (hj : j < l.length) (hn : (l.drop (j + 1)).reverse.find? p = none) (h : p (l.getD j vr0) = false) : (l.drop j).reverse.find? p = none := by
  rw [rev_snoc hj, List.find?_append, hn, List.find?_cons, h]; rfl
set_option maxRecDepth 100000 in
set_option maxHeartbeats 4000000 in
theorem rvar_any (A0 : Option Addr) (n0 c0 : Nat) (B0 : Option Addr) (m0 d0 : Nat) (C0 : Option Addr) (p0 q0 : Nat) (v : En) (s : ByteArray) (w : World) (h1 : Vs w A0 n0 c0 v.vars) : Calls Tryd.prog 20 #[.agg #[.slice A0 n0 c0, .slice B0 m0 d0, .slice C0 p0 q0], .string s] w fun e w' => ∃ y : ByteArray, e = .returned (.tuple #[.string y, .bool (varF v.vars s.data.toList).isSome]) ∧ Hid (y.data.toList = ((varF v.vars s.data.toList).getD vr0).sort) ∧ Below w.heap.size w w' := by
  have B1 := Bk.new 36 w #[.slice A0 n0 c0, .slice B0 m0 d0, .slice C0 p0 q0]
  have HL := Lib.hid h1.len
  have hb0 : Below w.heap.size w (w.alloc (.cells #[.slice A0 n0 c0, .slice B0 m0 d0, .slice C0 p0 q0] 36)) := below_alloc _
  have HB0 := Lib.hid hb0
  have HS := Lib.hid (h1.below hb0)
  have h47 : n0 ≤ 9223372036854775807 := Nat.le_trans h1.cap h1.top
  have p0' : IntKind.i64.wrap ((n0 : Int) - 1) = (n0 : Int) - 1 := (IntWalk.i64_left _).trans (IntWalk.wrap64_in _ (by omega))
  obtain ⟨RR, hRR⟩ : ∃ RR, varF v.vars s.data.toList = RR := ⟨_, rfl⟩
  rw [hRR]
  have HRR : Hid (v.vars.reverse.find? (fun x : Vr => x.name == s.data.toList) = RR) := hRR
  have e0 := B1.c 0 (v := .slice A0 n0 c0) rfl
  clear hb0 h1 hRR B1
  generalize hW : (w.alloc (.cells #[.slice A0 n0 c0, .slice B0 m0 d0, .slice C0 p0 q0] 36)) = W at *
  go_enter Tryd.func20, Tryd.ntmps20
  go_wp2_with fail
  clear p0'
  go_loop [6] (fun iv => ∃ k : Nat, k ≤ n0 ∧ iv = .int .i64 ((k : Int) - 1) ∧ (v.vars.drop k).reverse.find? (fun x : Vr => x.name == s.data.toList) = none) (fun iv => (intOf iv + 1).toNat)
  case atStart => exact ⟨n0, Nat.le_refl _, by go_num, by rw [List.drop_eq_nil_of_le (by rw [HL.out]; exact Nat.le_refl _)]; rfl⟩
  case round =>
    obtain ⟨k, hk, rfl, ha⟩ := hrel
    have HA := Lib.hid ha
    clear ha
    cases k with
    | zero =>
      have q : ¬ (0 : Int) ≤ ((0 : Nat) : Int) - 1 := by omega
      have hRN : Hid (RR = none) := HRR.out.symm.trans HA.out
      go_wp2_with fail
      refine bodyPost_ret (v := .tuple #[.string ⟨#[]⟩, .bool false]) (by simp [results, Tryd.results20, go_sem, *]) rfl ⟨⟨#[]⟩, by rw [hRN.out]; rfl, by rw [hRN.out]; rfl, HB0.out⟩
    | succ j =>
      have ej : ((j + 1 : Nat) : Int) - 1 = (j : Int) := by omega
      rw [ej]
      have hjl : j < v.vars.length := by rw [HL.out]; omega
      have HJL := Lib.hid hjl
      obtain ⟨g, o, x, y, rfl, hg, c0', c1', hx, hy⟩ := HS.out.at_ (k := j) (by omega)
      have HX := Lib.hid hx.out
      have HY := Lib.hid hy.out
      have hjm : (j : Int) < (n0 : Int) := by omega
      have HJ : Hid (j + 1 ≤ n0) := hk
      clear hx hy hg hjl ej hk
      cases hd : decide (s.data.toList = (v.vars.getD j vr0).name) with
      | true =>
        have TB := txt_beq2 HX.out hd
        have HRX : Hid (RR = some (v.vars.getD j vr0)) := HRR.out.symm.trans (rfind_at HJL.out HA.out (name_beq hd))
        clear hd
        go_wp2_with fail
        refine bodyPost_ret (v := .tuple #[.string y, .bool true]) (by simp [results, Tryd.results20, go_sem, *]) rfl ⟨y, by rw [HRX.out]; rfl, by rw [HRX.out]; exact HY.out, HB0.out⟩
      | false =>
        have TB := txt_beq2 HX.out hd
        have HN : Hid ((v.vars.drop j).reverse.find? (fun x : Vr => x.name == s.data.toList) = none) := rfind_snoc HJL.out HA.out (name_beq hd)
        clear hd
        go_wp2_with fail
        go_round
        case rel => exact ⟨j, by have := HJ.out; omega, by go_num, HN.out⟩
        case measure => simp [intOf] <;> omega
end Go.Proofs.YtegognbnphpigaaDoor
