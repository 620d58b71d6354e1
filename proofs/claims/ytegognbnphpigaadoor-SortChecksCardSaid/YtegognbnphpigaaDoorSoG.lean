/-
  Copies of texts, of variables, of a symbol, of a hole.
-/
import Derived.Test.YtegognbnphpigaaDoorSoF
namespace Go.Proofs.YtegognbnphpigaaDoor
open Go.RowKit

theorem range_len (f : Nat → List Value) {sz : Nat} (n : Nat) (hf : ∀ k, (f k).length = sz) : ((List.range n).flatMap f).length = n * sz := by
  induction n with
  | zero => simp
  | succ n ih => rw [List.range_succ, List.flatMap_append, List.length_append, ih, List.flatMap_cons, List.flatMap_nil, List.append_nil, hf, Nat.succ_mul]
theorem range_at (f : Nat → List Value) {sz n : Nat} (hf : ∀ k, (f k).length = sz) {k i : Nat} (hk : k < n) (hi : i < sz) : ((List.range n).flatMap f)[k * sz + i]? = (f k)[i]? := by
  induction n with
  | zero => omega
  | succ n ih =>
    rw [List.range_succ, List.flatMap_append, List.flatMap_cons, List.flatMap_nil, List.append_nil]
    have hl := range_len f n hf
    by_cases h : k < n
    · have h2 : k * sz + i < n * sz := by
        have := Nat.mul_le_mul_right sz (show k + 1 ≤ n by omega)
        rw [Nat.succ_mul] at this
        omega
      rw [List.getElem?_append_left (by omega), ih h]
    · obtain rfl : k = n := by omega
      rw [List.getElem?_append_right (by omega), hl]
      congr 1; omega
theorem range_back (f : Nat → List Value) {sz n : Nat} (hf : ∀ k, (f k).length = sz) {j : Nat} {u : Value} (h : ((List.range n).flatMap f)[j]? = some u) : ∃ k i, k < n ∧ i < sz ∧ j = k * sz + i ∧ (f k)[i]? = some u := by
  have hj := (List.getElem?_eq_some_iff.1 h).1
  rw [range_len f n hf] at hj
  have hz : 0 < sz := by
    rcases Nat.eq_zero_or_pos sz with e | e
    · subst e; simp at hj
    · exact e
  have hi : j % sz < sz := Nat.mod_lt _ hz
  have hk : j / sz < n := (Nat.div_lt_iff_lt_mul hz).2 hj
  have e : j = j / sz * sz + j % sz := by have := Nat.div_add_mod' j sz; omega
  refine ⟨j / sz, j % sz, hk, hi, e, ?_⟩
  rw [e, range_at f hf hk hi] at h
  exact h
/-- What a row's cells are, element for element. -/
theorem range_cells {w : World} {g o : Nat} (f : Nat → List Value) {sz n : Nat} (hf : ∀ k, (f k).length = sz) (hc : ∀ k, k < n → ∀ i u, (f k)[i]? = some u → w.cell? ⟨g, o + (k * sz + i), none⟩ = some u) :
    ∀ j u, ((List.range n).flatMap f)[j]? = some u → w.cell? ⟨g, o + j, none⟩ = some u := by
  intro j u h
  obtain ⟨k, i, hk, hi, rfl, hu⟩ := range_back f hf h
  exact hc k hk i u hu
theorem range_one {f : Nat → List Value} {n : Nat} (hf : ∀ k, ∀ u ∈ f k, u.oneCell' = true) : ∀ u ∈ (List.range n).flatMap f, u.oneCell' = true := by
  intro u hu
  obtain ⟨k, _, h⟩ := List.mem_flatMap.1 hu
  exact hf k u h
def fTx (ls : List Txt) (k : Nat) : List Value := [strVal (ls.getD k [])]
def fVr (vs : List Vr) (k : Nat) : List Value := [strVal (vs.getD k vr0).name, strVal (vs.getD k vr0).sort]
theorem fTx_len (ls : List Txt) (k : Nat) : (fTx ls k).length = 1 := rfl
theorem fVr_len (ls : List Vr) (k : Nat) : (fVr ls k).length = 2 := rfl
theorem clone_txs (A : Option Addr) (n c : Nat) (ls : List Txt) (w : World) (hs : Ss w A n c ls) (hn : n ≤ 100000) :
    Calls Tryd.prog 62 #[.slice A n c] w fun e w' => ∃ A' c', e = .returned (.slice A' n c') ∧ Ss w' A' n c' ls ∧ (∀ a, A' = some a → w.heap.size ≤ a.block) ∧ Below w.heap.size w w' := by
  refine (clone_srt A n c ((List.range n).flatMap (fTx ls)) w (range_len _ n (fTx_len ls)) hn (fun h => ?_) (range_one fun k u hu => ?_)).mono ?_
  · obtain ⟨g, o, e, _, hc⟩ := hs.cells h
    refine ⟨g, o, e, range_cells _ (fTx_len ls) fun k hk i u hu => ?_⟩
    · skip
      have hi2 : i = 0 := by have := (List.getElem?_eq_some_iff.1 hu).1; simp [fTx] at this; exact this
      subst hi2
      have e : u = strVal (ls.getD k []) := by simpa [fTx] using hu.symm
      subst e
      simpa [strVal] using hc k hk
  · unfold fTx at hu
    simp only [List.mem_cons, List.not_mem_nil, or_false] at hu
    subst hu; rfl
  rintro e w' ⟨v', rfl, ho, hb⟩
  obtain ⟨A', c', rfl, h1, h2, h3, h4⟩ := row_out ho
  refine ⟨A', c', rfl, ⟨hs.len, h1, by unfold maxLen at h2; omega, fun h0 => ?_⟩, h3, hb⟩
  obtain ⟨g, e, hg, _, hcl⟩ := h4 h0
  refine ⟨g, 0, e, hg, fun k hk => ?_⟩
  have := hcl (k * 1 + 0) (strVal (ls.getD k [])) (by rw [range_at (fTx ls) (fTx_len ls) hk (by omega)]; rfl)
  simpa [strVal] using this
theorem clone_vrs (A : Option Addr) (n c : Nat) (ls : List Vr) (w : World) (hs : Vs w A n c ls) (hn : n ≤ 100000) :
    Calls Tryd.prog 63 #[.slice A n c] w fun e w' => ∃ A' c', e = .returned (.slice A' n c') ∧ Vs w' A' n c' ls ∧ (∀ a, A' = some a → w.heap.size ≤ a.block) ∧ Below w.heap.size w w' := by
  refine (clone_var A n c ((List.range n).flatMap (fVr ls)) w (range_len _ n (fVr_len ls)) hn (fun h => ?_) (range_one fun k u hu => ?_)).mono ?_
  · obtain ⟨g, o, e, _, hc⟩ := hs.cells h
    refine ⟨g, o, e, range_cells _ (fVr_len ls) fun k hk i u hu => ?_⟩
    · skip
      have hi2 : i = 0 ∨ i = 1 := by have := (List.getElem?_eq_some_iff.1 hu).1; simp [fVr] at this; omega
      rcases hi2 with rfl | rfl
      · have e : u = strVal (ls.getD k vr0).name := by simpa [fVr] using hu.symm
        subst e
        exact (hc k hk).1
      · have e : u = strVal (ls.getD k vr0).sort := by simpa [fVr] using hu.symm
        subst e
        exact (hc k hk).2
  · unfold fVr at hu
    simp only [List.mem_cons, List.not_mem_nil, or_false] at hu
    rcases hu with rfl | rfl <;> rfl
  rintro e w' ⟨v', rfl, ho, hb⟩
  obtain ⟨A', c', rfl, h1, h2, h3, h4⟩ := row_out ho
  refine ⟨A', c', rfl, ⟨hs.len, h1, by unfold maxLen at h2; omega, fun h0 => ?_⟩, h3, hb⟩
  obtain ⟨g, e, hg, _, hcl⟩ := h4 h0
  refine ⟨g, 0, e, hg, fun k hk => ?_⟩
  have h0 := hcl (k * 2 + 0) (strVal (ls.getD k vr0).name) (by rw [range_at (fVr ls) (fVr_len ls) hk (by omega)]; rfl)
  have h1 := hcl (k * 2 + 1) (strVal (ls.getD k vr0).sort) (by rw [range_at (fVr ls) (fVr_len ls) hk (by omega)]; rfl)
  exact ⟨by simpa using h0, by simpa using h1⟩
/-- A row that lies at or above b is kept by whatever keeps the cells there. -/
theorem Ss.on_far {w w' : World} {A : Option Addr} {n c b : Nat} {ls : List Txt} (h : Ss w A n c ls) (ha : ∀ a, A = some a → b ≤ a.block) (hs : w.heap.size ≤ w'.heap.size) (hk : ∀ p : Addr, b ≤ p.block → w'.cell? p = w.cell? p) : Ss w' A n c ls :=
  ⟨h.len, h.cap, h.top, fun hn => by
    obtain ⟨g, o, e, hg, hc⟩ := h.cells hn
    exact ⟨g, o, e, by omega, fun k hk' => (hk ⟨g, o + k, none⟩ (show b ≤ g from ha _ e)).trans (hc k hk')⟩⟩
theorem Vs.on_far {w w' : World} {A : Option Addr} {n c b : Nat} {ls : List Vr} (h : Vs w A n c ls) (ha : ∀ a, A = some a → b ≤ a.block) (hs : w.heap.size ≤ w'.heap.size) (hk : ∀ p : Addr, b ≤ p.block → w'.cell? p = w.cell? p) : Vs w' A n c ls :=
  ⟨h.len, h.cap, h.top, fun hn => by
    obtain ⟨g, o, e, hg, hc⟩ := h.cells hn
    exact ⟨g, o, e, by omega, fun k hk' => ⟨(hk ⟨g, o + k * 2, none⟩ (show b ≤ g from ha _ e)).trans (hc k hk').1, (hk ⟨g, o + k * 2 + 1, none⟩ (show b ≤ g from ha _ e)).trans (hc k hk').2⟩⟩⟩
set_option maxRecDepth 100000 in
set_option maxHeartbeats 2000000 in
theorem copysym_any (x y : ByteArray) (A : Option Addr) (n c : Nat) (ls : List Txt) (w : World) (hs : Ss w A n c ls) (hn : n ≤ 100000) :
    Calls Tryd.prog 44 #[.agg #[.string x, .slice A n c, .string y]] w fun e w' => ∃ A' c', e = .returned (.agg #[.string x, .slice A' n c', .string y]) ∧ Ss w' A' n c' ls ∧ (∀ a, A' = some a → w.heap.size ≤ a.block) ∧ Below w.heap.size w w' := by
  have B1 := Bk.new 25 w #[.string x, .slice A n c, .string y]
  have B2 : Bk 25 ((w.alloc (.cells #[.string x, .slice A n c, .string y] 25)).alloc (.cells #[.string ⟨#[]⟩, .slice none 0 0, .string ⟨#[]⟩] 25)) (w.heap.size + 1) #[.string ⟨#[]⟩, .slice none 0 0, .string ⟨#[]⟩] := Bk.at _ (by simp)
  have B1' := B1.alloc (.cells #[.string ⟨#[]⟩, .slice none 0 0, .string ⟨#[]⟩] 25)
  have hb0 : Below w.heap.size w ((w.alloc (.cells #[.string x, .slice A n c, .string y] 25)).alloc (.cells #[.string ⟨#[]⟩, .slice none 0 0, .string ⟨#[]⟩] 25)) := nbelow_on (below_alloc _) (below_alloc _)
  have CL := clone_txs A n c ls ((w.alloc (.cells #[.string x, .slice A n c, .string y] 25)).alloc (.cells #[.string ⟨#[]⟩, .slice none 0 0, .string ⟨#[]⟩] 25)) (hs.below hb0) hn
  have hsz : ((w.alloc (.cells #[.string x, .slice A n c, .string y] 25)).alloc (.cells #[.string ⟨#[]⟩, .slice none 0 0, .string ⟨#[]⟩] 25)).heap.size = w.heap.size + 2 := by simp
  have HK1 := Lib.hid B1'
  have HK2 := Lib.hid B2
  have HB0 := Lib.hid hb0
  have HSZ := Lib.hid hsz
  clear B1 B2 B1' hb0 hsz hs
  go_enter Tryd.func44, Tryd.ntmps44
  go_wp2_with fail
  (refine CL.mono ?_); rintro e w3 ⟨A', c', rfl, hss, hge, hb⟩
  have HSS := Lib.hid hss
  have HGE : Hid (∀ a, A' = some a → w.heap.size + 2 ≤ a.block) := fun a h => by have := hge a h; rw [HSZ.out] at this; exact this
  have HB3 := Lib.hid (nbelow_on HB0.out hb)
  have K1 := HK1.out.below hb
  have K2 := HK2.out.below hb
  have L1 := K1.set 1 (.slice A' n c')
  have L2 := K2.far (p := ⟨w.heap.size, 1, none⟩) (by show w.heap.size + 1 ≠ w.heap.size; omega) (.slice A' n c')
  have a1 := K1.c 1 (v := .slice A n c) rfl
  have z1 := K1.fz 1
  have e0 := L1.c 0 (v := .string x) rfl
  have e1 := L1.c 1 (v := .slice A' n c') rfl
  have e2 := L1.c 2 (v := .string y) rfl
  have g0 := L2.c 0 (v := .string ⟨#[]⟩) rfl
  have f0 := L2.fz 0
  have g1 := L2.c 1 (v := .slice none 0 0) rfl
  have f1 := L2.fz 1
  have g2 := L2.c 2 (v := .string ⟨#[]⟩) rfl
  have f2 := L2.fz 2
  have M := (((L2.set 0 (.string x)).set 1 (.slice A' n c')).set 2 (.string y))
  have r0 := M.c 0 (v := .string x) rfl
  have r1 := M.c 1 (v := .slice A' n c') rfl
  have r2 := M.c 2 (v := .string y) rfl
  have HBF : Hid (Below w.heap.size w ((((w3.setCell ⟨w.heap.size, 1, none⟩ (.slice A' n c')).setCell ⟨w.heap.size + 1, 0, none⟩ (.string x)).setCell ⟨w.heap.size + 1, 1, none⟩ (.slice A' n c')).setCell ⟨w.heap.size + 1, 2, none⟩ (.string y))) := (((HB3.out.setCell (p := ⟨w.heap.size, 1, none⟩) (Nat.le_refl _) _).setCell (p := ⟨w.heap.size + 1, 0, none⟩) (by show w.heap.size ≤ w.heap.size + 1; omega) _).setCell (p := ⟨w.heap.size + 1, 1, none⟩) (by show w.heap.size ≤ w.heap.size + 1; omega) _).setCell (p := ⟨w.heap.size + 1, 2, none⟩) (by show w.heap.size ≤ w.heap.size + 1; omega) _
  have HSF : Hid (Ss ((((w3.setCell ⟨w.heap.size, 1, none⟩ (.slice A' n c')).setCell ⟨w.heap.size + 1, 0, none⟩ (.string x)).setCell ⟨w.heap.size + 1, 1, none⟩ (.slice A' n c')).setCell ⟨w.heap.size + 1, 2, none⟩ (.string y)) A' n c' ls) := by
    refine HSS.out.on_far (b := w.heap.size + 2) (fun a ha => HGE.out a ha) (by simp) ?_
    intro p hp
    rw [World.cell?_setCell_other _ _ _ _ (fun e => by rw [← e] at hp; simp at hp <;> omega), World.cell?_setCell_other _ _ _ _ (fun e => by rw [← e] at hp; simp at hp <;> omega), World.cell?_setCell_other _ _ _ _ (fun e => by rw [← e] at hp; simp at hp <;> omega), World.cell?_setCell_other _ _ _ _ (fun e => by rw [← e] at hp; simp at hp <;> omega)]
  clear hss hge hb CL K1 K2 L1 L2 M
  go_wp2_with fail
  refine bodyPost_ret (v := .agg #[.string x, .slice A' n c', .string y]) (by simp [results, Tryd.results44, go_sem, *]) rfl ⟨A', c', rfl, HSF.out, fun a h => by have := HGE.out a h; omega, HBF.out⟩
set_option maxRecDepth 100000 in
set_option maxHeartbeats 2000000 in
theorem copyhole_any (x : ByteArray) (A : Option Addr) (n c : Nat) (ls : List Vr) (w : World) (hs : Vs w A n c ls) (hn : n ≤ 100000) :
    Calls Tryd.prog 45 #[.agg #[.string x, .slice A n c]] w fun e w' => ∃ A' c', e = .returned (.agg #[.string x, .slice A' n c']) ∧ Vs w' A' n c' ls ∧ (∀ a, A' = some a → w.heap.size ≤ a.block) ∧ Below w.heap.size w w' := by
  have B1 := Bk.new 44 w #[.string x, .slice A n c]
  have B2 : Bk 44 ((w.alloc (.cells #[.string x, .slice A n c] 44)).alloc (.cells #[.string ⟨#[]⟩, .slice none 0 0] 44)) (w.heap.size + 1) #[.string ⟨#[]⟩, .slice none 0 0] := Bk.at _ (by simp)
  have B1' := B1.alloc (.cells #[.string ⟨#[]⟩, .slice none 0 0] 44)
  have hb0 : Below w.heap.size w ((w.alloc (.cells #[.string x, .slice A n c] 44)).alloc (.cells #[.string ⟨#[]⟩, .slice none 0 0] 44)) := nbelow_on (below_alloc _) (below_alloc _)
  have CL := clone_vrs A n c ls ((w.alloc (.cells #[.string x, .slice A n c] 44)).alloc (.cells #[.string ⟨#[]⟩, .slice none 0 0] 44)) (hs.below hb0) hn
  have hsz : ((w.alloc (.cells #[.string x, .slice A n c] 44)).alloc (.cells #[.string ⟨#[]⟩, .slice none 0 0] 44)).heap.size = w.heap.size + 2 := by simp
  have HK1 := Lib.hid B1'
  have HK2 := Lib.hid B2
  have HB0 := Lib.hid hb0
  have HSZ := Lib.hid hsz
  clear B1 B2 B1' hb0 hsz hs
  go_enter Tryd.func45, Tryd.ntmps45
  go_wp2_with fail
  (refine CL.mono ?_); rintro e w3 ⟨A', c', rfl, hss, hge, hb⟩
  have HSS := Lib.hid hss
  have HGE : Hid (∀ a, A' = some a → w.heap.size + 2 ≤ a.block) := fun a h => by have := hge a h; rw [HSZ.out] at this; exact this
  have HB3 := Lib.hid (nbelow_on HB0.out hb)
  have K1 := HK1.out.below hb
  have K2 := HK2.out.below hb
  have L1 := K1.set 1 (.slice A' n c')
  have L2 := K2.far (p := ⟨w.heap.size, 1, none⟩) (by show w.heap.size + 1 ≠ w.heap.size; omega) (.slice A' n c')
  have a1 := K1.c 1 (v := .slice A n c) rfl
  have z1 := K1.fz 1
  have e0 := L1.c 0 (v := .string x) rfl
  have e1 := L1.c 1 (v := .slice A' n c') rfl
  have g0 := L2.c 0 (v := .string ⟨#[]⟩) rfl
  have f0 := L2.fz 0
  have g1 := L2.c 1 (v := .slice none 0 0) rfl
  have f1 := L2.fz 1
  have M := ((L2.set 0 (.string x)).set 1 (.slice A' n c'))
  have r0 := M.c 0 (v := .string x) rfl
  have r1 := M.c 1 (v := .slice A' n c') rfl
  have HBF : Hid (Below w.heap.size w (((w3.setCell ⟨w.heap.size, 1, none⟩ (.slice A' n c')).setCell ⟨w.heap.size + 1, 0, none⟩ (.string x)).setCell ⟨w.heap.size + 1, 1, none⟩ (.slice A' n c'))) := ((HB3.out.setCell (p := ⟨w.heap.size, 1, none⟩) (Nat.le_refl _) _).setCell (p := ⟨w.heap.size + 1, 0, none⟩) (by show w.heap.size ≤ w.heap.size + 1; omega) _).setCell (p := ⟨w.heap.size + 1, 1, none⟩) (by show w.heap.size ≤ w.heap.size + 1; omega) _
  have HSF : Hid (Vs (((w3.setCell ⟨w.heap.size, 1, none⟩ (.slice A' n c')).setCell ⟨w.heap.size + 1, 0, none⟩ (.string x)).setCell ⟨w.heap.size + 1, 1, none⟩ (.slice A' n c')) A' n c' ls) := by
    refine HSS.out.on_far (b := w.heap.size + 2) (fun a ha => HGE.out a ha) (by simp) ?_
    intro p hp
    rw [World.cell?_setCell_other _ _ _ _ (fun e => by rw [← e] at hp; simp at hp <;> omega), World.cell?_setCell_other _ _ _ _ (fun e => by rw [← e] at hp; simp at hp <;> omega), World.cell?_setCell_other _ _ _ _ (fun e => by rw [← e] at hp; simp at hp <;> omega)]
  clear hss hge hb CL K1 K2 L1 L2 M
  go_wp2_with fail
  refine bodyPost_ret (v := .agg #[.string x, .slice A' n c']) (by simp [results, Tryd.results45, go_sem, *]) rfl ⟨A', c', rfl, HSF.out, fun a h => by have := HGE.out a h; omega, HBF.out⟩
end Go.Proofs.YtegognbnphpigaaDoor
