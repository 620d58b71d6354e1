/-
  isCore and Core.
-/
import Derived.Test.YtegognbnphpigaaDoorNmH
namespace Go.Proofs.YtegognbnphpigaaDoor
open Go.RowKit Go.Shelf

attribute [local go_sem] Oper.semAt_some
theorem cut_facts (l : Txt) : (Lib.cut l [46]).2.2 = false ∧ cut46 l = [l] ∧ (Lib.cut l [46]).1 = l ∨ (Lib.cut l [46]).2.2 = true ∧ cut46 l = (Lib.cut l [46]).1 :: cut46 (Lib.cut l [46]).2.1 ∧ (Lib.cut l [46]).2.1.length ≤ l.length := by
  have he : Lib.index l [46] = Lib.indexByte l 46 := Lib.index_one l 46
  unfold Lib.cut
  rw [he]
  by_cases h : 0 ≤ Lib.indexByte l 46
  · right
    rw [if_pos h]
    obtain ⟨h1, h2⟩ := idx46_some (l := l) (i := (Lib.indexByte l 46).toNat) (by omega)
    exact ⟨rfl, h2, by show (l.drop _).length ≤ _; rw [List.length_drop]; omega⟩
  · left
    rw [if_neg h]
    exact ⟨rfl, idx46_none (by omega), rfl⟩
theorem core_long {l : Txt} (h : ¬ l.length ≤ 120) : coreB l = false := by unfold coreB; rw [decide_eq_false h]; rfl
theorem core_one {l : Txt} (h : l.length ≤ 120) (hc : cut46 l = [l]) : coreB l = (nameB l || titleB l) := by unfold coreB; rw [decide_eq_true h, hc]; rfl
theorem core_more {l p q : Txt} (h : l.length ≤ 120) (hc : cut46 l = p :: cut46 q) : coreB l = ((p == [118] || nameB p || titleB p) && (cut46 q).all partB) := by
  unfold coreB
  rw [decide_eq_true h, hc]
  cases hq : cut46 q with
  | nil => exact absurd hq (cut46_ne q)
  | cons a b => rfl
/-- What the package's functions want of the world. -/
structure Env (w : World) : Prop where
  nt : Nt w
  mx : ∃ m, w.cell? ⟨2, 0, none⟩ = some (.int .i64 m)
theorem Env.below {w w' : World} (h : Env w) (hb : Below w.heap.size w w') : Env w' := by
  obtain ⟨h1, m, h2⟩ := h
  refine ⟨h1.below hb, m, (hb.cell ?_).trans h2⟩
  unfold World.cell? at h2
  rcases Nat.lt_or_ge (2 : Nat) w.heap.size with hlt | hge
  · exact hlt
  · simp only [] at h2
    rw [Array.getElem?_eq_none hge] at h2; cases h2
theorem belowD (w : World) (k : Nat) : Below w.heap.size w (w.drewN k) := ⟨rfl, rfl, rfl, Nat.le_refl _, fun _ _ => rfl⟩
theorem Nt.drewN {w : World} (h : Nt w) (k : Nat) : Nt (w.drewN k) := h.below (belowD w k)

theorem splitseq_any (q sep : ByteArray) (w : World) : Calls Tryd.prog 83 #[.string q, .string sep, .int .i64 0] w fun e w' =>
    e = .returned (.func (.func 87) #[] #[.pointer (some ⟨w.heap.size + 1, 0, none⟩), .pointer (some ⟨w.heap.size, 0, none⟩), .pointer (some ⟨w.heap.size + 1 + 1, 0, none⟩)]) ∧
    w' = ((w.alloc (.cells #[.string q] 9)).alloc (.cells #[.string sep] 9)).alloc (.cells #[.int .i64 0] 3) := by
  go_enter Tryd.func83, Tryd.ntmps83
  go_wp2_with fail
  go_ret
  exact ⟨rfl, rfl⟩
theorem splitSeq_any (q sep : ByteArray) (w : World) : Calls Tryd.prog 73 #[.string q, .string sep] w fun e w' =>
    e = .returned (.func (.func 87) #[] #[.pointer (some ⟨w.heap.size + 1, 0, none⟩), .pointer (some ⟨w.heap.size, 0, none⟩), .pointer (some ⟨w.heap.size + 1 + 1, 0, none⟩)]) ∧
    w' = ((w.alloc (.cells #[.string q] 9)).alloc (.cells #[.string sep] 9)).alloc (.cells #[.int .i64 0] 3) := by
  go_enter Tryd.func73, Tryd.ntmps73
  go_wp2_with fail
  (refine (splitseq_any q sep w).mono ?_); rintro e wx ⟨rfl, rfl⟩
  go_wp2_with fail
  go_ret
  exact ⟨rfl, rfl⟩

/-- The result's box. -/
structure Rb (W : World) (r : Nat) (b : Bool) : Prop where
  cell : W.cell? ⟨r, 0, none⟩ = some (.bool b)
  free : W.frozen? ⟨r, 0, none⟩ = false
theorem Rb.new (w : World) (b : Bool) : Rb (w.alloc (.cells #[.bool b] 4)) w.heap.size b := by
  have h := (MapKept.heap_alloc w (.cells #[.bool b] 4)).1
  exact ⟨by unfold World.cell?; rw [h]; rfl, by unfold World.frozen?; rw [h]; rfl⟩
theorem Rb.below {n : Nat} {W W' : World} {r : Nat} {b : Bool} (h : Rb W r b) (hb : Below n W W') (hr : r < n) : Rb W' r b := ⟨(hb.cell (p := ⟨r, 0, none⟩) hr).trans h.cell, (hb.frozen (p := ⟨r, 0, none⟩) hr).trans h.free⟩
theorem Rb.set {W : World} {r : Nat} {b : Bool} (h : Rb W r b) (b' : Bool) : Rb (W.setCell ⟨r, 0, none⟩ (.bool b')) r b' := ⟨World.cell?_setCell_same' _ _ _ (by rw [h.cell]; rfl), by rw [World.frozen?_setCell]; exact h.free⟩
theorem Rb.far {W : World} {r k : Nat} {b : Bool} {v : Value} (h : Rb W r b) (hk : k ≠ r) : Rb (W.setCell ⟨k, 0, none⟩ v) r b := ⟨by rw [World.cell?_setCell_other _ _ _ _ (fun e => hk (by cases e; rfl))]; exact h.cell, by rw [World.frozen?_setCell]; exact h.free⟩

set_option maxHeartbeats 1000000 in
theorem iscore_long (s : ByteArray) (w : World) (h : ¬ s.size ≤ 120) : Calls Tryd.prog 58 #[.string s] w fun e w' => e = .returned (.bool (coreB s.data.toList)) ∧ Below w.heap.size w w' := by
  have HB : Hid (coreB s.data.toList = false) := core_long (by rw [← size_list]; exact h)
  have p1 : ¬ (s.size : Int) ≤ 120 := by omega
  have hfn : Fence.wide.fn 58 := trivial
  have RB := Rb.new w false
  have hc := RB.cell
  clear h
  refine (callsIn_wide (n := 6)).1 ?_
  refine callsIn_of_wp_marks Tryd.func58 rfl hfn ?_ rfl
  simp only [Tryd.ntmps58, List.size_toArray, List.length_cons, List.length_nil, Nat.reduceAdd, Nat.reduceSub, Array.replicate_succ, Array.replicate_zero, List.push_toArray, List.append_toArray, List.nil_append, List.cons_append]
  gi_wp2
  refine ⟨.bool false, ?_, by rw [HB.out], (Below.refl _ w).alloc (Nat.le_refl _) _⟩
  simp [results, Tryd.f58, go_sem, hc]

set_option maxHeartbeats 2000000 in
theorem iscore_one (s : ByteArray) (w : World) (henv : Env w) (h : s.size ≤ 120) (hc1 : (Lib.cut s.data.toList [46]).2.2 = false) (hc2 : cut46 s.data.toList = [s.data.toList]) : Calls Tryd.prog 58 #[.string s] w fun e w' => e = .returned (.bool (coreB s.data.toList)) ∧ Below w.heap.size w w' := by
  have HC : Hid (coreB s.data.toList = (nameB s.data.toList || titleB s.data.toList)) := core_one (by rw [← size_list]; exact h) hc2
  have p1 : (s.size : Int) ≤ 120 := by omega
  have hfn : Fence.wide.fn 58 := trivial
  have hf1 : Fence.wide.fn 70 := trivial
  have hf2 : Fence.wide.fn 71 := trivial
  have hf3 : Fence.wide.fn 72 := trivial
  have hf4 : Fence.wide.fn 73 := trivial
  have HB0 : Hid (Below w.heap.size w (w.alloc (.cells #[.bool false] 4))) := (Below.refl _ w).alloc (Nat.le_refl _) _
  have RB : Hid (Rb (w.alloc (.cells #[.bool false] 4)) w.heap.size false) := Rb.new w false
  have hrl : w.heap.size < (w.alloc (.cells #[.bool false] 4)).heap.size := by simp
  have HRL := Lib.hid hrl
  obtain ⟨m, hm⟩ := (henv.below HB0.out).mx
  have HNT := Lib.hid (henv.below HB0.out).nt
  have CUT := Tryd.strings_Cut s ⟨#[46]⟩ m (w.alloc (.cells #[.bool false] 4)) (by omega) hm
  rw [hc1] at CUT
  generalize (⟨(Lib.cut s.data.toList [46]).1.toArray⟩ : ByteArray) = p at CUT
  generalize (⟨(Lib.cut s.data.toList [46]).2.1.toArray⟩ : ByteArray) = q at CUT
  have ISN := fun k => isname_any s _ (HNT.out.drewN k)
  have IST := fun k => istitle_any s _ (HNT.out.drewN k)
  generalize hW0 : w.alloc (.cells #[.bool false] 4) = W0 at HB0 RB HRL HNT CUT ISN IST
  have hcd := RB.out.cell
  have hfd := RB.out.free
  clear h hc1 hc2 hrl henv hm
  cases hn : nameB s.data.toList with
  | true =>
    have HN := Lib.hid hn
    rw [hn] at ISN
    clear hn
    refine (callsIn_wide (n := 6)).1 ?_
    refine callsIn_of_wp_marks Tryd.func58 rfl hfn ?_ rfl
    simp only [Tryd.ntmps58, List.size_toArray, List.length_cons, List.length_nil, Nat.reduceAdd, Nat.reduceSub, Array.replicate_succ, Array.replicate_zero, List.push_toArray, List.append_toArray, List.nil_append, List.cons_append]
    gi_wp2_with (first
      | (gi_at_call 70; refine (callsIn_wide.2 CUT).mono ?_; rintro e wx ⟨rfl, k, rfl⟩)
      | (gi_at_call 71; refine (callsIn_wide.2 (ISN _)).mono ?_; rintro e wx ⟨rfl, rfl⟩)
      | (gi_at_call 72; refine (callsIn_wide.2 (IST _)).mono ?_; rintro e wx ⟨rfl, rfl⟩))
    refine ⟨.bool true, ?_, by rw [HC.out, HN.out]; rfl, (HB0.out.trans ((belowD W0 k).mono HB0.out.size)).setCell (p := ⟨w.heap.size, 0, none⟩) (Nat.le_refl _) _⟩
    have hcz := ((RB.out.below (belowD W0 k) HRL.out).set true).cell
    simp [results, Tryd.f58, go_sem, hcz]
  | false =>
    have HN := Lib.hid hn
    rw [hn] at ISN
    clear hn
    cases ht : titleB s.data.toList with
    | true =>
      have HT := Lib.hid ht
      rw [ht] at IST
      clear ht
      refine (callsIn_wide (n := 6)).1 ?_
      refine callsIn_of_wp_marks Tryd.func58 rfl hfn ?_ rfl
      simp only [Tryd.ntmps58, List.size_toArray, List.length_cons, List.length_nil, Nat.reduceAdd, Nat.reduceSub, Array.replicate_succ, Array.replicate_zero, List.push_toArray, List.append_toArray, List.nil_append, List.cons_append]
      gi_wp2_with (first
        | (gi_at_call 70; refine (callsIn_wide.2 CUT).mono ?_; rintro e wx ⟨rfl, k, rfl⟩)
        | (gi_at_call 71; refine (callsIn_wide.2 (ISN _)).mono ?_; rintro e wx ⟨rfl, rfl⟩)
        | (gi_at_call 72; refine (callsIn_wide.2 (IST _)).mono ?_; rintro e wx ⟨rfl, rfl⟩))
      refine ⟨.bool true, ?_, by rw [HC.out, HN.out, HT.out]; rfl, (HB0.out.trans ((belowD W0 k).mono HB0.out.size)).setCell (p := ⟨w.heap.size, 0, none⟩) (Nat.le_refl _) _⟩
      have hcz := ((RB.out.below (belowD W0 k) HRL.out).set true).cell
      simp [results, Tryd.f58, go_sem, hcz]
    | false =>
      have HT := Lib.hid ht
      rw [ht] at IST
      clear ht
      refine (callsIn_wide (n := 6)).1 ?_
      refine callsIn_of_wp_marks Tryd.func58 rfl hfn ?_ rfl
      simp only [Tryd.ntmps58, List.size_toArray, List.length_cons, List.length_nil, Nat.reduceAdd, Nat.reduceSub, Array.replicate_succ, Array.replicate_zero, List.push_toArray, List.append_toArray, List.nil_append, List.cons_append]
      gi_wp2_with (first
        | (gi_at_call 70; refine (callsIn_wide.2 CUT).mono ?_; rintro e wx ⟨rfl, k, rfl⟩)
        | (gi_at_call 71; refine (callsIn_wide.2 (ISN _)).mono ?_; rintro e wx ⟨rfl, rfl⟩)
        | (gi_at_call 72; refine (callsIn_wide.2 (IST _)).mono ?_; rintro e wx ⟨rfl, rfl⟩))
      refine ⟨.bool false, ?_, by rw [HC.out, HN.out, HT.out]; rfl, (HB0.out.trans ((belowD W0 k).mono HB0.out.size)).setCell (p := ⟨w.heap.size, 0, none⟩) (Nat.le_refl _) _⟩
      have hcz := ((RB.out.below (belowD W0 k) HRL.out).set false).cell
      simp [results, Tryd.f58, go_sem, hcz]

theorem all_prefix {p : Txt → Bool} {l r : List Txt} (h : l <+: r) (hl : l.all p = false) : r.all p = false := by
  obtain ⟨t, rfl⟩ := h
  rw [List.all_append, hl]; rfl
theorem box3 (W : World) (q sep : ByteArray) (WL : World) (h : WL = ((W.alloc (.cells #[.string q] 9)).alloc (.cells #[.string sep] 9)).alloc (.cells #[.int .i64 0] 3)) :
    WL.cell? ⟨W.heap.size + 1, 0, none⟩ = some (.string sep) ∧ WL.cell? ⟨W.heap.size, 0, none⟩ = some (.string q) ∧ WL.cell? ⟨W.heap.size + 1 + 1, 0, none⟩ = some (.int .i64 0) ∧ WL.frozen? ⟨W.heap.size, 0, none⟩ = false ∧ Below W.heap.size W WL ∧ WL.heap.size = W.heap.size + 3 := by
  subst h
  have e0 := (MapKept.heap_alloc W (.cells #[.string q] 9)).1
  have e1 := (MapKept.heap_alloc (W.alloc (.cells #[.string q] 9)) (.cells #[.string sep] 9)).1
  have e2 := (MapKept.heap_alloc ((W.alloc (.cells #[.string q] 9)).alloc (.cells #[.string sep] 9)) (.cells #[.int .i64 0] 3)).1
  simp only [World.size_alloc] at e1 e2
  have b1 : Below (W.heap.size + 1) (W.alloc (.cells #[.string q] 9)) ((W.alloc (.cells #[.string q] 9)).alloc (.cells #[.string sep] 9)) := (Below.refl _ _).alloc (by simp) _
  have b2 : Below (W.heap.size + 1 + 1) ((W.alloc (.cells #[.string q] 9)).alloc (.cells #[.string sep] 9)) (((W.alloc (.cells #[.string q] 9)).alloc (.cells #[.string sep] 9)).alloc (.cells #[.int .i64 0] 3)) := (Below.refl _ _).alloc (by simp) _
  have k1 := (b2.block (W.heap.size + 1) (by omega)).trans e1
  have k0 := (b2.block W.heap.size (by omega)).trans ((b1.block W.heap.size (by omega)).trans e0)
  refine ⟨?_, ?_, ?_, ?_, ?_, by simp⟩
  · unfold World.cell?; rw [k1]; rfl
  · unfold World.cell?; rw [k0]; rfl
  · unfold World.cell?; rw [e2]; rfl
  · unfold World.frozen?; rw [k0]; rfl
  · exact (((Below.refl _ W).alloc (Nat.le_refl _) _).trans (b1.mono (by omega))).trans (b2.mono (by omega))
theorem own_core {w : World} {n : Nat} {b : Bool} (C : List Txt → Prop) (hr : w.heap.size < n) (hw : w.heap.size ≤ n) : OwnFrom n (fun pre W => C pre ∧ n ≤ W.heap.size ∧ Rb W w.heap.size b ∧ Below w.heap.size w W) := by
  rintro s A B row ⟨h1, h2, h3, h4⟩ hg hr'
  have hb : Below n A B := (Below.refl n A).grown hg h2 (fun k e => (hr' k e).1)
  exact ⟨h1, Nat.le_trans h2 hb.size, h3.below hb hr, h4.trans (hb.mono hw)⟩

set_option maxHeartbeats 2000000 in
theorem iscore_more (s : ByteArray) (w : World) (henv : Env w) (h : s.size ≤ 120) (hc1 : (Lib.cut s.data.toList [46]).2.2 = true) (hc2 : cut46 s.data.toList = (Lib.cut s.data.toList [46]).1 :: cut46 (Lib.cut s.data.toList [46]).2.1) (hc3 : (Lib.cut s.data.toList [46]).2.1.length ≤ (s.data.toList).length) : Calls Tryd.prog 58 #[.string s] w fun e w' => e = .returned (.bool (coreB s.data.toList)) ∧ Below w.heap.size w w' := by
  have p1 : (s.size : Int) ≤ 120 := by omega
  have hfn : Fence.wide.fn 58 := trivial
  have hf1 : Fence.wide.fn 70 := trivial
  have hf2 : Fence.wide.fn 71 := trivial
  have hf3 : Fence.wide.fn 72 := trivial
  have hf4 : Fence.wide.fn 73 := trivial
  have HB0 : Hid (Below w.heap.size w (w.alloc (.cells #[.bool false] 4))) := (Below.refl _ w).alloc (Nat.le_refl _) _
  have RB : Hid (Rb (w.alloc (.cells #[.bool false] 4)) w.heap.size false) := Rb.new w false
  have hrl : w.heap.size < (w.alloc (.cells #[.bool false] 4)).heap.size := by simp
  have HRL := Lib.hid hrl
  obtain ⟨m, hm⟩ := (henv.below HB0.out).mx
  have HNT := Lib.hid (henv.below HB0.out).nt
  have CUT := Tryd.strings_Cut s ⟨#[46]⟩ m (w.alloc (.cells #[.bool false] 4)) (by omega) hm
  rw [hc1] at CUT
  obtain ⟨p, hp⟩ : ∃ p : ByteArray, p = ⟨(Lib.cut s.data.toList [46]).1.toArray⟩ := ⟨_, rfl⟩
  obtain ⟨q, hq⟩ : ∃ q : ByteArray, q = ⟨(Lib.cut s.data.toList [46]).2.1.toArray⟩ := ⟨_, rfl⟩
  have HC : Hid (coreB s.data.toList = ((p.data.toList == [118] || nameB p.data.toList || titleB p.data.toList) && (cut46 q.data.toList).all partB)) := by
    show _ = _
    rw [hp, hq]
    exact core_more (by rw [← size_list]; exact h) hc2
  have HQ : Hid (q.size ≤ 10000) := by
    show _ ≤ _
    rw [size_list, hq]
    have := size_list s
    exact Nat.le_trans hc3 (by omega)
  rw [← hp, ← hq] at CUT
  have ISN := fun k => isname_any p _ (HNT.out.drewN k)
  have IST := fun k => istitle_any p _ (HNT.out.drewN k)
  generalize hW0 : w.alloc (.cells #[.bool false] 4) = W0 at HB0 RB HRL HNT CUT ISN IST
  have hcd := RB.out.cell
  have hfd := RB.out.free
  clear h hc1 hc2 hc3 hrl henv hm hp hq
  cases hv : decide (p.data.toList = [118]) with
  | true =>
    have HPV : Hid ((p.data.toList == [118]) = true) := by show _ = true; rw [← hv, Bool.eq_iff_iff, beq_iff_eq, decide_eq_true_iff]
    have TB : (p.toList == [118]) = true := by rw [tolist_eq]; exact HPV.out
    clear hv
    have HC2 : Hid (coreB s.data.toList = (cut46 q.data.toList).all partB) := by show _ = _; rw [HC.out, HPV.out]; simp
    refine (callsIn_wide (n := 6)).1 ?_
    refine callsIn_of_wp_marks Tryd.func58 rfl hfn ?_ rfl
    simp only [Tryd.ntmps58, List.size_toArray, List.length_cons, List.length_nil, Nat.reduceAdd, Nat.reduceSub, Array.replicate_succ, Array.replicate_zero, List.push_toArray, List.append_toArray, List.nil_append, List.cons_append]
    gi_wp2_with (first
      | (gi_at_call 70; refine (callsIn_wide.2 CUT).mono ?_; rintro e wx ⟨rfl, k, rfl⟩)
      | (gi_at_call 71; refine (callsIn_wide.2 (ISN _)).mono ?_; rintro e wx ⟨rfl, rfl⟩)
      | (gi_at_call 72; refine (callsIn_wide.2 (IST _)).mono ?_; rintro e wx ⟨rfl, rfl⟩)
      | (gi_at_call 73; refine (callsIn_wide.2 (splitSeq_any q _ _)).mono ?_; rintro e wx ⟨rfl, rfl⟩))
    have hcw := HC2
    obtain ⟨WL, hWL⟩ : ∃ WL, (((W0.drewN k).alloc (.cells #[.string q] 9)).alloc (.cells #[.string ⟨#[46]⟩] 9)).alloc (.cells #[.int .i64 0] 3) = WL := ⟨_, rfl⟩
    rw [hWL]
    obtain ⟨d1, d2, d3, g2, hbl, hsz⟩ := box3 (W0.drewN k) q ⟨#[46]⟩ WL hWL.symm
    simp only [World.heap_drewN] at d1 d2 d3 g2 hbl hsz
    have hw0 : w.heap.size ≤ W0.heap.size := HB0.out.size
    have hrl := HRL.out
    have hbw : Below w.heap.size w WL := (HB0.out.trans ((belowD W0 k).mono hw0)).trans (hbl.mono hw0)
    have hrw : Rb WL w.heap.size false := (RB.out.below (belowD W0 k) hrl).below hbl hrl
    clear hWL hcd hfd ISN IST CUT
    apply range_split 6 (by omega) (W0.heap.size + 1) W0.heap.size (W0.heap.size + 1 + 1) (by omega) (by omega) (by omega) (by omega) (by omega) rfl rfl q HQ.out d1 d2 d3 g2
      (fun pre W => pre.all partB = true ∧ WL.heap.size ≤ W.heap.size ∧ Rb W w.heap.size false ∧ Below w.heap.size w W) (fun pre W => pre.all partB = false ∧ WL.heap.size ≤ W.heap.size ∧ Rb W w.heap.size false ∧ Below w.heap.size w W)
      (own_core _ (by omega) (by omega)) (own_core _ (by omega) (by omega)) (fun pre W y z hi hc => ⟨hi.1, by simpa using hi.2.1, hi.2.2.1.far (by omega), hi.2.2.2.setCell (p := ⟨W0.heap.size, 0, none⟩) hw0 _⟩) ⟨rfl, Nat.le_refl _, hrw, hbw⟩
    case hassign =>
      intro l y W K hK
      gi_wp2
      exact hK
    case hbody =>
      rintro l pre y W ⟨h1, h2, h3, h4⟩
      have ISP := ispart_any y W
      have hc3 := h3.cell
      have hf3 := h3.free
      cases hpB : partB y.data.toList with
      | true =>
        rw [hpB] at ISP
        gi_wp2_with (refine ⟨trivial, ?_⟩; gi_at_call 74; refine (CallsIn.inRound l (callsIn_wide.2 ISP)).mono ?_; rintro e wx ⟨rfl, rfl⟩)
        exact ⟨KeepsFrom.refl _ _, Below.refl _ _, by rw [List.all_append, h1]; simp [hpB], h2, h3, h4⟩
      | false =>
        rw [hpB] at ISP
        gi_wp2_with (refine ⟨trivial, ?_⟩; gi_at_call 74; refine (CallsIn.inRound l (callsIn_wide.2 ISP)).mono ?_; rintro e wx ⟨rfl, rfl⟩)
        exact ⟨(KeepsOthers.setCell _ _ _).from _, by rw [List.all_append, h1]; simp [hpB], by simpa using h2, h3.set false, h4.setCell (p := ⟨w.heap.size, 0, none⟩) (Nat.le_refl _) _⟩
    case hdone =>
      rintro D W hD ⟨h1, h2, h3, h4⟩ hK
      have hc3 := h3.cell
      have hf3 := h3.free
      gi_wp2
      have hK' := (KeepsOthers.setCell W ⟨w.heap.size, 0, none⟩ (.bool true)).same D _ hK rfl
      refine ⟨by simp, .inl ⟨_, _, rfl, run_takeDeferred hK', ?_⟩⟩
      have hc5 := cell_kept (h3.set true).cell (grownBy_putObj' _ D (.deferred none)) (fun r e => by cases e; exact ⟨_, hK', rfl⟩)
      refine ⟨.bool true, ?_, by rw [HC2.out, h1], (h4.setCell (p := ⟨w.heap.size, 0, none⟩) (Nat.le_refl _) _).trans (belowK_b (w := WL) (by omega) _ D _ _ hD hK' rfl rfl)⟩
      simp [results, Tryd.f58, go_sem, hc5]
    case hstop =>
      rintro D pre W hD hpre ⟨h1, h2, h3, h4⟩ hK
      gi_wp2
      refine ⟨by simp, .inl ⟨_, _, rfl, run_takeDeferred hK, ?_⟩⟩
      have hc5 := cell_kept h3.cell (grownBy_putObj' _ D (.deferred none)) (fun r e => by cases e; exact ⟨_, hK, rfl⟩)
      refine ⟨.bool false, ?_, by rw [HC2.out, all_prefix hpre h1], h4.trans (belowK_b (w := WL) (by omega) W D _ _ hD hK rfl rfl)⟩
      simp [results, Tryd.f58, go_sem, hc5]
  | false =>
    have HPV : Hid ((p.data.toList == [118]) = false) := by show _ = false; rw [← hv, Bool.eq_iff_iff, beq_iff_eq, decide_eq_true_iff]
    have TB : (p.toList == [118]) = false := by rw [tolist_eq]; exact HPV.out
    clear hv
    cases hn : nameB p.data.toList with
    | true =>
      have HN := Lib.hid hn
      rw [hn] at ISN
      clear hn
      have HC2 : Hid (coreB s.data.toList = (cut46 q.data.toList).all partB) := by show _ = _; rw [HC.out, HPV.out, HN.out]; simp
      refine (callsIn_wide (n := 6)).1 ?_
      refine callsIn_of_wp_marks Tryd.func58 rfl hfn ?_ rfl
      simp only [Tryd.ntmps58, List.size_toArray, List.length_cons, List.length_nil, Nat.reduceAdd, Nat.reduceSub, Array.replicate_succ, Array.replicate_zero, List.push_toArray, List.append_toArray, List.nil_append, List.cons_append]
      gi_wp2_with (first
        | (gi_at_call 70; refine (callsIn_wide.2 CUT).mono ?_; rintro e wx ⟨rfl, k, rfl⟩)
        | (gi_at_call 71; refine (callsIn_wide.2 (ISN _)).mono ?_; rintro e wx ⟨rfl, rfl⟩)
        | (gi_at_call 72; refine (callsIn_wide.2 (IST _)).mono ?_; rintro e wx ⟨rfl, rfl⟩)
        | (gi_at_call 73; refine (callsIn_wide.2 (splitSeq_any q _ _)).mono ?_; rintro e wx ⟨rfl, rfl⟩))
      have hcw := HC2
      obtain ⟨WL, hWL⟩ : ∃ WL, (((W0.drewN k).alloc (.cells #[.string q] 9)).alloc (.cells #[.string ⟨#[46]⟩] 9)).alloc (.cells #[.int .i64 0] 3) = WL := ⟨_, rfl⟩
      rw [hWL]
      obtain ⟨d1, d2, d3, g2, hbl, hsz⟩ := box3 (W0.drewN k) q ⟨#[46]⟩ WL hWL.symm
      simp only [World.heap_drewN] at d1 d2 d3 g2 hbl hsz
      have hw0 : w.heap.size ≤ W0.heap.size := HB0.out.size
      have hrl := HRL.out
      have hbw : Below w.heap.size w WL := (HB0.out.trans ((belowD W0 k).mono hw0)).trans (hbl.mono hw0)
      have hrw : Rb WL w.heap.size false := (RB.out.below (belowD W0 k) hrl).below hbl hrl
      clear hWL hcd hfd ISN IST CUT
      apply range_split 6 (by omega) (W0.heap.size + 1) W0.heap.size (W0.heap.size + 1 + 1) (by omega) (by omega) (by omega) (by omega) (by omega) rfl rfl q HQ.out d1 d2 d3 g2
        (fun pre W => pre.all partB = true ∧ WL.heap.size ≤ W.heap.size ∧ Rb W w.heap.size false ∧ Below w.heap.size w W) (fun pre W => pre.all partB = false ∧ WL.heap.size ≤ W.heap.size ∧ Rb W w.heap.size false ∧ Below w.heap.size w W)
        (own_core _ (by omega) (by omega)) (own_core _ (by omega) (by omega)) (fun pre W y z hi hc => ⟨hi.1, by simpa using hi.2.1, hi.2.2.1.far (by omega), hi.2.2.2.setCell (p := ⟨W0.heap.size, 0, none⟩) hw0 _⟩) ⟨rfl, Nat.le_refl _, hrw, hbw⟩
      case hassign =>
        intro l y W K hK
        gi_wp2
        exact hK
      case hbody =>
        rintro l pre y W ⟨h1, h2, h3, h4⟩
        have ISP := ispart_any y W
        have hc3 := h3.cell
        have hf3 := h3.free
        cases hpB : partB y.data.toList with
        | true =>
          rw [hpB] at ISP
          gi_wp2_with (refine ⟨trivial, ?_⟩; gi_at_call 74; refine (CallsIn.inRound l (callsIn_wide.2 ISP)).mono ?_; rintro e wx ⟨rfl, rfl⟩)
          exact ⟨KeepsFrom.refl _ _, Below.refl _ _, by rw [List.all_append, h1]; simp [hpB], h2, h3, h4⟩
        | false =>
          rw [hpB] at ISP
          gi_wp2_with (refine ⟨trivial, ?_⟩; gi_at_call 74; refine (CallsIn.inRound l (callsIn_wide.2 ISP)).mono ?_; rintro e wx ⟨rfl, rfl⟩)
          exact ⟨(KeepsOthers.setCell _ _ _).from _, by rw [List.all_append, h1]; simp [hpB], by simpa using h2, h3.set false, h4.setCell (p := ⟨w.heap.size, 0, none⟩) (Nat.le_refl _) _⟩
      case hdone =>
        rintro D W hD ⟨h1, h2, h3, h4⟩ hK
        have hc3 := h3.cell
        have hf3 := h3.free
        gi_wp2
        have hK' := (KeepsOthers.setCell W ⟨w.heap.size, 0, none⟩ (.bool true)).same D _ hK rfl
        refine ⟨by simp, .inl ⟨_, _, rfl, run_takeDeferred hK', ?_⟩⟩
        have hc5 := cell_kept (h3.set true).cell (grownBy_putObj' _ D (.deferred none)) (fun r e => by cases e; exact ⟨_, hK', rfl⟩)
        refine ⟨.bool true, ?_, by rw [HC2.out, h1], (h4.setCell (p := ⟨w.heap.size, 0, none⟩) (Nat.le_refl _) _).trans (belowK_b (w := WL) (by omega) _ D _ _ hD hK' rfl rfl)⟩
        simp [results, Tryd.f58, go_sem, hc5]
      case hstop =>
        rintro D pre W hD hpre ⟨h1, h2, h3, h4⟩ hK
        gi_wp2
        refine ⟨by simp, .inl ⟨_, _, rfl, run_takeDeferred hK, ?_⟩⟩
        have hc5 := cell_kept h3.cell (grownBy_putObj' _ D (.deferred none)) (fun r e => by cases e; exact ⟨_, hK, rfl⟩)
        refine ⟨.bool false, ?_, by rw [HC2.out, all_prefix hpre h1], h4.trans (belowK_b (w := WL) (by omega) W D _ _ hD hK rfl rfl)⟩
        simp [results, Tryd.f58, go_sem, hc5]
    | false =>
      have HN := Lib.hid hn
      rw [hn] at ISN
      clear hn
      cases ht : titleB p.data.toList with
      | true =>
        have HT := Lib.hid ht
        rw [ht] at IST
        clear ht
        have HC2 : Hid (coreB s.data.toList = (cut46 q.data.toList).all partB) := by show _ = _; rw [HC.out, HPV.out, HN.out, HT.out]; simp
        refine (callsIn_wide (n := 6)).1 ?_
        refine callsIn_of_wp_marks Tryd.func58 rfl hfn ?_ rfl
        simp only [Tryd.ntmps58, List.size_toArray, List.length_cons, List.length_nil, Nat.reduceAdd, Nat.reduceSub, Array.replicate_succ, Array.replicate_zero, List.push_toArray, List.append_toArray, List.nil_append, List.cons_append]
        gi_wp2_with (first
          | (gi_at_call 70; refine (callsIn_wide.2 CUT).mono ?_; rintro e wx ⟨rfl, k, rfl⟩)
          | (gi_at_call 71; refine (callsIn_wide.2 (ISN _)).mono ?_; rintro e wx ⟨rfl, rfl⟩)
          | (gi_at_call 72; refine (callsIn_wide.2 (IST _)).mono ?_; rintro e wx ⟨rfl, rfl⟩)
          | (gi_at_call 73; refine (callsIn_wide.2 (splitSeq_any q _ _)).mono ?_; rintro e wx ⟨rfl, rfl⟩))
        have hcw := HC2
        obtain ⟨WL, hWL⟩ : ∃ WL, (((W0.drewN k).alloc (.cells #[.string q] 9)).alloc (.cells #[.string ⟨#[46]⟩] 9)).alloc (.cells #[.int .i64 0] 3) = WL := ⟨_, rfl⟩
        rw [hWL]
        obtain ⟨d1, d2, d3, g2, hbl, hsz⟩ := box3 (W0.drewN k) q ⟨#[46]⟩ WL hWL.symm
        simp only [World.heap_drewN] at d1 d2 d3 g2 hbl hsz
        have hw0 : w.heap.size ≤ W0.heap.size := HB0.out.size
        have hrl := HRL.out
        have hbw : Below w.heap.size w WL := (HB0.out.trans ((belowD W0 k).mono hw0)).trans (hbl.mono hw0)
        have hrw : Rb WL w.heap.size false := (RB.out.below (belowD W0 k) hrl).below hbl hrl
        clear hWL hcd hfd ISN IST CUT
        apply range_split 6 (by omega) (W0.heap.size + 1) W0.heap.size (W0.heap.size + 1 + 1) (by omega) (by omega) (by omega) (by omega) (by omega) rfl rfl q HQ.out d1 d2 d3 g2
          (fun pre W => pre.all partB = true ∧ WL.heap.size ≤ W.heap.size ∧ Rb W w.heap.size false ∧ Below w.heap.size w W) (fun pre W => pre.all partB = false ∧ WL.heap.size ≤ W.heap.size ∧ Rb W w.heap.size false ∧ Below w.heap.size w W)
          (own_core _ (by omega) (by omega)) (own_core _ (by omega) (by omega)) (fun pre W y z hi hc => ⟨hi.1, by simpa using hi.2.1, hi.2.2.1.far (by omega), hi.2.2.2.setCell (p := ⟨W0.heap.size, 0, none⟩) hw0 _⟩) ⟨rfl, Nat.le_refl _, hrw, hbw⟩
        case hassign =>
          intro l y W K hK
          gi_wp2
          exact hK
        case hbody =>
          rintro l pre y W ⟨h1, h2, h3, h4⟩
          have ISP := ispart_any y W
          have hc3 := h3.cell
          have hf3 := h3.free
          cases hpB : partB y.data.toList with
          | true =>
            rw [hpB] at ISP
            gi_wp2_with (refine ⟨trivial, ?_⟩; gi_at_call 74; refine (CallsIn.inRound l (callsIn_wide.2 ISP)).mono ?_; rintro e wx ⟨rfl, rfl⟩)
            exact ⟨KeepsFrom.refl _ _, Below.refl _ _, by rw [List.all_append, h1]; simp [hpB], h2, h3, h4⟩
          | false =>
            rw [hpB] at ISP
            gi_wp2_with (refine ⟨trivial, ?_⟩; gi_at_call 74; refine (CallsIn.inRound l (callsIn_wide.2 ISP)).mono ?_; rintro e wx ⟨rfl, rfl⟩)
            exact ⟨(KeepsOthers.setCell _ _ _).from _, by rw [List.all_append, h1]; simp [hpB], by simpa using h2, h3.set false, h4.setCell (p := ⟨w.heap.size, 0, none⟩) (Nat.le_refl _) _⟩
        case hdone =>
          rintro D W hD ⟨h1, h2, h3, h4⟩ hK
          have hc3 := h3.cell
          have hf3 := h3.free
          gi_wp2
          have hK' := (KeepsOthers.setCell W ⟨w.heap.size, 0, none⟩ (.bool true)).same D _ hK rfl
          refine ⟨by simp, .inl ⟨_, _, rfl, run_takeDeferred hK', ?_⟩⟩
          have hc5 := cell_kept (h3.set true).cell (grownBy_putObj' _ D (.deferred none)) (fun r e => by cases e; exact ⟨_, hK', rfl⟩)
          refine ⟨.bool true, ?_, by rw [HC2.out, h1], (h4.setCell (p := ⟨w.heap.size, 0, none⟩) (Nat.le_refl _) _).trans (belowK_b (w := WL) (by omega) _ D _ _ hD hK' rfl rfl)⟩
          simp [results, Tryd.f58, go_sem, hc5]
        case hstop =>
          rintro D pre W hD hpre ⟨h1, h2, h3, h4⟩ hK
          gi_wp2
          refine ⟨by simp, .inl ⟨_, _, rfl, run_takeDeferred hK, ?_⟩⟩
          have hc5 := cell_kept h3.cell (grownBy_putObj' _ D (.deferred none)) (fun r e => by cases e; exact ⟨_, hK, rfl⟩)
          refine ⟨.bool false, ?_, by rw [HC2.out, all_prefix hpre h1], h4.trans (belowK_b (w := WL) (by omega) W D _ _ hD hK rfl rfl)⟩
          simp [results, Tryd.f58, go_sem, hc5]
      | false =>
        have HT := Lib.hid ht
        rw [ht] at IST
        clear ht
        refine (callsIn_wide (n := 6)).1 ?_
        refine callsIn_of_wp_marks Tryd.func58 rfl hfn ?_ rfl
        simp only [Tryd.ntmps58, List.size_toArray, List.length_cons, List.length_nil, Nat.reduceAdd, Nat.reduceSub, Array.replicate_succ, Array.replicate_zero, List.push_toArray, List.append_toArray, List.nil_append, List.cons_append]
        gi_wp2_with (first
          | (gi_at_call 70; refine (callsIn_wide.2 CUT).mono ?_; rintro e wx ⟨rfl, k, rfl⟩)
          | (gi_at_call 71; refine (callsIn_wide.2 (ISN _)).mono ?_; rintro e wx ⟨rfl, rfl⟩)
          | (gi_at_call 72; refine (callsIn_wide.2 (IST _)).mono ?_; rintro e wx ⟨rfl, rfl⟩))
        refine ⟨.bool false, ?_, by rw [HC.out, HPV.out, HN.out, HT.out]; rfl, (HB0.out.trans ((belowD W0 k).mono HB0.out.size)).setCell (p := ⟨w.heap.size, 0, none⟩) (Nat.le_refl _) _⟩
        have hcz := ((RB.out.below (belowD W0 k) HRL.out).set false).cell
        simp [results, Tryd.f58, go_sem, hcz]

theorem iscore_any (s : ByteArray) (w : World) (henv : Env w) : Calls Tryd.prog 58 #[.string s] w fun e w' => e = .returned (.bool (coreB s.data.toList)) ∧ Below w.heap.size w w' := by
  by_cases h : s.size ≤ 120
  · rcases cut_facts s.data.toList with ⟨h1, h2, -⟩ | ⟨h1, h2, h3⟩
    · exact iscore_one s w henv h h1 h2
    · exact iscore_more s w henv h h1 h2 h3
  · exact iscore_long s w h
theorem core_any (s : ByteArray) (w : World) (henv : Env w) : Calls Tryd.prog 36 #[.string s] w fun e w' => e = .returned (.int .i64 (errI (coreB s.data.toList))) ∧ Below w.heap.size w w' := by
  go_enter Tryd.func36, Tryd.ntmps36
  go_wp2_with fail
  (refine (iscore_any s w henv).mono ?_); rintro e wx ⟨rfl, hb⟩
  go_wp2_with fail
  ((with_reducible refine (errless_any _ _).mono ?_); rintro e wy ⟨rfl, rfl⟩)
  go_wp2_with fail
  go_ret
  exact ⟨rfl, hb⟩
end Go.Proofs.YtegognbnphpigaaDoor
