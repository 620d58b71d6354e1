/-
  Find and Hole of sort, and of the reference.
-/
import Derived.Test.YtegognbnphpigaaDoorSoG
namespace Go.Proofs.YtegognbnphpigaaDoor
open Go.RowKit

theorem find_at {α : Type} {p : α → Bool} {l : List α} {k : Nat} {d : α} (hk : k < l.length) (hn : (l.take k).find? p = none) (h : p (l.getD k d) = true) : l.find? p = some (l.getD k d) := by
  have e : l = l.take k ++ l.getD k d :: l.drop (k + 1) := by rw [← drop_at hk, List.take_append_drop]
  have : ∀ x, x = l.getD k d → l.find? p = some x := by
    intro x hx
    rw [e, List.find?_append, hn, List.find?_cons]
    rw [h]; simp [hx]
  exact this _ rfl
theorem find_snoc {α : Type} {p : α → Bool} {l : List α} {k : Nat} {d : α} (hk : k < l.length) (hn : (l.take k).find? p = none) (h : p (l.getD k d) = false) : (l.take (k + 1)).find? p = none := by
  rw [take_at (d := d) hk, List.find?_append, hn, List.find?_cons, h]; rfl
theorem find_end {α : Type} {p : α → Bool} {l : List α} {k : Nat} (hk : l.length ≤ k) (hn : (l.take k).find? p = none) : l.find? p = none := by
  rwa [List.take_of_length_le hk] at hn
theorem name_beq {x s : Txt} {b : Bool} (h : decide (s = x) = b) : (x == s) = b := by
  rw [← h, Bool.eq_iff_iff, beq_iff_eq, decide_eq_true_iff]; exact eq_comm
theorem findF_sym {l : List Sy} {s : Txt} (h1 : s ≠ tTag) (h2 : s ≠ tVal) : findF l s = symF l s := by unfold findF; rw [if_neg h1, if_neg h2]
theorem findF_tag {l : List Sy} {s : Txt} (h1 : s = tTag) : findF l s = some ⟨tTag, [], tInt⟩ := if_pos h1
theorem findF_val {l : List Sy} {s : Txt} (h2 : s = tVal) : findF l s = some ⟨tVal, [tCell], tInt⟩ := by
  unfold findF; rw [if_neg (by rw [h2]; decide), if_pos h2]
set_option maxRecDepth 100000 in
set_option maxHeartbeats 4000000 in
theorem find_any (A0 : Option Addr) (n0 c0 : Nat) (B0 : Option Addr) (m0 d0 : Nat) (C0 : Option Addr) (p0 q0 : Nat) (v : En) (s : ByteArray) (w : World) (h2 : Ys w B0 m0 d0 v.syms) (hfit : ∀ y ∈ v.syms, y.args.length ≤ 100000) : Calls Tryd.prog 21 #[.agg #[.slice A0 n0 c0, .slice B0 m0 d0, .slice C0 p0 q0], .string s] w fun e w' => ∃ x A n c y, e = .returned (.tuple #[.agg #[.string x, .slice A n c, .string y], .bool (findF v.syms s.data.toList).isSome]) ∧ Hid (x.data.toList = ((findF v.syms s.data.toList).getD sy0).name) ∧ Hid (Ss w' A n c ((findF v.syms s.data.toList).getD sy0).args) ∧ Hid (y.data.toList = ((findF v.syms s.data.toList).getD sy0).res) ∧ Below w.heap.size w w' := by
  have B1 := Bk.new 36 w #[.slice A0 n0 c0, .slice B0 m0 d0, .slice C0 p0 q0]
  have B2 : Bk 25 ((w.alloc (.cells #[.slice A0 n0 c0, .slice B0 m0 d0, .slice C0 p0 q0] 36)).alloc (.cells #[.string ⟨#[]⟩, .slice none 0 0, .string ⟨#[]⟩] 25)) (w.heap.size + 1) #[.string ⟨#[]⟩, .slice none 0 0, .string ⟨#[]⟩] := Bk.at _ (by simp)
  have B1' := B1.alloc (.cells #[.string ⟨#[]⟩, .slice none 0 0, .string ⟨#[]⟩] 25)
  have hb0 : Below w.heap.size w ((w.alloc (.cells #[.slice A0 n0 c0, .slice B0 m0 d0, .slice C0 p0 q0] 36)).alloc (.cells #[.string ⟨#[]⟩, .slice none 0 0, .string ⟨#[]⟩] 25)) := nbelow_on (below_alloc _) (below_alloc _)
  have HS := Lib.hid h2
  have HL := Lib.hid h2.len
  have HK1 := Lib.hid B1'
  have HK2 := Lib.hid B2
  have HB0 := Lib.hid hb0
  have h47 : m0 ≤ 9223372036854775807 := Nat.le_trans h2.cap h2.top
  have HF := Lib.hid hfit
  obtain ⟨RR, hRR⟩ : ∃ RR, findF v.syms s.data.toList = RR := ⟨_, rfl⟩
  rw [hRR]
  have HRR := Lib.hid hRR
  clear B1 B2 B1' hb0 h2 hfit hRR
  cases ht : decide (s.data.toList = tTag) with
  | true =>
    have TB0 : (s.toList == [116, 97, 103]) = true := txt_eq_lit ht
    have HRX : Hid (RR = some ⟨tTag, [], tInt⟩) := HRR.out.symm.trans (findF_tag (of_decide_eq_true ht))
    clear ht
    have HBF : Hid (Below w.heap.size w ((w.alloc (.cells #[.slice A0 n0 c0, .slice B0 m0 d0, .slice C0 p0 q0] 36)).alloc (.cells #[.string ⟨#[116, 97, 103]⟩, .slice none 0 0, .string ⟨#[73, 110, 116]⟩] 25))) := nbelow_on (below_alloc _) (below_alloc _)
    have M : Bk 25 ((w.alloc (.cells #[.slice A0 n0 c0, .slice B0 m0 d0, .slice C0 p0 q0] 36)).alloc (.cells #[.string ⟨#[116, 97, 103]⟩, .slice none 0 0, .string ⟨#[73, 110, 116]⟩] 25)) (w.heap.size + 1) #[.string ⟨#[116, 97, 103]⟩, .slice none 0 0, .string ⟨#[73, 110, 116]⟩] := Bk.at _ (by simp)
    have r0 := M.c 0 (v := .string ⟨#[116, 97, 103]⟩) rfl
    have r1 := M.c 1 (v := .slice none 0 0) rfl
    have r2 := M.c 2 (v := .string ⟨#[73, 110, 116]⟩) rfl
    clear M
    go_enter Tryd.func21, Tryd.ntmps21
    go_wp2_with fail
    refine bodyPost_ret (v := .tuple #[.agg #[.string ⟨#[116, 97, 103]⟩, .slice none 0 0, .string ⟨#[73, 110, 116]⟩], .bool true]) (by simp [results, Tryd.results21, go_sem, *]) rfl ⟨_, _, _, _, _, (by rw [HRX.out]; exact rfl), (by rw [HRX.out]; exact rfl), (by rw [HRX.out]; exact Ss.nil _), (by rw [HRX.out]; exact rfl), HBF.out⟩
  | false =>
    have TB0 : (s.toList == [116, 97, 103]) = false := txt_eq_lit ht
    cases hv : decide (s.data.toList = tVal) with
    | true =>
      have TB1 : (s.toList == [118, 97, 108]) = true := txt_eq_lit hv
      have HRX : Hid (RR = some ⟨tVal, [tCell], tInt⟩) := HRR.out.symm.trans (findF_val (of_decide_eq_true hv))
      clear ht hv
      have HBF : Hid (Below w.heap.size w (((w.alloc (.cells #[.slice A0 n0 c0, .slice B0 m0 d0, .slice C0 p0 q0] 36)).alloc (.cells #[.string ⟨#[118, 97, 108]⟩, .slice (some ⟨w.heap.size + 1 + 1, 0, none⟩) 1 1, .string ⟨#[73, 110, 116]⟩] 25)).alloc (.cells #[.string ⟨#[67, 101, 108, 108]⟩] 22))) := nbelow_on (nbelow_on (below_alloc _) (below_alloc _)) (below_alloc _)
      have M : Bk 25 (((w.alloc (.cells #[.slice A0 n0 c0, .slice B0 m0 d0, .slice C0 p0 q0] 36)).alloc (.cells #[.string ⟨#[118, 97, 108]⟩, .slice (some ⟨w.heap.size + 1 + 1, 0, none⟩) 1 1, .string ⟨#[73, 110, 116]⟩] 25)).alloc (.cells #[.string ⟨#[67, 101, 108, 108]⟩] 22)) (w.heap.size + 1) #[.string ⟨#[118, 97, 108]⟩, .slice (some ⟨w.heap.size + 1 + 1, 0, none⟩) 1 1, .string ⟨#[73, 110, 116]⟩] := Bk.alloc (Bk.at _ (by simp)) _
      have r0 := M.c 0 (v := .string ⟨#[118, 97, 108]⟩) rfl
      have r1 := M.c 1 (v := .slice (some ⟨w.heap.size + 1 + 1, 0, none⟩) 1 1) rfl
      have r2 := M.c 2 (v := .string ⟨#[73, 110, 116]⟩) rfl
      clear M
      have HSF : Hid (Ss (((w.alloc (.cells #[.slice A0 n0 c0, .slice B0 m0 d0, .slice C0 p0 q0] 36)).alloc (.cells #[.string ⟨#[118, 97, 108]⟩, .slice (some ⟨w.heap.size + 1 + 1, 0, none⟩) 1 1, .string ⟨#[73, 110, 116]⟩] 25)).alloc (.cells #[.string ⟨#[67, 101, 108, 108]⟩] 22)) (some ⟨w.heap.size + 1 + 1, 0, none⟩) 1 1 [tCell]) := by
        have h := ss_lit (w := (w.alloc (.cells #[.slice A0 n0 c0, .slice B0 m0 d0, .slice C0 p0 q0] 36)).alloc (.cells #[.string ⟨#[118, 97, 108]⟩, .slice (some ⟨w.heap.size + 1 + 1, 0, none⟩) 1 1, .string ⟨#[73, 110, 116]⟩] 25)) (t := 22) (cells := #[.string ⟨#[67, 101, 108, 108]⟩]) (n := 1) [tCell] rfl rfl (by omega)
        rw [World.size_alloc, World.size_alloc] at h
        exact h
      go_enter Tryd.func21, Tryd.ntmps21
      go_wp2_with fail
      refine bodyPost_ret (v := .tuple #[.agg #[.string ⟨#[118, 97, 108]⟩, .slice (some ⟨w.heap.size + 1 + 1, 0, none⟩) 1 1, .string ⟨#[73, 110, 116]⟩], .bool true]) (by simp [results, Tryd.results21, go_sem, *]) rfl ⟨_, _, _, _, _, (by rw [HRX.out]; exact rfl), (by rw [HRX.out]; exact rfl), (by rw [HRX.out]; exact HSF.out), (by rw [HRX.out]; exact rfl), HBF.out⟩
    | false =>
      have TB1 : (s.toList == [118, 97, 108]) = false := txt_eq_lit hv
      have HRS : Hid (symF v.syms s.data.toList = RR) := (findF_sym (of_decide_eq_false ht) (of_decide_eq_false hv)).symm.trans HRR.out
      clear ht hv
      have e1 := HK1.out.c 1 (v := .slice B0 m0 d0) rfl
      go_enter Tryd.func21, Tryd.ntmps21
      go_wp2_with fail
      clear e1
      go_loopw [19] (fun iv wr => ∃ k : Nat, k ≤ m0 ∧ iv = .int .i64 (k : Int) ∧ (v.syms.take k).find? (fun y : Sy => y.name == s.data.toList) = none ∧ Bk 25 wr (w.heap.size + 1) #[.string ⟨#[]⟩, .slice none 0 0, .string ⟨#[]⟩] ∧ Below w.heap.size w wr) (fun iv _ => m0 - (intOf iv).toNat)
      case atStart => exact ⟨0, Nat.zero_le _, rfl, by simp, HK2.out, HB0.out⟩
      case round =>
        obtain ⟨k, hk, rfl, ha, hbk, hb⟩ := hrel
        have HA := Lib.hid ha
        have HK := Lib.hid hbk
        have HB := Lib.hid hb
        have hsr := HS.out.below hb
        clear ha hbk hb
        by_cases hlt : k < m0
        · have hkl : k < v.syms.length := by rw [HL.out]; exact hlt
          have HKL := Lib.hid hkl
          obtain ⟨g, o, x, y, B, m, d, rfl, hg, k0, k1, k2, hx, hy, hss⟩ := hsr.at_ hlt
          have HX := Lib.hid hx.out
          have HY := Lib.hid hy.out
          have HSS := Lib.hid (hss.out.below (below_alloc (.cells #[.string x, .slice B m d, .string y] 25)))
          have hml : m ≤ 100000 := by rw [← hss.out.len]; exact HF.out _ (getD_mem_sy hkl)
          have HML := Lib.hid hml
          have q1 : (k : Int) < m0 := by omega
          have BK := Bk.new 25 wr #[.string x, .slice B m d, .string y]
          have b0 := BK.c 0 (v := .string x) rfl
          have b1 := BK.c 1 (v := .slice B m d) rfl
          have b2 := BK.c 2 (v := .string y) rfl
          have HKA := Lib.hid (HK.out.alloc (.cells #[.string x, .slice B m d, .string y] 25))
          have HBA := Lib.hid (nbelow_on HB.out (below_alloc (.cells #[.string x, .slice B m d, .string y] 25)))
          clear hx hg hkl hsr hss hml BK hy
          cases hd : decide (s.data.toList = (v.syms.getD k sy0).name) with
          | true =>
            have TB := txt_beq2 HX.out hd
            have HRX : Hid (RR = some (v.syms.getD k sy0)) := HRS.out.symm.trans (find_at HKL.out HA.out (name_beq hd))
            clear hd
            go_wp2_with fail
            (refine (copysym_any x y B m d _ _ HSS.out HML.out).mono ?_); rintro e w3 ⟨A', c', rfl, hss, hge, hb⟩
            have HK3 := Lib.hid (HKA.out.below hb)
            have HB3 := Lib.hid (nbelow_on HBA.out hb)
            have HS3 := Lib.hid hss
            have HGE : Hid (∀ a, A' = some a → w.heap.size + 1 + 1 ≤ a.block) := fun a h => by have h1 := hge a h; have h2 := HKA.out.lt; omega
            clear hss hge hb
            have KZ := HK3.out
            have g0 := KZ.c 0 (v := .string ⟨#[]⟩) rfl
            have f0 := KZ.fz 0
            have g1 := KZ.c 1 (v := .slice none 0 0) rfl
            have f1 := KZ.fz 1
            have g2 := KZ.c 2 (v := .string ⟨#[]⟩) rfl
            have f2 := KZ.fz 2
            have M := (((KZ.set 0 (.string x)).set 1 (.slice A' m c')).set 2 (.string y))
            have r0 := M.c 0 (v := .string x) rfl
            have r1 := M.c 1 (v := .slice A' m c') rfl
            have r2 := M.c 2 (v := .string y) rfl
            have HBF : Hid (Below w.heap.size w (((w3.setCell ⟨w.heap.size + 1, 0, none⟩ (.string x)).setCell ⟨w.heap.size + 1, 1, none⟩ (.slice A' m c')).setCell ⟨w.heap.size + 1, 2, none⟩ (.string y))) := (((HB3.out).setCell (p := ⟨w.heap.size + 1, 0, none⟩) (by show w.heap.size ≤ w.heap.size + 1; omega) _).setCell (p := ⟨w.heap.size + 1, 1, none⟩) (by show w.heap.size ≤ w.heap.size + 1; omega) _).setCell (p := ⟨w.heap.size + 1, 2, none⟩) (by show w.heap.size ≤ w.heap.size + 1; omega) _
            clear KZ M
            have HSF : Hid (Ss (((w3.setCell ⟨w.heap.size + 1, 0, none⟩ (.string x)).setCell ⟨w.heap.size + 1, 1, none⟩ (.slice A' m c')).setCell ⟨w.heap.size + 1, 2, none⟩ (.string y)) A' m c' (v.syms.getD k sy0).args) := by
              refine HS3.out.on_far (b := w.heap.size + 1 + 1) (fun a ha => HGE.out a ha) (by simp) ?_
              intro p hp
              rw [World.cell?_setCell_other _ _ _ _ (fun e => by rw [← e] at hp; simp at hp <;> omega), World.cell?_setCell_other _ _ _ _ (fun e => by rw [← e] at hp; simp at hp <;> omega), World.cell?_setCell_other _ _ _ _ (fun e => by rw [← e] at hp; simp at hp <;> omega)]
            go_wp2_with fail
            refine bodyPost_ret (v := .tuple #[.agg #[.string x, .slice A' m c', .string y], .bool true]) (by simp [results, Tryd.results21, go_sem, *]) rfl ⟨_, _, _, _, _, (by rw [HRX.out]; exact rfl), (by rw [HRX.out]; exact HX.out), (by rw [HRX.out]; exact HSF.out), (by rw [HRX.out]; exact HY.out), HBF.out⟩
          | false =>
            have TB := txt_beq2 HX.out hd
            have HFD : Hid ((v.syms.take (k + 1)).find? (fun y : Sy => y.name == s.data.toList) = none) := find_snoc HKL.out HA.out (name_beq hd)
            clear hd
            go_wp2_with fail
            go_roundw
            case rel => exact ⟨k + 1, by omega, by go_num, HFD.out, HKA.out, HBA.out⟩
            case measure => simp [intOf] <;> omega
        · have hke : k = m0 := by omega
          have HRX : Hid (RR = none) := HRS.out.symm.trans (find_end (by rw [HL.out]; omega) HA.out)
          have q1 : ¬ (k : Int) < m0 := by omega
          clear hke hsr
          have KZ := HK.out
          have g0 := KZ.c 0 (v := .string ⟨#[]⟩) rfl
          have f0 := KZ.fz 0
          have g1 := KZ.c 1 (v := .slice none 0 0) rfl
          have f1 := KZ.fz 1
          have g2 := KZ.c 2 (v := .string ⟨#[]⟩) rfl
          have f2 := KZ.fz 2
          have M := (((KZ.set 0 (.string ⟨#[]⟩)).set 1 (.slice none 0 0)).set 2 (.string ⟨#[]⟩))
          have r0 := M.c 0 (v := .string ⟨#[]⟩) rfl
          have r1 := M.c 1 (v := .slice none 0 0) rfl
          have r2 := M.c 2 (v := .string ⟨#[]⟩) rfl
          have HBF : Hid (Below w.heap.size w (((wr.setCell ⟨w.heap.size + 1, 0, none⟩ (.string ⟨#[]⟩)).setCell ⟨w.heap.size + 1, 1, none⟩ (.slice none 0 0)).setCell ⟨w.heap.size + 1, 2, none⟩ (.string ⟨#[]⟩))) := (((HB.out).setCell (p := ⟨w.heap.size + 1, 0, none⟩) (by show w.heap.size ≤ w.heap.size + 1; omega) _).setCell (p := ⟨w.heap.size + 1, 1, none⟩) (by show w.heap.size ≤ w.heap.size + 1; omega) _).setCell (p := ⟨w.heap.size + 1, 2, none⟩) (by show w.heap.size ≤ w.heap.size + 1; omega) _
          clear KZ M
          go_wp2_with fail
          refine bodyPost_ret (v := .tuple #[.agg #[.string ⟨#[]⟩, .slice none 0 0, .string ⟨#[]⟩], .bool false]) (by simp [results, Tryd.results21, go_sem, *]) rfl ⟨_, _, _, _, _, (by rw [HRX.out]; exact rfl), (by rw [HRX.out]; exact rfl), (by rw [HRX.out]; exact Ss.nil _), (by rw [HRX.out]; exact rfl), HBF.out⟩
set_option maxRecDepth 100000 in
set_option maxHeartbeats 4000000 in
theorem hole_any (A0 : Option Addr) (n0 c0 : Nat) (B0 : Option Addr) (m0 d0 : Nat) (C0 : Option Addr) (p0 q0 : Nat) (v : En) (s : ByteArray) (w : World) (h3 : Hs w C0 p0 q0 v.holes) (hfit : ∀ y ∈ v.holes, y.ps.length ≤ 100000) : Calls Tryd.prog 23 #[.agg #[.slice A0 n0 c0, .slice B0 m0 d0, .slice C0 p0 q0], .string s] w fun e w' => ∃ x A n c, e = .returned (.tuple #[.agg #[.string x, .slice A n c], .bool (holeF v.holes s.data.toList).isSome]) ∧ Hid (x.data.toList = ((holeF v.holes s.data.toList).getD ho0).name) ∧ Hid (Vs w' A n c ((holeF v.holes s.data.toList).getD ho0).ps) ∧ Below w.heap.size w w' := by
  have B1 := Bk.new 36 w #[.slice A0 n0 c0, .slice B0 m0 d0, .slice C0 p0 q0]
  have B2 : Bk 44 ((w.alloc (.cells #[.slice A0 n0 c0, .slice B0 m0 d0, .slice C0 p0 q0] 36)).alloc (.cells #[.string ⟨#[]⟩, .slice none 0 0] 44)) (w.heap.size + 1) #[.string ⟨#[]⟩, .slice none 0 0] := Bk.at _ (by simp)
  have B1' := B1.alloc (.cells #[.string ⟨#[]⟩, .slice none 0 0] 44)
  have hb0 : Below w.heap.size w ((w.alloc (.cells #[.slice A0 n0 c0, .slice B0 m0 d0, .slice C0 p0 q0] 36)).alloc (.cells #[.string ⟨#[]⟩, .slice none 0 0] 44)) := nbelow_on (below_alloc _) (below_alloc _)
  have HS := Lib.hid h3
  have HL := Lib.hid h3.len
  have HK1 := Lib.hid B1'
  have HK2 := Lib.hid B2
  have HB0 := Lib.hid hb0
  have h47 : p0 ≤ 9223372036854775807 := Nat.le_trans h3.cap h3.top
  have HF := Lib.hid hfit
  obtain ⟨RR, hRR⟩ : ∃ RR, holeF v.holes s.data.toList = RR := ⟨_, rfl⟩
  rw [hRR]
  have HRR := Lib.hid hRR
  clear B1 B2 B1' hb0 h3 hfit hRR
  have e1 := HK1.out.c 2 (v := .slice C0 p0 q0) rfl
  go_enter Tryd.func23, Tryd.ntmps23
  go_wp2_with fail
  clear e1
  go_loopw [11] (fun iv wr => ∃ k : Nat, k ≤ p0 ∧ iv = .int .i64 (k : Int) ∧ (v.holes.take k).find? (fun h : Ho => h.name == s.data.toList) = none ∧ Bk 44 wr (w.heap.size + 1) #[.string ⟨#[]⟩, .slice none 0 0] ∧ Below w.heap.size w wr) (fun iv _ => p0 - (intOf iv).toNat)
  case atStart => exact ⟨0, Nat.zero_le _, rfl, by simp, HK2.out, HB0.out⟩
  case round =>
    obtain ⟨k, hk, rfl, ha, hbk, hb⟩ := hrel
    have HA := Lib.hid ha
    have HK := Lib.hid hbk
    have HB := Lib.hid hb
    have hsr := HS.out.below hb
    clear ha hbk hb
    by_cases hlt : k < p0
    · have hkl : k < v.holes.length := by rw [HL.out]; exact hlt
      have HKL := Lib.hid hkl
      obtain ⟨g, o, x, B, m, d, rfl, hg, k0, k1, hx, hss⟩ := hsr.at_ hlt
      have HX := Lib.hid hx.out
      have HSS := Lib.hid (hss.out.below (below_alloc (.cells #[.string x, .slice B m d] 44)))
      have hml : m ≤ 100000 := by rw [← hss.out.len]; exact HF.out _ (getD_mem_ho hkl)
      have HML := Lib.hid hml
      have q1 : (k : Int) < p0 := by omega
      have BK := Bk.new 44 wr #[.string x, .slice B m d]
      have b0 := BK.c 0 (v := .string x) rfl
      have b1 := BK.c 1 (v := .slice B m d) rfl
      have HKA := Lib.hid (HK.out.alloc (.cells #[.string x, .slice B m d] 44))
      have HBA := Lib.hid (nbelow_on HB.out (below_alloc (.cells #[.string x, .slice B m d] 44)))
      clear hx hg hkl hsr hss hml BK
      cases hd : decide (s.data.toList = (v.holes.getD k ho0).name) with
      | true =>
        have TB := txt_beq2 HX.out hd
        have HRX : Hid (RR = some (v.holes.getD k ho0)) := HRR.out.symm.trans (find_at HKL.out HA.out (name_beq hd))
        clear hd
        go_wp2_with fail
        (refine (copyhole_any x B m d _ _ HSS.out HML.out).mono ?_); rintro e w3 ⟨A', c', rfl, hss, hge, hb⟩
        have HK3 := Lib.hid (HKA.out.below hb)
        have HB3 := Lib.hid (nbelow_on HBA.out hb)
        have HS3 := Lib.hid hss
        have HGE : Hid (∀ a, A' = some a → w.heap.size + 1 + 1 ≤ a.block) := fun a h => by have h1 := hge a h; have h2 := HKA.out.lt; omega
        clear hss hge hb
        have KZ := HK3.out
        have g0 := KZ.c 0 (v := .string ⟨#[]⟩) rfl
        have f0 := KZ.fz 0
        have g1 := KZ.c 1 (v := .slice none 0 0) rfl
        have f1 := KZ.fz 1
        have M := ((KZ.set 0 (.string x)).set 1 (.slice A' m c'))
        have r0 := M.c 0 (v := .string x) rfl
        have r1 := M.c 1 (v := .slice A' m c') rfl
        have HBF : Hid (Below w.heap.size w ((w3.setCell ⟨w.heap.size + 1, 0, none⟩ (.string x)).setCell ⟨w.heap.size + 1, 1, none⟩ (.slice A' m c'))) := ((HB3.out).setCell (p := ⟨w.heap.size + 1, 0, none⟩) (by show w.heap.size ≤ w.heap.size + 1; omega) _).setCell (p := ⟨w.heap.size + 1, 1, none⟩) (by show w.heap.size ≤ w.heap.size + 1; omega) _
        clear KZ M
        have HSF : Hid (Vs ((w3.setCell ⟨w.heap.size + 1, 0, none⟩ (.string x)).setCell ⟨w.heap.size + 1, 1, none⟩ (.slice A' m c')) A' m c' (v.holes.getD k ho0).ps) := by
          refine HS3.out.on_far (b := w.heap.size + 1 + 1) (fun a ha => HGE.out a ha) (by simp) ?_
          intro p hp
          rw [World.cell?_setCell_other _ _ _ _ (fun e => by rw [← e] at hp; simp at hp <;> omega), World.cell?_setCell_other _ _ _ _ (fun e => by rw [← e] at hp; simp at hp <;> omega)]
        go_wp2_with fail
        refine bodyPost_ret (v := .tuple #[.agg #[.string x, .slice A' m c'], .bool true]) (by simp [results, Tryd.results23, go_sem, *]) rfl ⟨_, _, _, _, (by rw [HRX.out]; exact rfl), (by rw [HRX.out]; exact HX.out), (by rw [HRX.out]; exact HSF.out), HBF.out⟩
      | false =>
        have TB := txt_beq2 HX.out hd
        have HFD : Hid ((v.holes.take (k + 1)).find? (fun h : Ho => h.name == s.data.toList) = none) := find_snoc HKL.out HA.out (name_beq hd)
        clear hd
        go_wp2_with fail
        go_roundw
        case rel => exact ⟨k + 1, by omega, by go_num, HFD.out, HKA.out, HBA.out⟩
        case measure => simp [intOf] <;> omega
    · have hke : k = p0 := by omega
      have HRX : Hid (RR = none) := HRR.out.symm.trans (find_end (by rw [HL.out]; omega) HA.out)
      have q1 : ¬ (k : Int) < p0 := by omega
      clear hke hsr
      have KZ := HK.out
      have g0 := KZ.c 0 (v := .string ⟨#[]⟩) rfl
      have f0 := KZ.fz 0
      have g1 := KZ.c 1 (v := .slice none 0 0) rfl
      have f1 := KZ.fz 1
      have M := ((KZ.set 0 (.string ⟨#[]⟩)).set 1 (.slice none 0 0))
      have r0 := M.c 0 (v := .string ⟨#[]⟩) rfl
      have r1 := M.c 1 (v := .slice none 0 0) rfl
      have HBF : Hid (Below w.heap.size w ((wr.setCell ⟨w.heap.size + 1, 0, none⟩ (.string ⟨#[]⟩)).setCell ⟨w.heap.size + 1, 1, none⟩ (.slice none 0 0))) := ((HB.out).setCell (p := ⟨w.heap.size + 1, 0, none⟩) (by show w.heap.size ≤ w.heap.size + 1; omega) _).setCell (p := ⟨w.heap.size + 1, 1, none⟩) (by show w.heap.size ≤ w.heap.size + 1; omega) _
      clear KZ M
      go_wp2_with fail
      refine bodyPost_ret (v := .tuple #[.agg #[.string ⟨#[]⟩, .slice none 0 0], .bool false]) (by simp [results, Tryd.results23, go_sem, *]) rfl ⟨_, _, _, _, (by rw [HRX.out]; exact rfl), (by rw [HRX.out]; exact rfl), (by rw [HRX.out]; exact Vs.nil _), HBF.out⟩
set_option maxRecDepth 100000 in
set_option maxHeartbeats 4000000 in
theorem rsfind_any (A0 : Option Addr) (n0 c0 : Nat) (B0 : Option Addr) (m0 d0 : Nat) (C0 : Option Addr) (p0 q0 : Nat) (v : En) (s : ByteArray) (w : World) (h2 : Ys w B0 m0 d0 v.syms) : Calls Tryd.prog 22 #[.agg #[.slice A0 n0 c0, .slice B0 m0 d0, .slice C0 p0 q0], .string s] w fun e w' => ∃ x A n c y, e = .returned (.tuple #[.agg #[.string x, .slice A n c, .string y], .bool (findF v.syms s.data.toList).isSome]) ∧ Hid (x.data.toList = ((findF v.syms s.data.toList).getD sy0).name) ∧ Hid (Ss w' A n c ((findF v.syms s.data.toList).getD sy0).args) ∧ Hid (y.data.toList = ((findF v.syms s.data.toList).getD sy0).res) ∧ Below w.heap.size w w' := by
  have B1 := Bk.new 36 w #[.slice A0 n0 c0, .slice B0 m0 d0, .slice C0 p0 q0]
  have B2 : Bk 25 ((w.alloc (.cells #[.slice A0 n0 c0, .slice B0 m0 d0, .slice C0 p0 q0] 36)).alloc (.cells #[.string ⟨#[]⟩, .slice none 0 0, .string ⟨#[]⟩] 25)) (w.heap.size + 1) #[.string ⟨#[]⟩, .slice none 0 0, .string ⟨#[]⟩] := Bk.at _ (by simp)
  have B1' := B1.alloc (.cells #[.string ⟨#[]⟩, .slice none 0 0, .string ⟨#[]⟩] 25)
  have hb0 : Below w.heap.size w ((w.alloc (.cells #[.slice A0 n0 c0, .slice B0 m0 d0, .slice C0 p0 q0] 36)).alloc (.cells #[.string ⟨#[]⟩, .slice none 0 0, .string ⟨#[]⟩] 25)) := nbelow_on (below_alloc _) (below_alloc _)
  have HS := Lib.hid h2
  have HL := Lib.hid h2.len
  have HK1 := Lib.hid B1'
  have HK2 := Lib.hid B2
  have HB0 := Lib.hid hb0
  have h47 : m0 ≤ 9223372036854775807 := Nat.le_trans h2.cap h2.top
  obtain ⟨RR, hRR⟩ : ∃ RR, findF v.syms s.data.toList = RR := ⟨_, rfl⟩
  rw [hRR]
  have HRR := Lib.hid hRR
  clear B1 B2 B1' hb0 h2 hRR
  cases ht : decide (s.data.toList = tTag) with
  | true =>
    have TB0 : (s.toList == [116, 97, 103]) = true := txt_eq_lit ht
    have HRX : Hid (RR = some ⟨tTag, [], tInt⟩) := HRR.out.symm.trans (findF_tag (of_decide_eq_true ht))
    clear ht
    have HBF : Hid (Below w.heap.size w ((w.alloc (.cells #[.slice A0 n0 c0, .slice B0 m0 d0, .slice C0 p0 q0] 36)).alloc (.cells #[.string ⟨#[116, 97, 103]⟩, .slice none 0 0, .string ⟨#[73, 110, 116]⟩] 25))) := nbelow_on (below_alloc _) (below_alloc _)
    have M : Bk 25 ((w.alloc (.cells #[.slice A0 n0 c0, .slice B0 m0 d0, .slice C0 p0 q0] 36)).alloc (.cells #[.string ⟨#[116, 97, 103]⟩, .slice none 0 0, .string ⟨#[73, 110, 116]⟩] 25)) (w.heap.size + 1) #[.string ⟨#[116, 97, 103]⟩, .slice none 0 0, .string ⟨#[73, 110, 116]⟩] := Bk.at _ (by simp)
    have r0 := M.c 0 (v := .string ⟨#[116, 97, 103]⟩) rfl
    have r1 := M.c 1 (v := .slice none 0 0) rfl
    have r2 := M.c 2 (v := .string ⟨#[73, 110, 116]⟩) rfl
    clear M
    go_enter Tryd.func22, Tryd.ntmps22
    go_wp2_with fail
    refine bodyPost_ret (v := .tuple #[.agg #[.string ⟨#[116, 97, 103]⟩, .slice none 0 0, .string ⟨#[73, 110, 116]⟩], .bool true]) (by simp [results, Tryd.results22, go_sem, *]) rfl ⟨_, _, _, _, _, (by rw [HRX.out]; exact rfl), (by rw [HRX.out]; exact rfl), (by rw [HRX.out]; exact Ss.nil _), (by rw [HRX.out]; exact rfl), HBF.out⟩
  | false =>
    have TB0 : (s.toList == [116, 97, 103]) = false := txt_eq_lit ht
    cases hv : decide (s.data.toList = tVal) with
    | true =>
      have TB1 : (s.toList == [118, 97, 108]) = true := txt_eq_lit hv
      have HRX : Hid (RR = some ⟨tVal, [tCell], tInt⟩) := HRR.out.symm.trans (findF_val (of_decide_eq_true hv))
      clear ht hv
      have HBF : Hid (Below w.heap.size w (((w.alloc (.cells #[.slice A0 n0 c0, .slice B0 m0 d0, .slice C0 p0 q0] 36)).alloc (.cells #[.string ⟨#[118, 97, 108]⟩, .slice (some ⟨w.heap.size + 1 + 1, 0, none⟩) 1 1, .string ⟨#[73, 110, 116]⟩] 25)).alloc (.cells #[.string ⟨#[67, 101, 108, 108]⟩] 22))) := nbelow_on (nbelow_on (below_alloc _) (below_alloc _)) (below_alloc _)
      have M : Bk 25 (((w.alloc (.cells #[.slice A0 n0 c0, .slice B0 m0 d0, .slice C0 p0 q0] 36)).alloc (.cells #[.string ⟨#[118, 97, 108]⟩, .slice (some ⟨w.heap.size + 1 + 1, 0, none⟩) 1 1, .string ⟨#[73, 110, 116]⟩] 25)).alloc (.cells #[.string ⟨#[67, 101, 108, 108]⟩] 22)) (w.heap.size + 1) #[.string ⟨#[118, 97, 108]⟩, .slice (some ⟨w.heap.size + 1 + 1, 0, none⟩) 1 1, .string ⟨#[73, 110, 116]⟩] := Bk.alloc (Bk.at _ (by simp)) _
      have r0 := M.c 0 (v := .string ⟨#[118, 97, 108]⟩) rfl
      have r1 := M.c 1 (v := .slice (some ⟨w.heap.size + 1 + 1, 0, none⟩) 1 1) rfl
      have r2 := M.c 2 (v := .string ⟨#[73, 110, 116]⟩) rfl
      clear M
      have HSF : Hid (Ss (((w.alloc (.cells #[.slice A0 n0 c0, .slice B0 m0 d0, .slice C0 p0 q0] 36)).alloc (.cells #[.string ⟨#[118, 97, 108]⟩, .slice (some ⟨w.heap.size + 1 + 1, 0, none⟩) 1 1, .string ⟨#[73, 110, 116]⟩] 25)).alloc (.cells #[.string ⟨#[67, 101, 108, 108]⟩] 22)) (some ⟨w.heap.size + 1 + 1, 0, none⟩) 1 1 [tCell]) := by
        have h := ss_lit (w := (w.alloc (.cells #[.slice A0 n0 c0, .slice B0 m0 d0, .slice C0 p0 q0] 36)).alloc (.cells #[.string ⟨#[118, 97, 108]⟩, .slice (some ⟨w.heap.size + 1 + 1, 0, none⟩) 1 1, .string ⟨#[73, 110, 116]⟩] 25)) (t := 22) (cells := #[.string ⟨#[67, 101, 108, 108]⟩]) (n := 1) [tCell] rfl rfl (by omega)
        rw [World.size_alloc, World.size_alloc] at h
        exact h
      go_enter Tryd.func22, Tryd.ntmps22
      go_wp2_with fail
      refine bodyPost_ret (v := .tuple #[.agg #[.string ⟨#[118, 97, 108]⟩, .slice (some ⟨w.heap.size + 1 + 1, 0, none⟩) 1 1, .string ⟨#[73, 110, 116]⟩], .bool true]) (by simp [results, Tryd.results22, go_sem, *]) rfl ⟨_, _, _, _, _, (by rw [HRX.out]; exact rfl), (by rw [HRX.out]; exact rfl), (by rw [HRX.out]; exact HSF.out), (by rw [HRX.out]; exact rfl), HBF.out⟩
    | false =>
      have TB1 : (s.toList == [118, 97, 108]) = false := txt_eq_lit hv
      have HRS : Hid (symF v.syms s.data.toList = RR) := (findF_sym (of_decide_eq_false ht) (of_decide_eq_false hv)).symm.trans HRR.out
      clear ht hv
      have e1 := HK1.out.c 1 (v := .slice B0 m0 d0) rfl
      have HS2 := Lib.hid (HS.out.below HB0.out)
      generalize hW : ((w.alloc (.cells #[.slice A0 n0 c0, .slice B0 m0 d0, .slice C0 p0 q0] 36)).alloc (.cells #[.string ⟨#[]⟩, .slice none 0 0, .string ⟨#[]⟩] 25)) = W at *
      go_enter Tryd.func22, Tryd.ntmps22
      go_wp2_with fail
      go_loop [6] (fun iv => ∃ k : Nat, k ≤ m0 ∧ iv = .int .i64 (k : Int) ∧ (v.syms.take k).find? (fun y : Sy => y.name == s.data.toList) = none) (fun iv => m0 - (intOf iv).toNat)
      case atStart => exact ⟨0, Nat.zero_le _, rfl, by simp⟩
      case round =>
        obtain ⟨k, hk, rfl, ha⟩ := hrel
        have HA := Lib.hid ha
        clear ha
        by_cases hlt : k < m0
        · have hkl : k < v.syms.length := by rw [HL.out]; exact hlt
          have HKL := Lib.hid hkl
          obtain ⟨g, o, x, y, B, m, d, rfl, hg, k0, k1, k2, hx, hy, hss⟩ := HS2.out.at_ hlt
          have HX := Lib.hid hx.out
          have HY := Lib.hid hy.out
          have HSS := Lib.hid hss.out
          have HG := Lib.hid hg
          have q1 : (k : Int) < m0 := by omega
          clear hx hg hkl hss hy
          cases hd : decide (s.data.toList = (v.syms.getD k sy0).name) with
          | true =>
            have TB := txt_beq2 HX.out hd
            have HRX : Hid (RR = some (v.syms.getD k sy0)) := HRS.out.symm.trans (find_at HKL.out HA.out (name_beq hd))
            clear hd
            have KZ := HK2.out
            have g0 := KZ.c 0 (v := .string ⟨#[]⟩) rfl
            have f0 := KZ.fz 0
            have g1 := KZ.c 1 (v := .slice none 0 0) rfl
            have f1 := KZ.fz 1
            have g2 := KZ.c 2 (v := .string ⟨#[]⟩) rfl
            have f2 := KZ.fz 2
            have M := (((KZ.set 0 (.string x)).set 1 (.slice B m d)).set 2 (.string y))
            have r0 := M.c 0 (v := .string x) rfl
            have r1 := M.c 1 (v := .slice B m d) rfl
            have r2 := M.c 2 (v := .string y) rfl
            have HBF : Hid (Below w.heap.size w (((W.setCell ⟨w.heap.size + 1, 0, none⟩ (.string x)).setCell ⟨w.heap.size + 1, 1, none⟩ (.slice B m d)).setCell ⟨w.heap.size + 1, 2, none⟩ (.string y))) := (((HB0.out).setCell (p := ⟨w.heap.size + 1, 0, none⟩) (by show w.heap.size ≤ w.heap.size + 1; omega) _).setCell (p := ⟨w.heap.size + 1, 1, none⟩) (by show w.heap.size ≤ w.heap.size + 1; omega) _).setCell (p := ⟨w.heap.size + 1, 2, none⟩) (by show w.heap.size ≤ w.heap.size + 1; omega) _
            clear KZ M
            have HSF : Hid (Ss (((W.setCell ⟨w.heap.size + 1, 0, none⟩ (.string x)).setCell ⟨w.heap.size + 1, 1, none⟩ (.slice B m d)).setCell ⟨w.heap.size + 1, 2, none⟩ (.string y)) B m d (v.syms.getD k sy0).args) := by
              obtain ⟨g', o', B', m', d', e', hg', hcs⟩ : ∃ g' o' B' m' d', (some (⟨g, o, none⟩ : Addr) = some ⟨g', o', none⟩) ∧ g' < w.heap.size ∧ (w.cell? ⟨g', o' + k * 3 + 1, none⟩ = some (.slice B' m' d') ∧ Ss w B' m' d' (v.syms.getD k sy0).args) := by
                obtain ⟨g', o', e', hg', hc⟩ := HS.out.cells (by omega)
                obtain ⟨B', m', d', hh⟩ := hc k hlt
                exact ⟨g', o', B', m', d', e', hg', hh.2.1, hh.2.2.2⟩
              cases e'
              have e2 := (HB0.out.cell (p := ⟨g, o + k * 3 + 1, none⟩) hg').trans hcs.1
              rw [k1] at e2
              cases e2
              exact hcs.2.below HBF.out
            go_wp2_with fail
            refine bodyPost_ret (v := .tuple #[.agg #[.string x, .slice B m d, .string y], .bool true]) (by simp [results, Tryd.results22, go_sem, *]) rfl ⟨_, _, _, _, _, (by rw [HRX.out]; exact rfl), (by rw [HRX.out]; exact HX.out), (by rw [HRX.out]; exact HSF.out), (by rw [HRX.out]; exact HY.out), HBF.out⟩
          | false =>
            have TB := txt_beq2 HX.out hd
            have HFD : Hid ((v.syms.take (k + 1)).find? (fun y : Sy => y.name == s.data.toList) = none) := find_snoc HKL.out HA.out (name_beq hd)
            clear hd
            go_wp2_with fail
            go_round
            case rel => exact ⟨k + 1, by omega, by go_num, HFD.out⟩
            case measure => simp [intOf] <;> omega
        · have hke : k = m0 := by omega
          have HRX : Hid (RR = none) := HRS.out.symm.trans (find_end (by rw [HL.out]; omega) HA.out)
          have q1 : ¬ (k : Int) < m0 := by omega
          clear hke
          have KZ := HK2.out
          have g0 := KZ.c 0 (v := .string ⟨#[]⟩) rfl
          have f0 := KZ.fz 0
          have g1 := KZ.c 1 (v := .slice none 0 0) rfl
          have f1 := KZ.fz 1
          have g2 := KZ.c 2 (v := .string ⟨#[]⟩) rfl
          have f2 := KZ.fz 2
          have M := (((KZ.set 0 (.string ⟨#[]⟩)).set 1 (.slice none 0 0)).set 2 (.string ⟨#[]⟩))
          have r0 := M.c 0 (v := .string ⟨#[]⟩) rfl
          have r1 := M.c 1 (v := .slice none 0 0) rfl
          have r2 := M.c 2 (v := .string ⟨#[]⟩) rfl
          have HBF : Hid (Below w.heap.size w (((W.setCell ⟨w.heap.size + 1, 0, none⟩ (.string ⟨#[]⟩)).setCell ⟨w.heap.size + 1, 1, none⟩ (.slice none 0 0)).setCell ⟨w.heap.size + 1, 2, none⟩ (.string ⟨#[]⟩))) := (((HB0.out).setCell (p := ⟨w.heap.size + 1, 0, none⟩) (by show w.heap.size ≤ w.heap.size + 1; omega) _).setCell (p := ⟨w.heap.size + 1, 1, none⟩) (by show w.heap.size ≤ w.heap.size + 1; omega) _).setCell (p := ⟨w.heap.size + 1, 2, none⟩) (by show w.heap.size ≤ w.heap.size + 1; omega) _
          clear KZ M
          go_wp2_with fail
          refine bodyPost_ret (v := .tuple #[.agg #[.string ⟨#[]⟩, .slice none 0 0, .string ⟨#[]⟩], .bool false]) (by simp [results, Tryd.results22, go_sem, *]) rfl ⟨_, _, _, _, _, (by rw [HRX.out]; exact rfl), (by rw [HRX.out]; exact rfl), (by rw [HRX.out]; exact Ss.nil _), (by rw [HRX.out]; exact rfl), HBF.out⟩
set_option maxRecDepth 100000 in
set_option maxHeartbeats 4000000 in
theorem rshole_any (A0 : Option Addr) (n0 c0 : Nat) (B0 : Option Addr) (m0 d0 : Nat) (C0 : Option Addr) (p0 q0 : Nat) (v : En) (s : ByteArray) (w : World) (h3 : Hs w C0 p0 q0 v.holes) : Calls Tryd.prog 24 #[.agg #[.slice A0 n0 c0, .slice B0 m0 d0, .slice C0 p0 q0], .string s] w fun e w' => ∃ x A n c, e = .returned (.tuple #[.agg #[.string x, .slice A n c], .bool (holeF v.holes s.data.toList).isSome]) ∧ Hid (x.data.toList = ((holeF v.holes s.data.toList).getD ho0).name) ∧ Hid (Vs w' A n c ((holeF v.holes s.data.toList).getD ho0).ps) ∧ Below w.heap.size w w' := by
  have B1 := Bk.new 36 w #[.slice A0 n0 c0, .slice B0 m0 d0, .slice C0 p0 q0]
  have B2 : Bk 44 ((w.alloc (.cells #[.slice A0 n0 c0, .slice B0 m0 d0, .slice C0 p0 q0] 36)).alloc (.cells #[.string ⟨#[]⟩, .slice none 0 0] 44)) (w.heap.size + 1) #[.string ⟨#[]⟩, .slice none 0 0] := Bk.at _ (by simp)
  have B1' := B1.alloc (.cells #[.string ⟨#[]⟩, .slice none 0 0] 44)
  have hb0 : Below w.heap.size w ((w.alloc (.cells #[.slice A0 n0 c0, .slice B0 m0 d0, .slice C0 p0 q0] 36)).alloc (.cells #[.string ⟨#[]⟩, .slice none 0 0] 44)) := nbelow_on (below_alloc _) (below_alloc _)
  have HS := Lib.hid h3
  have HL := Lib.hid h3.len
  have HK1 := Lib.hid B1'
  have HK2 := Lib.hid B2
  have HB0 := Lib.hid hb0
  have h47 : p0 ≤ 9223372036854775807 := Nat.le_trans h3.cap h3.top
  obtain ⟨RR, hRR⟩ : ∃ RR, holeF v.holes s.data.toList = RR := ⟨_, rfl⟩
  rw [hRR]
  have HRR := Lib.hid hRR
  clear B1 B2 B1' hb0 h3 hRR
  have e1 := HK1.out.c 2 (v := .slice C0 p0 q0) rfl
  have HS2 := Lib.hid (HS.out.below HB0.out)
  generalize hW : ((w.alloc (.cells #[.slice A0 n0 c0, .slice B0 m0 d0, .slice C0 p0 q0] 36)).alloc (.cells #[.string ⟨#[]⟩, .slice none 0 0] 44)) = W at *
  go_enter Tryd.func24, Tryd.ntmps24
  go_wp2_with fail
  go_loop [6] (fun iv => ∃ k : Nat, k ≤ p0 ∧ iv = .int .i64 (k : Int) ∧ (v.holes.take k).find? (fun h : Ho => h.name == s.data.toList) = none) (fun iv => p0 - (intOf iv).toNat)
  case atStart => exact ⟨0, Nat.zero_le _, rfl, by simp⟩
  case round =>
    obtain ⟨k, hk, rfl, ha⟩ := hrel
    have HA := Lib.hid ha
    clear ha
    by_cases hlt : k < p0
    · have hkl : k < v.holes.length := by rw [HL.out]; exact hlt
      have HKL := Lib.hid hkl
      obtain ⟨g, o, x, B, m, d, rfl, hg, k0, k1, hx, hss⟩ := HS2.out.at_ hlt
      have HX := Lib.hid hx.out
      have HSS := Lib.hid hss.out
      have HG := Lib.hid hg
      have q1 : (k : Int) < p0 := by omega
      clear hx hg hkl hss
      cases hd : decide (s.data.toList = (v.holes.getD k ho0).name) with
      | true =>
        have TB := txt_beq2 HX.out hd
        have HRX : Hid (RR = some (v.holes.getD k ho0)) := HRR.out.symm.trans (find_at HKL.out HA.out (name_beq hd))
        clear hd
        have KZ := HK2.out
        have g0 := KZ.c 0 (v := .string ⟨#[]⟩) rfl
        have f0 := KZ.fz 0
        have g1 := KZ.c 1 (v := .slice none 0 0) rfl
        have f1 := KZ.fz 1
        have M := ((KZ.set 0 (.string x)).set 1 (.slice B m d))
        have r0 := M.c 0 (v := .string x) rfl
        have r1 := M.c 1 (v := .slice B m d) rfl
        have HBF : Hid (Below w.heap.size w ((W.setCell ⟨w.heap.size + 1, 0, none⟩ (.string x)).setCell ⟨w.heap.size + 1, 1, none⟩ (.slice B m d))) := ((HB0.out).setCell (p := ⟨w.heap.size + 1, 0, none⟩) (by show w.heap.size ≤ w.heap.size + 1; omega) _).setCell (p := ⟨w.heap.size + 1, 1, none⟩) (by show w.heap.size ≤ w.heap.size + 1; omega) _
        clear KZ M
        have HSF : Hid (Vs ((W.setCell ⟨w.heap.size + 1, 0, none⟩ (.string x)).setCell ⟨w.heap.size + 1, 1, none⟩ (.slice B m d)) B m d (v.holes.getD k ho0).ps) := by
          obtain ⟨g', o', B', m', d', e', hg', hcs⟩ : ∃ g' o' B' m' d', (some (⟨g, o, none⟩ : Addr) = some ⟨g', o', none⟩) ∧ g' < w.heap.size ∧ (w.cell? ⟨g', o' + k * 2 + 1, none⟩ = some (.slice B' m' d') ∧ Vs w B' m' d' (v.holes.getD k ho0).ps) := by
            obtain ⟨g', o', e', hg', hc⟩ := HS.out.cells (by omega)
            obtain ⟨B', m', d', hh⟩ := hc k hlt
            exact ⟨g', o', B', m', d', e', hg', hh.2.1, hh.2.2⟩
          cases e'
          have e2 := (HB0.out.cell (p := ⟨g, o + k * 2 + 1, none⟩) hg').trans hcs.1
          rw [k1] at e2
          cases e2
          exact hcs.2.below HBF.out
        go_wp2_with fail
        refine bodyPost_ret (v := .tuple #[.agg #[.string x, .slice B m d], .bool true]) (by simp [results, Tryd.results24, go_sem, *]) rfl ⟨_, _, _, _, (by rw [HRX.out]; exact rfl), (by rw [HRX.out]; exact HX.out), (by rw [HRX.out]; exact HSF.out), HBF.out⟩
      | false =>
        have TB := txt_beq2 HX.out hd
        have HFD : Hid ((v.holes.take (k + 1)).find? (fun h : Ho => h.name == s.data.toList) = none) := find_snoc HKL.out HA.out (name_beq hd)
        clear hd
        go_wp2_with fail
        go_round
        case rel => exact ⟨k + 1, by omega, by go_num, HFD.out⟩
        case measure => simp [intOf] <;> omega
    · have hke : k = p0 := by omega
      have HRX : Hid (RR = none) := HRR.out.symm.trans (find_end (by rw [HL.out]; omega) HA.out)
      have q1 : ¬ (k : Int) < p0 := by omega
      clear hke
      have KZ := HK2.out
      have g0 := KZ.c 0 (v := .string ⟨#[]⟩) rfl
      have f0 := KZ.fz 0
      have g1 := KZ.c 1 (v := .slice none 0 0) rfl
      have f1 := KZ.fz 1
      have M := ((KZ.set 0 (.string ⟨#[]⟩)).set 1 (.slice none 0 0))
      have r0 := M.c 0 (v := .string ⟨#[]⟩) rfl
      have r1 := M.c 1 (v := .slice none 0 0) rfl
      have HBF : Hid (Below w.heap.size w ((W.setCell ⟨w.heap.size + 1, 0, none⟩ (.string ⟨#[]⟩)).setCell ⟨w.heap.size + 1, 1, none⟩ (.slice none 0 0))) := ((HB0.out).setCell (p := ⟨w.heap.size + 1, 0, none⟩) (by show w.heap.size ≤ w.heap.size + 1; omega) _).setCell (p := ⟨w.heap.size + 1, 1, none⟩) (by show w.heap.size ≤ w.heap.size + 1; omega) _
      clear KZ M
      go_wp2_with fail
      refine bodyPost_ret (v := .tuple #[.agg #[.string ⟨#[]⟩, .slice none 0 0], .bool false]) (by simp [results, Tryd.results24, go_sem, *]) rfl ⟨_, _, _, _, (by rw [HRX.out]; exact rfl), (by rw [HRX.out]; exact rfl), (by rw [HRX.out]; exact Vs.nil _), HBF.out⟩
end Go.Proofs.YtegognbnphpigaaDoor
