/-
  vars, syms and holes of the reference.
-/
import Derived.Test.YtegognbnphpigaaDoorSoC
import Derived.Test.YtegognbnphpigaaDoorSbRC
namespace Go.Proofs.YtegognbnphpigaaDoor
open Go.RowKit

theorem names_le {α : Type} {l : List α} {k : Nat} (f : α → Txt) (hl : l.length ≤ 100) : ((l.take k).map f).length ≤ 100 := by
  rw [List.length_map, List.length_take]; omega
set_option maxRecDepth 100000 in
set_option maxHeartbeats 4000000 in
theorem rvars_any (A : Option Addr) (n c : Nat) (vs : List Vr) (w : World) (hs : Vs w A n c vs) : Calls Tryd.prog 40 #[.slice A n c] w fun e w' => e = .returned (.int .i64 (varsI vs)) ∧ Below w.heap.size w w' := by
  have HS := Lib.hid hs
  have HL := Lib.hid hs.len
  have h47 : n ≤ 9223372036854775807 := Nat.le_trans hs.cap hs.top
  clear hs
  by_cases hlong : 24 < n
  · have q0 : (24 : Int) < (n : Int) := by omega
    have HR : Hid (varsI vs = 7) := if_pos (by rw [HL.out]; exact hlong)
    clear hlong
    go_enter Tryd.func40, Tryd.ntmps40
    go_wp2_with fail
    go_ret
    exact ⟨nret_int HR.out.symm, Below.refl _ _⟩
  · have q0 : ¬ (24 : Int) < (n : Int) := by omega
    have HR : Hid (varsGo [] vs = varsI vs) := (if_neg (by rw [HL.out]; exact hlong)).symm
    have HN : Hid (vs.length ≤ 100) := by show _ ≤ _; rw [HL.out]; omega
    obtain ⟨R, hR⟩ : ∃ R, varsI vs = R := ⟨_, rfl⟩
    rw [hR] at HR ⊢
    clear hlong hR
    go_enter Tryd.func40, Tryd.ntmps40
    go_wp2_with fail
    go_loopw [3, 4] (fun nv iv wr => ∃ k : Nat, k ≤ n ∧ iv = .int .i64 (k : Int) ∧ varsGo ((vs.take k).map Vr.name) (vs.drop k) = R ∧ wr.ownsRow w.heap.size 9 1 nv ((vs.take k).map Vr.name).length (((vs.take k).map Vr.name).map encStr) ∧ Below w.heap.size w wr) (fun _ iv _ => n - (intOf iv).toNat)
    case atStart => exact ⟨0, Nat.zero_le _, rfl, HR.out, by simpa using row_nil w w.heap.size, Below.refl _ _⟩
    case round =>
      obtain ⟨k, hk, rfl, ha, ho, hb⟩ := hrel
      have HA := Lib.hid ha
      have HB := Lib.hid hb
      have hnl := names_le (k := k) Vr.name HN.out
      obtain ⟨C, q, rfl, hss0⟩ := Ss.of_row rfl ho
      have HO := Lib.hid ho
      have HSN := Lib.hid hss0
      have HNL := Lib.hid hnl
      clear ha hb ho hss0 hnl
      by_cases hlt : k < n
      · have hkl : k < vs.length := by rw [HL.out]; exact hlt
        have HKL := Lib.hid hkl
        obtain ⟨g, o, x, y, rfl, hg, c0, c1, hx, hy⟩ := HS.out.at_ hlt
        have HG := Lib.hid hg
        have HX := Lib.hid hx.out
        have HY := Lib.hid hy.out
        have q1 : (k : Int) < n := by omega
        have hstep := varsGo_at hkl HA.out
        have HST := Lib.hid hstep
        have HMT : Hid (((vs.take (k + 1)).map Vr.name) = ((vs.take k).map Vr.name) ++ [(vs.getD k vr0).name]) := map_take_at Vr.name hkl
        have d0 := (HB.out.cell (p := ⟨g, o + k * 2, none⟩) hg).trans c0
        have C0 := Lib.hid c0
        have d1 := (HB.out.cell (p := ⟨g, o + k * 2 + 1, none⟩) hg).trans c1
        have C1 := Lib.hid c1
        obtain ⟨nm, hnm⟩ : ∃ nm, ((vs.take k).map Vr.name) = nm := ⟨_, rfl⟩
        rw [hnm] at HST HMT HO HSN HNL ⊢
        obtain ⟨v, hv⟩ : ∃ v, vs.getD k vr0 = v := ⟨_, rfl⟩
        rw [hv] at HX HST HMT HY
        clear hx hkl hstep hv hnm hg c0 c1 hy
        cases hv1 : decide (v.name = [118]) with
        | true =>
          have TB : (x.toList == [118]) = true := txt_eq_lit (by rw [HX.out]; exact hv1)
          have hc : nameV v.name = true := by unfold nameV; rw [of_decide_eq_true hv1]; rfl
          have HST2 := HST.out
          rw [if_neg (by rw [hc]; decide)] at HST2
          have HS2 := Lib.hid HST2
          clear hc HST2 hv1
          by_cases hin : v.name ∈ nm
          · have HRR : Hid (R = 4) := by have := HS2.out; rw [if_pos hin] at this; exact this.symm
            have KN := known_any C nm.length q nm x wr HSN.out
            rw [HX.out, decide_eq_true hin] at KN
            clear hin
            go_wp2_with fail
            (refine KN.mono ?_); rintro e wx ⟨rfl, rfl⟩
            go_wp2_with fail
            go_ret
            exact ⟨nret_int HRR.out.symm, HB.out⟩
          · have HST3 := HS2.out
            rw [if_neg hin] at HST3
            have HS4 := Lib.hid HST3
            have KN := known_any C nm.length q nm x wr HSN.out
            rw [HX.out, decide_eq_false hin] at KN
            have HBS := Lib.hid (below_alloc (w := wr) (.cells #[.string x] 9))
            have HOS := Lib.hid (row_below HO.out HBS.out)
            have HBW := Lib.hid (HB.out.trans (HBS.out.mono HB.out.size))
            clear hin HST3
            go_wp2_with fail
            (refine KN.mono ?_); rintro e wx ⟨rfl, rfl⟩
            go_wp2_with (at_builtin; refine wpList_append_txts _ rfl _ _ rfl w.heap.size HBW.out.size _ nm rfl HOS.out _ 1 1 [x.data.toList] rfl (one_txt x) (by have := HNL.out; simp; omega) ?_; intro v2 w5 hr2 hg2 ho2; have HB5 : Hid (Below w.heap.size w w5) := HBW.out.grown hg2 HBW.out.size (fun q hq => row_ge HOS.out hq); rw [HX.out] at hr2; have HR5 := Lib.hid hr2; have f0 := (HB5.out.cell (p := ⟨g, o + k * 2, none⟩) HG.out).trans C0.out; have f1 := (HB5.out.cell (p := ⟨g, o + k * 2 + 1, none⟩) HG.out).trans C1.out; clear hr2 hg2 ho2)
            (refine (rscheck_any y w5).mono ?_); rintro e w6 ⟨rfl, hb⟩
            rw [HY.out]
            have HB6 := Lib.hid (nbelow_on HB5.out hb)
            have HR6 := Lib.hid (row_below HR5.out hb)
            clear hb
            cases hp : sortB v.sort with
            | false =>
              have HRR : Hid (R = 11) := by have := HS4.out; rw [if_pos hp] at this; exact this.symm
              rw [sortI_no hp]
              clear hp
              go_wp2_with fail
              go_ret
              exact ⟨nret_int HRR.out.symm, HB6.out⟩
            | true =>
              have HST5 := HS4.out
              rw [if_neg (by rw [hp]; decide)] at HST5
              have HS9 := Lib.hid HST5
              rw [sortI_yes hp]
              clear hp HST5
              go_wp2_with fail
              go_roundw
              case rel => exact ⟨k + 1, by omega, by go_num, by rw [HMT.out]; exact HS9.out, by rw [HMT.out]; exact HR6.out, HB6.out⟩
              case measure => simp [intOf] <;> omega
        | false =>
          have TB : (x.toList == [118]) = false := txt_eq_lit (by rw [HX.out]; exact hv1)
          have hcv : nameV v.name = coreB v.name := by unfold nameV; rw [beq_eq_false_iff_ne.2 (of_decide_eq_false hv1)]; rfl
          cases hc : coreB v.name with
          | false =>
            have HC := Lib.hid hc
            have HRR : Hid (R = 3) := by have := HST.out; rw [if_pos (by rw [hcv]; exact hc)] at this; exact this.symm
            clear hc hcv hv1
            go_wp2_with fail
            (refine (rcore_any x wr).mono ?_); rintro e w2 ⟨rfl, hb⟩
            rw [HX.out, HC.out, show errI false = 3 from rfl]
            go_wp2_with fail
            go_ret
            exact ⟨nret_int HRR.out.symm, nbelow_on HB.out hb⟩
          | true =>
            have HC := Lib.hid hc
            have HST2 := HST.out
            rw [if_neg (by rw [hcv, hc]; decide)] at HST2
            have HS2 := Lib.hid HST2
            clear hc hcv hv1 HST2
            go_wp2_with fail
            (refine (rcore_any x wr).mono ?_); rintro e w2 ⟨rfl, hb⟩
            rw [HX.out, HC.out, show errI true = 0 from rfl]
            have HB2 := Lib.hid (nbelow_on HB.out hb)
            have HO2 := Lib.hid (row_below HO.out hb)
            have HSN2 := Lib.hid (HSN.out.below hb)
            have e0 := (HB2.out.cell (p := ⟨g, o + k * 2, none⟩) HG.out).trans C0.out
            have e1 := (HB2.out.cell (p := ⟨g, o + k * 2 + 1, none⟩) HG.out).trans C1.out
            clear hb
            by_cases hin : v.name ∈ nm
            · have HRR : Hid (R = 4) := by have := HS2.out; rw [if_pos hin] at this; exact this.symm
              have KN := known_any C nm.length q nm x w2 HSN2.out
              rw [HX.out, decide_eq_true hin] at KN
              clear hin
              go_wp2_with fail
              (refine KN.mono ?_); rintro e wx ⟨rfl, rfl⟩
              go_wp2_with fail
              go_ret
              exact ⟨nret_int HRR.out.symm, HB2.out⟩
            · have HST3 := HS2.out
              rw [if_neg hin] at HST3
              have HS4 := Lib.hid HST3
              have KN := known_any C nm.length q nm x w2 HSN2.out
              rw [HX.out, decide_eq_false hin] at KN
              have HBS := Lib.hid (below_alloc (w := w2) (.cells #[.string x] 9))
              have HOS := Lib.hid (row_below HO2.out HBS.out)
              have HBW := Lib.hid (HB2.out.trans (HBS.out.mono HB2.out.size))
              clear hin HST3
              go_wp2_with fail
              (refine KN.mono ?_); rintro e wx ⟨rfl, rfl⟩
              go_wp2_with (at_builtin; refine wpList_append_txts _ rfl _ _ rfl w.heap.size HBW.out.size _ nm rfl HOS.out _ 1 1 [x.data.toList] rfl (one_txt x) (by have := HNL.out; simp; omega) ?_; intro v2 w5 hr2 hg2 ho2; have HB5 : Hid (Below w.heap.size w w5) := HBW.out.grown hg2 HBW.out.size (fun q hq => row_ge HOS.out hq); rw [HX.out] at hr2; have HR5 := Lib.hid hr2; have f0 := (HB5.out.cell (p := ⟨g, o + k * 2, none⟩) HG.out).trans C0.out; have f1 := (HB5.out.cell (p := ⟨g, o + k * 2 + 1, none⟩) HG.out).trans C1.out; clear hr2 hg2 ho2)
              (refine (rscheck_any y w5).mono ?_); rintro e w6 ⟨rfl, hb⟩
              rw [HY.out]
              have HB6 := Lib.hid (nbelow_on HB5.out hb)
              have HR6 := Lib.hid (row_below HR5.out hb)
              clear hb
              cases hp : sortB v.sort with
              | false =>
                have HRR : Hid (R = 11) := by have := HS4.out; rw [if_pos hp] at this; exact this.symm
                rw [sortI_no hp]
                clear hp
                go_wp2_with fail
                go_ret
                exact ⟨nret_int HRR.out.symm, HB6.out⟩
              | true =>
                have HST5 := HS4.out
                rw [if_neg (by rw [hp]; decide)] at HST5
                have HS9 := Lib.hid HST5
                rw [sortI_yes hp]
                clear hp HST5
                go_wp2_with fail
                go_roundw
                case rel => exact ⟨k + 1, by omega, by go_num, by rw [HMT.out]; exact HS9.out, by rw [HMT.out]; exact HR6.out, HB6.out⟩
                case measure => simp [intOf] <;> omega
      · have hke : k = n := by omega
        have HRR : Hid (0 = R) := varsGo_end (by rw [HL.out]; omega) HA.out
        have q1 : ¬ (k : Int) < n := by omega
        clear hke
        go_wp2_with fail
        go_ret
        exact ⟨nret_int HRR.out, HB.out⟩
set_option maxRecDepth 100000 in
set_option maxHeartbeats 4000000 in
theorem rsyms_any (A : Option Addr) (n c : Nat) (vs : List Sy) (w : World) (hs : Ys w A n c vs) : Calls Tryd.prog 41 #[.slice A n c] w fun e w' => e = .returned (.int .i64 (symsI vs)) ∧ Below w.heap.size w w' := by
  have HS := Lib.hid hs
  have HL := Lib.hid hs.len
  have h47 : n ≤ 9223372036854775807 := Nat.le_trans hs.cap hs.top
  clear hs
  by_cases hlong : 64 < n
  · have q0 : (64 : Int) < (n : Int) := by omega
    have HR : Hid (symsI vs = 7) := if_pos (by rw [HL.out]; exact hlong)
    clear hlong
    go_enter Tryd.func41, Tryd.ntmps41
    go_wp2_with fail
    go_ret
    exact ⟨nret_int HR.out.symm, Below.refl _ _⟩
  · have q0 : ¬ (64 : Int) < (n : Int) := by omega
    have HR : Hid (symsGo [] vs = symsI vs) := (if_neg (by rw [HL.out]; exact hlong)).symm
    have HN : Hid (vs.length ≤ 100) := by show _ ≤ _; rw [HL.out]; omega
    obtain ⟨R, hR⟩ : ∃ R, symsI vs = R := ⟨_, rfl⟩
    rw [hR] at HR ⊢
    clear hlong hR
    go_enter Tryd.func41, Tryd.ntmps41
    go_wp2_with fail
    go_loopw [3, 4] (fun nv iv wr => ∃ k : Nat, k ≤ n ∧ iv = .int .i64 (k : Int) ∧ symsGo ((vs.take k).map Sy.name) (vs.drop k) = R ∧ wr.ownsRow w.heap.size 9 1 nv ((vs.take k).map Sy.name).length (((vs.take k).map Sy.name).map encStr) ∧ Below w.heap.size w wr) (fun _ iv _ => n - (intOf iv).toNat)
    case atStart => exact ⟨0, Nat.zero_le _, rfl, HR.out, by simpa using row_nil w w.heap.size, Below.refl _ _⟩
    case round =>
      obtain ⟨k, hk, rfl, ha, ho, hb⟩ := hrel
      have HA := Lib.hid ha
      have HB := Lib.hid hb
      have hnl := names_le (k := k) Sy.name HN.out
      obtain ⟨C, q, rfl, hss0⟩ := Ss.of_row rfl ho
      have HO := Lib.hid ho
      have HSN := Lib.hid hss0
      have HNL := Lib.hid hnl
      clear ha hb ho hss0 hnl
      by_cases hlt : k < n
      · have hkl : k < vs.length := by rw [HL.out]; exact hlt
        have HKL := Lib.hid hkl
        obtain ⟨g, o, x, y, B, m, d, rfl, hg, c0, c1, c2, hx, hy, hss⟩ := HS.out.at_ hlt
        have HG := Lib.hid hg
        have HX := Lib.hid hx.out
        have HY := Lib.hid hy.out
        have HSS := Lib.hid (hss.out.below HB.out)
        have q1 : (k : Int) < n := by omega
        have hstep := symsGo_at hkl HA.out
        have HST := Lib.hid hstep
        have HMT : Hid (((vs.take (k + 1)).map Sy.name) = ((vs.take k).map Sy.name) ++ [(vs.getD k sy0).name]) := map_take_at Sy.name hkl
        have d0 := (HB.out.cell (p := ⟨g, o + k * 3, none⟩) hg).trans c0
        have C0 := Lib.hid c0
        have d1 := (HB.out.cell (p := ⟨g, o + k * 3 + 1, none⟩) hg).trans c1
        have C1 := Lib.hid c1
        have d2 := (HB.out.cell (p := ⟨g, o + k * 3 + 2, none⟩) hg).trans c2
        have C2 := Lib.hid c2
        obtain ⟨nm, hnm⟩ : ∃ nm, ((vs.take k).map Sy.name) = nm := ⟨_, rfl⟩
        rw [hnm] at HST HMT HO HSN HNL ⊢
        obtain ⟨v, hv⟩ : ∃ v, vs.getD k sy0 = v := ⟨_, rfl⟩
        rw [hv] at HX HST HMT HY HSS
        clear hx hkl hstep hv hnm hg c0 c1 c2 hy hss
        by_cases hc : symI v ≠ 0
        · obtain ⟨r, hr⟩ : ∃ r, symI v = r := ⟨_, rfl⟩
          have HC := Lib.hid hr
          have HRR : Hid (R = r) := by have := HST.out; rw [if_pos hc, hr] at this; exact this.symm
          rw [hr] at hc
          have z0 := zero_eq hc
          have z1 := zero_ne hc
          clear hc hr
          go_wp2_with fail
          (refine (rsym_any x y B m d v.args wr HSS.out).mono ?_); rintro e w2 ⟨rfl, hb⟩
          rw [HX.out, HY.out, show (⟨v.name, v.args, v.res⟩ : Sy) = v from rfl, HC.out]
          go_wp2_with fail
          go_ret
          exact ⟨nret_int HRR.out.symm, nbelow_on HB.out hb⟩
        · have hc : symI v = 0 := by omega
          have HC := Lib.hid hc
          have HST2 := HST.out
          rw [if_neg (by rw [hc]; decide)] at HST2
          have HS2 := Lib.hid HST2
          clear hc HST2
          go_wp2_with fail
          (refine (rsym_any x y B m d v.args wr HSS.out).mono ?_); rintro e w2 ⟨rfl, hb⟩
          rw [HX.out, HY.out, show (⟨v.name, v.args, v.res⟩ : Sy) = v from rfl, HC.out]
          have HB2 := Lib.hid (nbelow_on HB.out hb)
          have HO2 := Lib.hid (row_below HO.out hb)
          have HSN2 := Lib.hid (HSN.out.below hb)
          have e0 := (HB2.out.cell (p := ⟨g, o + k * 3, none⟩) HG.out).trans C0.out
          have e1 := (HB2.out.cell (p := ⟨g, o + k * 3 + 1, none⟩) HG.out).trans C1.out
          have e2 := (HB2.out.cell (p := ⟨g, o + k * 3 + 2, none⟩) HG.out).trans C2.out
          clear hb
          by_cases hin : v.name ∈ nm
          · have HRR : Hid (R = 4) := by have := HS2.out; rw [if_pos hin] at this; exact this.symm
            have KN := known_any C nm.length q nm x w2 HSN2.out
            rw [HX.out, decide_eq_true hin] at KN
            clear hin
            go_wp2_with fail
            (refine KN.mono ?_); rintro e wx ⟨rfl, rfl⟩
            go_wp2_with fail
            go_ret
            exact ⟨nret_int HRR.out.symm, HB2.out⟩
          · have HST3 := HS2.out
            rw [if_neg hin] at HST3
            have HS4 := Lib.hid HST3
            have KN := known_any C nm.length q nm x w2 HSN2.out
            rw [HX.out, decide_eq_false hin] at KN
            have HBS := Lib.hid (below_alloc (w := w2) (.cells #[.string x] 9))
            have HOS := Lib.hid (row_below HO2.out HBS.out)
            have HBW := Lib.hid (HB2.out.trans (HBS.out.mono HB2.out.size))
            clear hin HST3
            go_wp2_with fail
            (refine KN.mono ?_); rintro e wx ⟨rfl, rfl⟩
            go_wp2_with (at_builtin; refine wpList_append_txts _ rfl _ _ rfl w.heap.size HBW.out.size _ nm rfl HOS.out _ 1 1 [x.data.toList] rfl (one_txt x) (by have := HNL.out; simp; omega) ?_; intro v2 w5 hr2 hg2 ho2; have HB5 : Hid (Below w.heap.size w w5) := HBW.out.grown hg2 HBW.out.size (fun q hq => row_ge HOS.out hq); rw [HX.out] at hr2; have HR5 := Lib.hid hr2; have f0 := (HB5.out.cell (p := ⟨g, o + k * 3, none⟩) HG.out).trans C0.out; have f1 := (HB5.out.cell (p := ⟨g, o + k * 3 + 1, none⟩) HG.out).trans C1.out; have f2 := (HB5.out.cell (p := ⟨g, o + k * 3 + 2, none⟩) HG.out).trans C2.out; clear hr2 hg2 ho2)
            have HS9 := HS4
            go_roundw
            case rel => exact ⟨k + 1, by omega, by go_num, by rw [HMT.out]; exact HS9.out, by rw [HMT.out]; exact HR5.out, HB5.out⟩
            case measure => simp [intOf] <;> omega
      · have hke : k = n := by omega
        have HRR : Hid (0 = R) := symsGo_end (by rw [HL.out]; omega) HA.out
        have q1 : ¬ (k : Int) < n := by omega
        clear hke
        go_wp2_with fail
        go_ret
        exact ⟨nret_int HRR.out, HB.out⟩
set_option maxRecDepth 100000 in
set_option maxHeartbeats 4000000 in
theorem rholes_any (A : Option Addr) (n c : Nat) (vs : List Ho) (w : World) (hs : Hs w A n c vs) : Calls Tryd.prog 42 #[.slice A n c] w fun e w' => e = .returned (.int .i64 (holesI vs)) ∧ Below w.heap.size w w' := by
  have HS := Lib.hid hs
  have HL := Lib.hid hs.len
  have h47 : n ≤ 9223372036854775807 := Nat.le_trans hs.cap hs.top
  clear hs
  by_cases hlong : 40 < n
  · have q0 : (40 : Int) < (n : Int) := by omega
    have HR : Hid (holesI vs = 7) := if_pos (by rw [HL.out]; exact hlong)
    clear hlong
    go_enter Tryd.func42, Tryd.ntmps42
    go_wp2_with fail
    go_ret
    exact ⟨nret_int HR.out.symm, Below.refl _ _⟩
  · have q0 : ¬ (40 : Int) < (n : Int) := by omega
    have HR : Hid (holesGo [] vs = holesI vs) := (if_neg (by rw [HL.out]; exact hlong)).symm
    have HN : Hid (vs.length ≤ 100) := by show _ ≤ _; rw [HL.out]; omega
    obtain ⟨R, hR⟩ : ∃ R, holesI vs = R := ⟨_, rfl⟩
    rw [hR] at HR ⊢
    clear hlong hR
    go_enter Tryd.func42, Tryd.ntmps42
    go_wp2_with fail
    go_loopw [3, 4] (fun nv iv wr => ∃ k : Nat, k ≤ n ∧ iv = .int .i64 (k : Int) ∧ holesGo ((vs.take k).map Ho.name) (vs.drop k) = R ∧ wr.ownsRow w.heap.size 9 1 nv ((vs.take k).map Ho.name).length (((vs.take k).map Ho.name).map encStr) ∧ Below w.heap.size w wr) (fun _ iv _ => n - (intOf iv).toNat)
    case atStart => exact ⟨0, Nat.zero_le _, rfl, HR.out, by simpa using row_nil w w.heap.size, Below.refl _ _⟩
    case round =>
      obtain ⟨k, hk, rfl, ha, ho, hb⟩ := hrel
      have HA := Lib.hid ha
      have HB := Lib.hid hb
      have hnl := names_le (k := k) Ho.name HN.out
      obtain ⟨C, q, rfl, hss0⟩ := Ss.of_row rfl ho
      have HO := Lib.hid ho
      have HSN := Lib.hid hss0
      have HNL := Lib.hid hnl
      clear ha hb ho hss0 hnl
      by_cases hlt : k < n
      · have hkl : k < vs.length := by rw [HL.out]; exact hlt
        have HKL := Lib.hid hkl
        obtain ⟨g, o, x, B, m, d, rfl, hg, c0, c1, hx, hss⟩ := HS.out.at_ hlt
        have HG := Lib.hid hg
        have HX := Lib.hid hx.out
        have HSS := Lib.hid (hss.out.below HB.out)
        have HSS0 := Lib.hid hss.out
        have q1 : (k : Int) < n := by omega
        have hstep := holesGo_at hkl HA.out
        have HST := Lib.hid hstep
        have HMT : Hid (((vs.take (k + 1)).map Ho.name) = ((vs.take k).map Ho.name) ++ [(vs.getD k ho0).name]) := map_take_at Ho.name hkl
        have d0 := (HB.out.cell (p := ⟨g, o + k * 2, none⟩) hg).trans c0
        have C0 := Lib.hid c0
        have d1 := (HB.out.cell (p := ⟨g, o + k * 2 + 1, none⟩) hg).trans c1
        have C1 := Lib.hid c1
        obtain ⟨nm, hnm⟩ : ∃ nm, ((vs.take k).map Ho.name) = nm := ⟨_, rfl⟩
        rw [hnm] at HST HMT HO HSN HNL ⊢
        obtain ⟨v, hv⟩ : ∃ v, vs.getD k ho0 = v := ⟨_, rfl⟩
        rw [hv] at HX HST HMT HSS HSS0
        clear hx hkl hstep hv hnm hg c0 c1 hss
        have VS0 : ∀ W, Below w.heap.size w W → Vs W B m d v.ps := fun W hW => HSS0.out.below hW
        cases hc : coreB v.name with
        | false =>
          have HC := Lib.hid hc
          have HRR : Hid (R = 3) := by have := HST.out; rw [if_pos hc] at this; exact this.symm
          clear hc
          go_wp2_with fail
          (refine (rcore_any x wr).mono ?_); rintro e w2 ⟨rfl, hb⟩
          rw [HX.out, HC.out, show errI false = 3 from rfl]
          go_wp2_with fail
          go_ret
          exact ⟨nret_int HRR.out.symm, nbelow_on HB.out hb⟩
        | true =>
          have HC := Lib.hid hc
          have HST2 := HST.out
          rw [if_neg (by rw [hc]; decide)] at HST2
          have HS2 := Lib.hid HST2
          clear hc HST2
          go_wp2_with fail
          (refine (rcore_any x wr).mono ?_); rintro e w2 ⟨rfl, hb⟩
          rw [HX.out, HC.out, show errI true = 0 from rfl]
          have HB2 := Lib.hid (nbelow_on HB.out hb)
          have HO2 := Lib.hid (row_below HO.out hb)
          have HSN2 := Lib.hid (HSN.out.below hb)
          have e0 := (HB2.out.cell (p := ⟨g, o + k * 2, none⟩) HG.out).trans C0.out
          have e1 := (HB2.out.cell (p := ⟨g, o + k * 2 + 1, none⟩) HG.out).trans C1.out
          clear hb
          by_cases hin : v.name ∈ nm
          · have HRR : Hid (R = 4) := by have := HS2.out; rw [if_pos hin] at this; exact this.symm
            have KN := known_any C nm.length q nm x w2 HSN2.out
            rw [HX.out, decide_eq_true hin] at KN
            clear hin
            go_wp2_with fail
            (refine KN.mono ?_); rintro e wx ⟨rfl, rfl⟩
            go_wp2_with fail
            go_ret
            exact ⟨nret_int HRR.out.symm, HB2.out⟩
          · have HST3 := HS2.out
            rw [if_neg hin] at HST3
            have HS4 := Lib.hid HST3
            have KN := known_any C nm.length q nm x w2 HSN2.out
            rw [HX.out, decide_eq_false hin] at KN
            have HBS := Lib.hid (below_alloc (w := w2) (.cells #[.string x] 9))
            have HOS := Lib.hid (row_below HO2.out HBS.out)
            have HBW := Lib.hid (HB2.out.trans (HBS.out.mono HB2.out.size))
            have HML2 : Hid (v.ps.length = m) := HSS.out.len
            clear hin HST3
            by_cases hm0 : m = 0
            · have HRR : Hid (R = 13) := by have := HS4.out; rw [if_pos (by rw [HML2.out]; exact hm0)] at this; exact this.symm
              have z0 : ((m : Int) == 0) = true := by rw [hm0]; rfl
              clear hm0
              go_wp2_with fail
              (refine KN.mono ?_); rintro e wx ⟨rfl, rfl⟩
              go_wp2_with (at_builtin; refine wpList_append_txts _ rfl _ _ rfl w.heap.size HBW.out.size _ nm rfl HOS.out _ 1 1 [x.data.toList] rfl (one_txt x) (by have := HNL.out; simp; omega) ?_; intro v2 w5 hr2 hg2 ho2; have HB5 : Hid (Below w.heap.size w w5) := HBW.out.grown hg2 HBW.out.size (fun q hq => row_ge HOS.out hq); rw [HX.out] at hr2; have HR5 := Lib.hid hr2; have f0 := (HB5.out.cell (p := ⟨g, o + k * 2, none⟩) HG.out).trans C0.out; have f1 := (HB5.out.cell (p := ⟨g, o + k * 2 + 1, none⟩) HG.out).trans C1.out; clear hr2 hg2 ho2)
              go_ret
              exact ⟨nret_int HRR.out.symm, HB5.out⟩
            · have HST5 := HS4.out
              rw [if_neg (by rw [HML2.out]; exact hm0)] at HST5
              have HS6 := Lib.hid HST5
              have z0 : ((m : Int) == 0) = false := beq_eq_false_iff_ne.2 (by omega)
              clear hm0 HST5
              by_cases hc2 : varsI v.ps = 0
              · have HC2 := Lib.hid hc2
                have HST7 := HS6.out
                rw [if_neg (by rw [hc2]; decide)] at HST7
                have HS9 := Lib.hid HST7
                clear hc2 HST7
                go_wp2_with fail
                (refine KN.mono ?_); rintro e wx ⟨rfl, rfl⟩
                go_wp2_with (at_builtin; refine wpList_append_txts _ rfl _ _ rfl w.heap.size HBW.out.size _ nm rfl HOS.out _ 1 1 [x.data.toList] rfl (one_txt x) (by have := HNL.out; simp; omega) ?_; intro v2 w5 hr2 hg2 ho2; have HB5 : Hid (Below w.heap.size w w5) := HBW.out.grown hg2 HBW.out.size (fun q hq => row_ge HOS.out hq); rw [HX.out] at hr2; have HR5 := Lib.hid hr2; have f0 := (HB5.out.cell (p := ⟨g, o + k * 2, none⟩) HG.out).trans C0.out; have f1 := (HB5.out.cell (p := ⟨g, o + k * 2 + 1, none⟩) HG.out).trans C1.out; clear hr2 hg2 ho2)
                have hv5 : Vs w5 B m d v.ps := VS0 w5 HB5.out
                (refine (rvars_any B m d v.ps w5 hv5).mono ?_); rintro e w6 ⟨rfl, hb⟩
                rw [HC2.out]
                have HB6 := Lib.hid (nbelow_on HB5.out hb)
                have HR6 := Lib.hid (row_below HR5.out hb)
                clear hb
                go_wp2_with fail
                go_roundw
                case rel => exact ⟨k + 1, by omega, by go_num, by rw [HMT.out]; exact HS9.out, by rw [HMT.out]; exact HR6.out, HB6.out⟩
                case measure => simp [intOf] <;> omega
              · obtain ⟨r, hr⟩ : ∃ r, varsI v.ps = r := ⟨_, rfl⟩
                have HC2 := Lib.hid hr
                have HRR : Hid (R = r) := by have := HS6.out; rw [if_pos hc2, hr] at this; exact this.symm
                rw [hr] at hc2
                have y0 := zero_eq hc2
                have y1 := zero_ne hc2
                clear hc2 hr
                go_wp2_with fail
                (refine KN.mono ?_); rintro e wx ⟨rfl, rfl⟩
                go_wp2_with (at_builtin; refine wpList_append_txts _ rfl _ _ rfl w.heap.size HBW.out.size _ nm rfl HOS.out _ 1 1 [x.data.toList] rfl (one_txt x) (by have := HNL.out; simp; omega) ?_; intro v2 w5 hr2 hg2 ho2; have HB5 : Hid (Below w.heap.size w w5) := HBW.out.grown hg2 HBW.out.size (fun q hq => row_ge HOS.out hq); rw [HX.out] at hr2; have HR5 := Lib.hid hr2; have f0 := (HB5.out.cell (p := ⟨g, o + k * 2, none⟩) HG.out).trans C0.out; have f1 := (HB5.out.cell (p := ⟨g, o + k * 2 + 1, none⟩) HG.out).trans C1.out; clear hr2 hg2 ho2)
                have hv5 : Vs w5 B m d v.ps := VS0 w5 HB5.out
                (refine (rvars_any B m d v.ps w5 hv5).mono ?_); rintro e w6 ⟨rfl, hb⟩
                rw [HC2.out]
                have HB6 := Lib.hid (nbelow_on HB5.out hb)
                clear hb
                go_wp2_with fail
                go_ret
                exact ⟨nret_int HRR.out.symm, HB6.out⟩
      · have hke : k = n := by omega
        have HRR : Hid (0 = R) := holesGo_end (by rw [HL.out]; omega) HA.out
        have q1 : ¬ (k : Int) < n := by omega
        clear hke
        go_wp2_with fail
        go_ret
        exact ⟨nret_int HRR.out, HB.out⟩
end Go.Proofs.YtegognbnphpigaaDoor
