/-
  checkVars, checkSyms and checkHoles of sort.
-/
import Derived.Test.YtegognbnphpigaaDoorSoB
namespace Go.Proofs.YtegognbnphpigaaDoor
open Go.RowKit

theorem Bk.grown {T : TypeId} {w w' : World} {b r : Nat} {l : Array Value} (h : Bk T w b l) (hg : w.grownBy w' (some r)) (hne : b ≠ r) : Bk T w' b l :=
  (hg.block _ h.lt (fun e => hne (Option.some.inj e))).trans h
theorem ne_lt {a b : Nat} (h : a < b) : b ≠ a := by omega
theorem zero_eq {r : Int} (h : r ≠ 0) : (r == 0) = false := beq_eq_false_iff_ne.2 h
theorem zero_ne {r : Int} (h : r ≠ 0) : (r != 0) = true := by rw [bne, zero_eq h]; rfl
theorem names_len {α : Type} {l : List α} {k : Nat} (f : α → Txt) (h : k < l.length) (hl : l.length ≤ 100) : ((l.take k).map f).length < maxLen := by
  rw [List.length_map, List.length_take]; unfold maxLen; omega
theorem getD_mem_vr {l : List Vr} {k : Nat} (hk : k < l.length) : l.getD k vr0 ∈ l := by
  have : l.getD k vr0 = l[k] := by simp [List.getD, hk]
  rw [this]; exact List.getElem_mem _
theorem getD_mem_sy {l : List Sy} {k : Nat} (hk : k < l.length) : l.getD k sy0 ∈ l := by
  have : l.getD k sy0 = l[k] := by simp [List.getD, hk]
  rw [this]; exact List.getElem_mem _
theorem getD_mem_ho {l : List Ho} {k : Nat} (hk : k < l.length) : l.getD k ho0 ∈ l := by
  have : l.getD k ho0 = l[k] := by simp [List.getD, hk]
  rw [this]; exact List.getElem_mem _
set_option maxRecDepth 100000 in
set_option maxHeartbeats 4000000 in
theorem checkvars_any (A : Option Addr) (n c : Nat) (vs : List Vr) (w : World) (henv : Env w) (hs : Vs w A n c vs) (hfit : ∀ x ∈ vs, x.name.length ≤ maxLen) : Calls Tryd.prog 37 #[.slice A n c] w fun e w' => e = .returned (.int .i64 (varsI vs)) ∧ Below w.heap.size w w' := by
  have HS := Lib.hid hs
  have HL := Lib.hid hs.len
  have HE := Lib.hid henv
  have HF := Lib.hid hfit
  have h47 : n ≤ 9223372036854775807 := Nat.le_trans hs.cap hs.top
  clear hs henv hfit
  by_cases hlong : 24 < n
  · have q0 : (24 : Int) < (n : Int) := by omega
    have HR : Hid (varsI vs = 7) := if_pos (by rw [HL.out]; exact hlong)
    clear hlong
    go_enter Tryd.func37, Tryd.ntmps37
    go_wp2_with fail
    go_ret
    exact ⟨nret_int HR.out.symm, Below.refl _ _⟩
  · have q0 : ¬ (24 : Int) < (n : Int) := by omega
    have HR : Hid (varsGo [] vs = varsI vs) := (if_neg (by rw [HL.out]; exact hlong)).symm
    have HN : Hid (vs.length ≤ 100) := by show _ ≤ _; rw [HL.out]; omega
    obtain ⟨R, hR⟩ : ∃ R, varsI vs = R := ⟨_, rfl⟩
    rw [hR] at HR ⊢
    have RM := run_makeMap (P := Tryd.prog) 89 w
    clear hlong hR
    go_enter Tryd.func37, Tryd.ntmps37
    go_wp2_with fail
    clear RM
    go_loopw [13] (fun iv wr => ∃ k : Nat, k ≤ n ∧ iv = .int .i64 (k : Int) ∧ varsGo ((vs.take k).map Vr.name) (vs.drop k) = R ∧ Ms wr w.heap.size ((vs.take k).map Vr.name) ∧ Below w.heap.size w wr) (fun iv _ => n - (intOf iv).toNat)
    case atStart => exact ⟨0, Nat.zero_le _, rfl, HR.out, Ms.made w, below_alloc _⟩
    case round =>
      obtain ⟨k, hk, rfl, ha, hm, hb⟩ := hrel
      have HA := Lib.hid ha
      have HM := Lib.hid hm
      have HB := Lib.hid hb
      have hsr := HS.out.below hb
      clear ha hm hb
      by_cases hlt : k < n
      · have hkl : k < vs.length := by rw [HL.out]; exact hlt
        have HKL := Lib.hid hkl
        obtain ⟨g, o, x, y, rfl, hg, c0, c1, hx, hy⟩ := hsr.at_ hlt
        have HX := Lib.hid hx.out
        have HY := Lib.hid hy.out
        have q1 : (k : Int) < n := by omega
        have hxs : x.size ≤ maxLen := by rw [size_list, HX.out]; exact HF.out _ (getD_mem_vr hkl)
        have HXS := Lib.hid hxs
        have hstep := varsGo_at hkl HA.out
        have HST := Lib.hid hstep
        have HMT : Hid ((vs.take (k + 1)).map Vr.name = (vs.take k).map Vr.name ++ [(vs.getD k vr0).name]) := map_take_at Vr.name hkl
        have BK := Lib.hid (Bk.new 62 wr #[.string x, .string y])
        have HBA := Lib.hid (nbelow_on HB.out (below_alloc (.cells #[.string x, .string y] 62)))
        have HML : Hid (w.heap.size < wr.heap.size) := HM.out.lt
        have HMA := Lib.hid (HM.out.keep (below_alloc (.cells #[.string x, .string y] 62)))

        obtain ⟨v, hv⟩ : ∃ v, vs.getD k vr0 = v := ⟨_, rfl⟩
        rw [hv] at HX HST HMT HY
        clear hx hxs hkl hstep hsr hv hy
        cases hc : nameV v.name with
        | false =>
          have HC := Lib.hid hc
          have HRR : Hid (R = 3) := by have := HST.out; rw [if_pos hc] at this; exact this.symm
          clear hc
          go_wp2_with fail
          (refine (isvar_any x _ (HE.out.below HBA.out)).mono ?_); rintro e w2 ⟨rfl, hb⟩
          rw [HX.out, HC.out]
          go_wp2_with fail
          go_ret
          exact ⟨nret_int HRR.out.symm, nbelow_on HBA.out hb⟩
        | true =>
          have HC := Lib.hid hc
          have HST2 := HST.out
          rw [if_neg (by rw [hc]; decide)] at HST2
          have HS2 := Lib.hid HST2
          clear hc HST2
          go_wp2_with fail
          (refine (isvar_any x _ (HE.out.below HBA.out)).mono ?_); rintro e w2 ⟨rfl, hb⟩
          rw [HX.out, HC.out]
          have BK2 := Lib.hid (BK.out.below hb)
          have HM2 := Lib.hid (HMA.out.keep hb)
          have HB2 := Lib.hid (nbelow_on HBA.out hb)
          have e0 := BK2.out.c 0 (v := .string x) rfl
          have RL := HM2.out.look x HXS.out
          rw [HX.out] at RL
          clear hb
          by_cases hin : v.name ∈ (vs.take k).map Vr.name
          · have HRR : Hid (R = 4) := by have := HS2.out; rw [if_pos hin] at this; exact this.symm
            rw [decide_eq_true hin] at RL
            clear hin
            go_wp2_with fail
            go_ret
            exact ⟨nret_int HRR.out.symm, HB2.out⟩
          · have HST3 := HS2.out
            rw [if_neg hin] at HST3
            have HS4 := Lib.hid HST3
            rw [decide_eq_false hin] at RL
            obtain ⟨w3, RU, hm3, hg3⟩ := HM2.out.put (names_len Vr.name HKL.out HN.out) x HXS.out
            rw [HX.out, ← HMT.out] at hm3
            have HM3 := Lib.hid hm3
            have BK3 := Lib.hid (BK2.out.grown hg3 (ne_lt HML.out))
            have HB3 : Hid (Below w.heap.size w w3) := HB2.out.grown hg3 HB2.out.size (fun q hq => by cases hq; exact Nat.le_refl _)
            have e1 := BK3.out.c 1 (v := .string y) rfl
            clear hin HST3 hm3 hg3
            cases hp : sortB v.sort with
            | false =>
              have HP := Lib.hid hp
              have HRR : Hid (R = 11) := by have := HS4.out; rw [if_pos hp] at this; exact this.symm
              clear hp
              go_wp2_with fail
              (refine (check_any y w3 (HE.out.below HB3.out)).mono ?_); rintro e w4 ⟨rfl, hb⟩
              rw [HY.out, sortI_no HP.out]
              have HB4 := Lib.hid (nbelow_on HB3.out hb)
              clear hb
              go_wp2_with fail
              go_ret
              exact ⟨nret_int HRR.out.symm, HB4.out⟩
            | true =>
              have HP := Lib.hid hp
              have HST5 := HS4.out
              rw [if_neg (by rw [hp]; decide)] at HST5
              have HS9 := Lib.hid HST5
              clear hp HST5
              go_wp2_with fail
              (refine (check_any y w3 (HE.out.below HB3.out)).mono ?_); rintro e w4 ⟨rfl, hb⟩
              rw [HY.out, sortI_yes HP.out]
              have HB4 := Lib.hid (nbelow_on HB3.out hb)
              have HM4 := Lib.hid (HM3.out.keep hb)
              clear hb
              go_wp2_with fail
              go_roundw
              case rel => exact ⟨k + 1, by omega, by go_num, by rw [HMT.out]; exact HS9.out, HM4.out, HB4.out⟩
              case measure => simp [intOf] <;> omega
      · have hke : k = n := by omega
        have HRR : Hid (0 = R) := varsGo_end (by rw [HL.out]; omega) HA.out
        have q1 : ¬ (k : Int) < n := by omega
        clear hke hsr
        go_wp2_with fail
        go_ret
        exact ⟨nret_int HRR.out, HB.out⟩
set_option maxRecDepth 100000 in
set_option maxHeartbeats 4000000 in
theorem checksyms_any (A : Option Addr) (n c : Nat) (vs : List Sy) (w : World) (henv : Env w) (hs : Ys w A n c vs) (hfit : ∀ x ∈ vs, x.name.length ≤ maxLen) : Calls Tryd.prog 38 #[.slice A n c] w fun e w' => e = .returned (.int .i64 (symsI vs)) ∧ Below w.heap.size w w' := by
  have HS := Lib.hid hs
  have HL := Lib.hid hs.len
  have HE := Lib.hid henv
  have HF := Lib.hid hfit
  have h47 : n ≤ 9223372036854775807 := Nat.le_trans hs.cap hs.top
  clear hs henv hfit
  by_cases hlong : 64 < n
  · have q0 : (64 : Int) < (n : Int) := by omega
    have HR : Hid (symsI vs = 7) := if_pos (by rw [HL.out]; exact hlong)
    clear hlong
    go_enter Tryd.func38, Tryd.ntmps38
    go_wp2_with fail
    go_ret
    exact ⟨nret_int HR.out.symm, Below.refl _ _⟩
  · have q0 : ¬ (64 : Int) < (n : Int) := by omega
    have HR : Hid (symsGo [] vs = symsI vs) := (if_neg (by rw [HL.out]; exact hlong)).symm
    have HN : Hid (vs.length ≤ 100) := by show _ ≤ _; rw [HL.out]; omega
    obtain ⟨R, hR⟩ : ∃ R, symsI vs = R := ⟨_, rfl⟩
    rw [hR] at HR ⊢
    have RM := run_makeMap (P := Tryd.prog) 89 w
    clear hlong hR
    go_enter Tryd.func38, Tryd.ntmps38
    go_wp2_with fail
    clear RM
    go_loopw [13] (fun iv wr => ∃ k : Nat, k ≤ n ∧ iv = .int .i64 (k : Int) ∧ symsGo ((vs.take k).map Sy.name) (vs.drop k) = R ∧ Ms wr w.heap.size ((vs.take k).map Sy.name) ∧ Below w.heap.size w wr) (fun iv _ => n - (intOf iv).toNat)
    case atStart => exact ⟨0, Nat.zero_le _, rfl, HR.out, Ms.made w, below_alloc _⟩
    case round =>
      obtain ⟨k, hk, rfl, ha, hm, hb⟩ := hrel
      have HA := Lib.hid ha
      have HM := Lib.hid hm
      have HB := Lib.hid hb
      have hsr := HS.out.below hb
      clear ha hm hb
      by_cases hlt : k < n
      · have hkl : k < vs.length := by rw [HL.out]; exact hlt
        have HKL := Lib.hid hkl
        obtain ⟨g, o, x, y, B, m, d, rfl, hg, c0, c1, c2, hx, hy, hss⟩ := hsr.at_ hlt
        have HX := Lib.hid hx.out
        have HY := Lib.hid hy.out
        have HSS := Lib.hid hss.out
        have q1 : (k : Int) < n := by omega
        have hxs : x.size ≤ maxLen := by rw [size_list, HX.out]; exact HF.out _ (getD_mem_sy hkl)
        have HXS := Lib.hid hxs
        have hstep := symsGo_at hkl HA.out
        have HST := Lib.hid hstep
        have HMT : Hid ((vs.take (k + 1)).map Sy.name = (vs.take k).map Sy.name ++ [(vs.getD k sy0).name]) := map_take_at Sy.name hkl
        have BK := Lib.hid (Bk.new 25 wr #[.string x, .slice B m d, .string y])
        have HBA := Lib.hid (nbelow_on HB.out (below_alloc (.cells #[.string x, .slice B m d, .string y] 25)))
        have HML : Hid (w.heap.size < wr.heap.size) := HM.out.lt
        have HMA := Lib.hid (HM.out.keep (below_alloc (.cells #[.string x, .slice B m d, .string y] 25)))
        have HSA := Lib.hid (HSS.out.below (below_alloc (.cells #[.string x, .slice B m d, .string y] 25)))
        obtain ⟨v, hv⟩ : ∃ v, vs.getD k sy0 = v := ⟨_, rfl⟩
        rw [hv] at HX HST HMT HY HSS HSA
        clear hx hxs hkl hstep hsr hv hy hss
        by_cases hc : symI v ≠ 0
        · obtain ⟨r, hr⟩ : ∃ r, symI v = r := ⟨_, rfl⟩
          have HC := Lib.hid hr
          have HRR : Hid (R = r) := by have := HST.out; rw [if_pos hc, hr] at this; exact this.symm
          rw [hr] at hc
          have z0 := zero_eq hc
          have z1 := zero_ne hc
          clear hc hr
          go_wp2_with fail
          (refine (sym_any x y B m d v.args _ (HE.out.below HBA.out) HSA.out).mono ?_); rintro e w2 ⟨rfl, hb⟩
          rw [HX.out, HY.out, show (⟨v.name, v.args, v.res⟩ : Sy) = v from rfl, HC.out]
          go_wp2_with fail
          go_ret
          exact ⟨nret_int HRR.out.symm, nbelow_on HBA.out hb⟩
        · have hc : symI v = 0 := by omega
          have HC := Lib.hid hc
          have HST2 := HST.out
          rw [if_neg (by rw [hc]; decide)] at HST2
          have HS2 := Lib.hid HST2
          clear hc HST2
          go_wp2_with fail
          (refine (sym_any x y B m d v.args _ (HE.out.below HBA.out) HSA.out).mono ?_); rintro e w2 ⟨rfl, hb⟩
          rw [HX.out, HY.out, show (⟨v.name, v.args, v.res⟩ : Sy) = v from rfl, HC.out]
          have BK2 := Lib.hid (BK.out.below hb)
          have HM2 := Lib.hid (HMA.out.keep hb)
          have HB2 := Lib.hid (nbelow_on HBA.out hb)
          have e0 := BK2.out.c 0 (v := .string x) rfl
          have HS3 := Lib.hid (HSA.out.below hb)
          have RL := HM2.out.look x HXS.out
          rw [HX.out] at RL
          clear hb
          by_cases hin : v.name ∈ (vs.take k).map Sy.name
          · have HRR : Hid (R = 4) := by have := HS2.out; rw [if_pos hin] at this; exact this.symm
            rw [decide_eq_true hin] at RL
            clear hin
            go_wp2_with fail
            go_ret
            exact ⟨nret_int HRR.out.symm, HB2.out⟩
          · have HST3 := HS2.out
            rw [if_neg hin] at HST3
            have HS4 := Lib.hid HST3
            rw [decide_eq_false hin] at RL
            obtain ⟨w3, RU, hm3, hg3⟩ := HM2.out.put (names_len Sy.name HKL.out HN.out) x HXS.out
            rw [HX.out, ← HMT.out] at hm3
            have HM3 := Lib.hid hm3
            have BK3 := Lib.hid (BK2.out.grown hg3 (ne_lt HML.out))
            have HB3 : Hid (Below w.heap.size w w3) := HB2.out.grown hg3 HB2.out.size (fun q hq => by cases hq; exact Nat.le_refl _)
            have HS9 := HS4
            clear hin HST3 hm3 hg3
            go_wp2_with fail
            go_roundw
            case rel => exact ⟨k + 1, by omega, by go_num, by rw [HMT.out]; exact HS9.out, HM3.out, HB3.out⟩
            case measure => simp [intOf] <;> omega
      · have hke : k = n := by omega
        have HRR : Hid (0 = R) := symsGo_end (by rw [HL.out]; omega) HA.out
        have q1 : ¬ (k : Int) < n := by omega
        clear hke hsr
        go_wp2_with fail
        go_ret
        exact ⟨nret_int HRR.out, HB.out⟩
/-- A row of variables is not a map's block, so a store into the map leaves it. -/
theorem Vs.grown {w w' : World} {A : Option Addr} {n c : Nat} {vs : List Vr} {r : Nat} {acc : List Txt} (h : Vs w A n c vs) (hg : w.grownBy w' (some r)) (hm : Ms w r acc) : Vs w' A n c vs :=
  ⟨h.len, h.cap, h.top, fun hn => by
    obtain ⟨g, o, e, hl, hc⟩ := h.cells hn
    have hne : g ≠ r := by
      intro he
      subst he
      obtain ⟨es, clock, hbl, _⟩ := hm
      have := (hc 0 hn).1
      unfold World.cell? at this
      simp only [hbl] at this
      cases this
    have hk : ∀ i, w'.cell? ⟨g, i, none⟩ = w.cell? ⟨g, i, none⟩ := fun i => by
      unfold World.cell?
      rw [hg.block _ hl (fun e => hne (Option.some.inj e))]
    exact ⟨g, o, e, Nat.lt_of_lt_of_le hl hg.size, fun k hk' => ⟨(hk _).trans (hc k hk').1, (hk _).trans (hc k hk').2⟩⟩⟩
set_option maxRecDepth 100000 in
set_option maxHeartbeats 4000000 in
theorem checkholes_any (A : Option Addr) (n c : Nat) (vs : List Ho) (w : World) (henv : Env w) (hs : Hs w A n c vs) (hfit : ∀ x ∈ vs, x.name.length ≤ maxLen ∧ ∀ p ∈ x.ps, p.name.length ≤ maxLen) : Calls Tryd.prog 39 #[.slice A n c] w fun e w' => e = .returned (.int .i64 (holesI vs)) ∧ Below w.heap.size w w' := by
  have HS := Lib.hid hs
  have HL := Lib.hid hs.len
  have HE := Lib.hid henv
  have HF := Lib.hid hfit
  have h47 : n ≤ 9223372036854775807 := Nat.le_trans hs.cap hs.top
  clear hs henv hfit
  by_cases hlong : 40 < n
  · have q0 : (40 : Int) < (n : Int) := by omega
    have HR : Hid (holesI vs = 7) := if_pos (by rw [HL.out]; exact hlong)
    clear hlong
    go_enter Tryd.func39, Tryd.ntmps39
    go_wp2_with fail
    go_ret
    exact ⟨nret_int HR.out.symm, Below.refl _ _⟩
  · have q0 : ¬ (40 : Int) < (n : Int) := by omega
    have HR : Hid (holesGo [] vs = holesI vs) := (if_neg (by rw [HL.out]; exact hlong)).symm
    have HN : Hid (vs.length ≤ 100) := by show _ ≤ _; rw [HL.out]; omega
    obtain ⟨R, hR⟩ : ∃ R, holesI vs = R := ⟨_, rfl⟩
    rw [hR] at HR ⊢
    have RM := run_makeMap (P := Tryd.prog) 89 w
    clear hlong hR
    go_enter Tryd.func39, Tryd.ntmps39
    go_wp2_with fail
    clear RM
    go_loopw [13] (fun iv wr => ∃ k : Nat, k ≤ n ∧ iv = .int .i64 (k : Int) ∧ holesGo ((vs.take k).map Ho.name) (vs.drop k) = R ∧ Ms wr w.heap.size ((vs.take k).map Ho.name) ∧ Below w.heap.size w wr) (fun iv _ => n - (intOf iv).toNat)
    case atStart => exact ⟨0, Nat.zero_le _, rfl, HR.out, Ms.made w, below_alloc _⟩
    case round =>
      obtain ⟨k, hk, rfl, ha, hm, hb⟩ := hrel
      have HA := Lib.hid ha
      have HM := Lib.hid hm
      have HB := Lib.hid hb
      have hsr := HS.out.below hb
      clear ha hm hb
      by_cases hlt : k < n
      · have hkl : k < vs.length := by rw [HL.out]; exact hlt
        have HKL := Lib.hid hkl
        obtain ⟨g, o, x, B, m, d, rfl, hg, c0, c1, hx, hss⟩ := hsr.at_ hlt
        have HX := Lib.hid hx.out
        have HSS := Lib.hid hss.out
        have q1 : (k : Int) < n := by omega
        have hxs : x.size ≤ maxLen := by rw [size_list, HX.out]; exact (HF.out _ (getD_mem_ho hkl)).1
        have HXS := Lib.hid hxs
        have hstep := holesGo_at hkl HA.out
        have HST := Lib.hid hstep
        have HPF := Lib.hid ((HF.out _ (getD_mem_ho hkl)).2)
        have HMT : Hid ((vs.take (k + 1)).map Ho.name = (vs.take k).map Ho.name ++ [(vs.getD k ho0).name]) := map_take_at Ho.name hkl
        have BK := Lib.hid (Bk.new 44 wr #[.string x, .slice B m d])
        have HBA := Lib.hid (nbelow_on HB.out (below_alloc (.cells #[.string x, .slice B m d] 44)))
        have HML : Hid (w.heap.size < wr.heap.size) := HM.out.lt
        have HMA := Lib.hid (HM.out.keep (below_alloc (.cells #[.string x, .slice B m d] 44)))
        have HSA := Lib.hid (HSS.out.below (below_alloc (.cells #[.string x, .slice B m d] 44)))
        obtain ⟨v, hv⟩ : ∃ v, vs.getD k ho0 = v := ⟨_, rfl⟩
        rw [hv] at HX HST HMT HSS HSA HPF
        clear hx hxs hkl hstep hsr hv hss
        cases hc : coreB v.name with
        | false =>
          have HC := Lib.hid hc
          have HRR : Hid (R = 3) := by have := HST.out; rw [if_pos hc] at this; exact this.symm
          clear hc
          go_wp2_with fail
          (refine (core_any x _ (HE.out.below HBA.out)).mono ?_); rintro e w2 ⟨rfl, hb⟩
          rw [HX.out, HC.out, show errI false = 3 from rfl]
          go_wp2_with fail
          go_ret
          exact ⟨nret_int HRR.out.symm, nbelow_on HBA.out hb⟩
        | true =>
          have HC := Lib.hid hc
          have HST2 := HST.out
          rw [if_neg (by rw [hc]; decide)] at HST2
          have HS2 := Lib.hid HST2
          clear hc HST2
          go_wp2_with fail
          (refine (core_any x _ (HE.out.below HBA.out)).mono ?_); rintro e w2 ⟨rfl, hb⟩
          rw [HX.out, HC.out, show errI true = 0 from rfl]
          have BK2 := Lib.hid (BK.out.below hb)
          have HM2 := Lib.hid (HMA.out.keep hb)
          have HB2 := Lib.hid (nbelow_on HBA.out hb)
          have e0 := BK2.out.c 0 (v := .string x) rfl
          have HS3 := Lib.hid (HSA.out.below hb)
          have RL := HM2.out.look x HXS.out
          rw [HX.out] at RL
          clear hb
          by_cases hin : v.name ∈ (vs.take k).map Ho.name
          · have HRR : Hid (R = 4) := by have := HS2.out; rw [if_pos hin] at this; exact this.symm
            rw [decide_eq_true hin] at RL
            clear hin
            go_wp2_with fail
            go_ret
            exact ⟨nret_int HRR.out.symm, HB2.out⟩
          · have HST3 := HS2.out
            rw [if_neg hin] at HST3
            have HS4 := Lib.hid HST3
            rw [decide_eq_false hin] at RL
            obtain ⟨w3, RU, hm3, hg3⟩ := HM2.out.put (names_len Ho.name HKL.out HN.out) x HXS.out
            rw [HX.out, ← HMT.out] at hm3
            have HM3 := Lib.hid hm3
            have BK3 := Lib.hid (BK2.out.grown hg3 (ne_lt HML.out))
            have HB3 : Hid (Below w.heap.size w w3) := HB2.out.grown hg3 HB2.out.size (fun q hq => by cases hq; exact Nat.le_refl _)
            have e1 := BK3.out.c 1 (v := .slice B m d) rfl
            have HS5 : Hid (Vs w3 B m d v.ps) := HS3.out.grown hg3 (HM2.out)
            have HML2 : Hid (v.ps.length = m) := HS5.out.len
            clear hin HST3 hm3 hg3
            by_cases hm0 : m = 0
            · have HRR : Hid (R = 13) := by have := HS4.out; rw [if_pos (by rw [HML2.out]; exact hm0)] at this; exact this.symm
              have z0 : ((m : Int) == 0) = true := by rw [hm0]; rfl
              clear hm0
              go_wp2_with fail
              go_ret
              exact ⟨nret_int HRR.out.symm, HB3.out⟩
            · have HST5 := HS4.out
              rw [if_neg (by rw [HML2.out]; exact hm0)] at HST5
              have HS6 := Lib.hid HST5
              have z0 : ((m : Int) == 0) = false := beq_eq_false_iff_ne.2 (by omega)
              clear hm0 HST5
              by_cases hc2 : varsI v.ps = 0
              · have HC2 := Lib.hid hc2
                have HST7 := HS6.out
                rw [if_neg (by rw [hc2]; decide)] at HST7
                have HS9 := Lib.hid HST7
                clear hc2 HST7
                go_wp2_with fail
                (refine (checkvars_any B m d v.ps w3 (HE.out.below HB3.out) HS5.out HPF.out).mono ?_); rintro e w4 ⟨rfl, hb⟩
                rw [HC2.out]
                have HB4 := Lib.hid (nbelow_on HB3.out hb)
                have HM4 := Lib.hid (HM3.out.keep hb)
                clear hb
                go_wp2_with fail
                go_roundw
                case rel => exact ⟨k + 1, by omega, by go_num, by rw [HMT.out]; exact HS9.out, HM4.out, HB4.out⟩
                case measure => simp [intOf] <;> omega
              · obtain ⟨r, hr⟩ : ∃ r, varsI v.ps = r := ⟨_, rfl⟩
                have HC2 := Lib.hid hr
                have HRR : Hid (R = r) := by have := HS6.out; rw [if_pos hc2, hr] at this; exact this.symm
                rw [hr] at hc2
                have y0 := zero_eq hc2
                have y1 := zero_ne hc2
                clear hc2 hr
                go_wp2_with fail
                (refine (checkvars_any B m d v.ps w3 (HE.out.below HB3.out) HS5.out HPF.out).mono ?_); rintro e w4 ⟨rfl, hb⟩
                rw [HC2.out]
                have HB4 := Lib.hid (nbelow_on HB3.out hb)
                clear hb
                go_wp2_with fail
                go_ret
                exact ⟨nret_int HRR.out.symm, HB4.out⟩
      · have hke : k = n := by omega
        have HRR : Hid (0 = R) := holesGo_end (by rw [HL.out]; omega) HA.out
        have q1 : ¬ (k : Int) < n := by omega
        clear hke hsr
        go_wp2_with fail
        go_ret
        exact ⟨nret_int HRR.out, HB.out⟩
end Go.Proofs.YtegognbnphpigaaDoor
