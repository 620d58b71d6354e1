/-
  short, shortSym and light of the laws.
-/
import Derived.Test.YtegognbnphpigaaDoorSoO
namespace Go.Proofs.YtegognbnphpigaaDoor
open Go.RowKit

def le3 (l : Txt) : Bool := decide (l.length ≤ 300)
def shV (x : Vr) : Bool := le3 x.name && le3 x.sort
def shB (vs : List Vr) : Bool := vs.all shV
def shY (y : Sy) : Bool := le3 y.name && decide (y.args.length ≤ 8) && le3 y.res && y.args.all le3
def shH (h : Ho) : Bool := le3 h.name && decide (h.ps.length ≤ 26) && shB h.ps
def liN (v : En) : Bool := decide (v.vars.length ≤ 26) && decide (v.syms.length ≤ 66) && decide (v.holes.length ≤ 42) && shB v.vars
def liB (v : En) : Bool := liN v && v.syms.all shY && v.holes.all shH
theorem all_snoc_g {α : Type} {l : List α} {k : Nat} {d : α} (h : k < l.length) (p : α → Bool) : (l.take (k + 1)).all p = ((l.take k).all p && p (l.getD k d)) := by
  rw [take_at (d := d) h, List.all_append]; simp
theorem getD_mem_g {α : Type} {l : List α} {k : Nat} {d : α} (hk : k < l.length) : l.getD k d ∈ l := by
  have : l.getD k d = l[k] := by simp [List.getD, hk]
  rw [this]; exact List.getElem_mem _
theorem all_bad_g {α : Type} {l : List α} {k : Nat} {d : α} (h : k < l.length) {p : α → Bool} (hp : p (l.getD k d) = false) : l.all p = false := by
  rw [List.all_eq_false]
  exact ⟨_, getD_mem_g (d := d) h, by rw [hp]; simp⟩
theorem all_end_g {α : Type} {l : List α} {k : Nat} {p : α → Bool} (h : l.length ≤ k) (ha : (l.take k).all p = true) : l.all p = true := by
  rwa [List.take_of_length_le h] at ha
theorem le3_yes {x : ByteArray} {l : Txt} (hx : x.data.toList = l) (h : le3 l = true) : ¬ (300 : Int) < (x.size : Int) := by
  unfold le3 at h; rw [← hx] at h; have := size_list x; simp at h; omega
theorem le3_no {x : ByteArray} {l : Txt} (hx : x.data.toList = l) (h : le3 l = false) : (300 : Int) < (x.size : Int) := by
  unfold le3 at h; rw [← hx] at h; have := size_list x; simp at h; omega
set_option maxRecDepth 100000 in
set_option maxHeartbeats 2000000 in
theorem short_any (A : Option Addr) (n c : Nat) (vs : List Vr) (w : World) (hs : Vs w A n c vs) : Calls Tryd.prog 29 #[.slice A n c] w fun e w' => e = .returned (.bool (shB vs)) ∧ w = w' := by
  have HS := Lib.hid hs
  have HL := Lib.hid hs.len
  have h47 : n ≤ 9223372036854775807 := Nat.le_trans hs.cap hs.top
  clear hs
  go_enter Tryd.func29, Tryd.ntmps29
  go_wp2_with fail
  go_loop [3] (fun i => ∃ k : Nat, k ≤ n ∧ i = .int .i64 (k : Int) ∧ (vs.take k).all shV = true) (fun i => n - (intOf i).toNat)
  case atStart => exact ⟨0, Nat.zero_le _, rfl, by simp⟩
  case round =>
    obtain ⟨k, hk, rfl, ha⟩ := hrel
    have HA := Lib.hid ha
    clear ha
    by_cases hlt : k < n
    · obtain ⟨g, o, x, y, rfl, hg, c0, c1, hx, hy⟩ := HS.out.at_ hlt
      have HKL : Hid (k < vs.length) := by show k < _; rw [HL.out]; exact hlt
      have q1 : (k : Int) < n := by omega
      cases h1 : le3 (vs.getD k vr0).name with
      | false =>
        have p1 := le3_no hx.out h1
        have HR : Hid (shB vs = false) := all_bad_g (d := vr0) HKL.out (by unfold shV; rw [h1]; rfl)
        clear hx hy hg h1
        go_wp2_with fail
        go_ret
        exact ⟨nret_bool HR.out.symm, rfl⟩
      | true =>
        have p1 := le3_yes hx.out h1
        cases h2 : le3 (vs.getD k vr0).sort with
        | false =>
          have p2 := le3_no hy.out h2
          have HR : Hid (shB vs = false) := all_bad_g (d := vr0) HKL.out (by unfold shV; rw [h1, h2]; rfl)
          clear hx hy hg h1 h2
          go_wp2_with fail
          go_ret
          exact ⟨nret_bool HR.out.symm, rfl⟩
        | true =>
          have p2 := le3_yes hy.out h2
          have HP : Hid ((vs.take (k + 1)).all shV = true) := by show _ = _; rw [all_snoc_g (d := vr0) HKL.out, HA.out]; unfold shV; rw [h1, h2]; rfl
          clear hx hy hg h1 h2
          go_wp2_with fail
          go_round
          case rel => exact ⟨k + 1, by omega, by go_num, HP.out⟩
          case measure => simp [intOf] <;> omega
    · have HR : Hid (shB vs = true) := all_end_g (by rw [HL.out]; omega) HA.out
      have q1 : ¬ (k : Int) < n := by omega
      go_wp2_with fail
      go_ret
      exact ⟨nret_bool HR.out.symm, rfl⟩
set_option maxRecDepth 100000 in
set_option maxHeartbeats 2000000 in
theorem shortsym_any (x y : ByteArray) (A : Option Addr) (n c : Nat) (ls : List Txt) (w : World) (hs : Ss w A n c ls) : Calls Tryd.prog 10 #[.agg #[.string x, .slice A n c, .string y]] w fun e w' => e = .returned (.bool (shY (⟨x.data.toList, ls, y.data.toList⟩ : Sy))) ∧ Below w.heap.size w w' := by
  have HS := Lib.hid hs
  have HL := Lib.hid hs.len
  have h47 : n ≤ 9223372036854775807 := Nat.le_trans hs.cap hs.top
  clear hs
  cases h1 : le3 x.data.toList with
  | false =>
    have p1 := le3_no (x := x) rfl h1
    have HR : Hid (shY (⟨x.data.toList, ls, y.data.toList⟩ : Sy) = false) := by show shY _ = _; unfold shY; simp [h1]
    clear h1
    go_enter Tryd.func10, Tryd.ntmps10
    go_wp2_with fail
    go_ret
    exact ⟨nret_bool HR.out.symm, below_alloc _⟩
  | true =>
    have p1 := le3_yes (x := x) rfl h1
    by_cases h2 : n ≤ 8
    · have p2 : ¬ (8 : Int) < (n : Int) := by omega
      cases h3 : le3 y.data.toList with
      | false =>
        have p3 := le3_no (x := y) rfl h3
        have HR : Hid (shY (⟨x.data.toList, ls, y.data.toList⟩ : Sy) = false) := by show shY _ = _; unfold shY; simp [h3]
        clear h1 h2 h3
        go_enter Tryd.func10, Tryd.ntmps10
        go_wp2_with fail
        go_ret
        exact ⟨nret_bool HR.out.symm, below_alloc _⟩
      | true =>
        have p3 := le3_yes (x := y) rfl h3
        have HR0 : Hid (shY (⟨x.data.toList, ls, y.data.toList⟩ : Sy) = ls.all le3) := by
          show shY _ = _
          unfold shY
          rw [h1, h3, decide_eq_true (show ls.length ≤ 8 by rw [HL.out]; exact h2)]; rfl
        have BK := Bk.new 25 w #[.string x, .slice A n c, .string y]
        have e0 := BK.c 0 (v := .string x) rfl
        have e1 := BK.c 1 (v := .slice A n c) rfl
        have e2 := BK.c 2 (v := .string y) rfl
        have HB0 : Hid (Below w.heap.size w (w.alloc (.cells #[.string x, .slice A n c, .string y] 25))) := below_alloc _
        have HS2 := Lib.hid (HS.out.below HB0.out)
        clear h1 h2 h3 BK
        generalize hW : w.alloc (.cells #[.string x, .slice A n c, .string y] 25) = W at *
        go_enter Tryd.func10, Tryd.ntmps10
        go_wp2_with fail
        go_loop [3] (fun i => ∃ k : Nat, k ≤ n ∧ i = .int .i64 (k : Int) ∧ (ls.take k).all le3 = true) (fun i => n - (intOf i).toNat)
        case atStart => exact ⟨0, Nat.zero_le _, rfl, by simp⟩
        case round =>
          obtain ⟨k, hk, rfl, ha⟩ := hrel
          have HA := Lib.hid ha
          clear ha
          by_cases hlt : k < n
          · obtain ⟨g, o, z, rfl, hg, c0, hz⟩ := HS2.out.at_ hlt
            have HKL : Hid (k < ls.length) := by show k < _; rw [HL.out]; exact hlt
            have q1 : (k : Int) < n := by omega
            cases h4 : le3 (ls.getD k []) with
            | false =>
              have p4 := le3_no hz.out h4
              have HR : Hid (shY (⟨x.data.toList, ls, y.data.toList⟩ : Sy) = false) := HR0.out.trans (all_bad_g (d := []) HKL.out h4)
              clear hz hg h4
              go_wp2_with fail
              go_ret
              exact ⟨nret_bool HR.out.symm, HB0.out⟩
            | true =>
              have p4 := le3_yes hz.out h4
              have HP : Hid ((ls.take (k + 1)).all le3 = true) := by show _ = _; rw [all_snoc_g (d := []) HKL.out, HA.out, h4]; rfl
              clear hz hg h4
              go_wp2_with fail
              go_round
              case rel => exact ⟨k + 1, by omega, by go_num, HP.out⟩
              case measure => simp [intOf] <;> omega
          · have HR : Hid (shY (⟨x.data.toList, ls, y.data.toList⟩ : Sy) = true) := HR0.out.trans (all_end_g (by rw [HL.out]; omega) HA.out)
            have q1 : ¬ (k : Int) < n := by omega
            go_wp2_with fail
            go_ret
            exact ⟨nret_bool HR.out.symm, HB0.out⟩
    · have p2 : (8 : Int) < (n : Int) := by omega
      have HR : Hid (shY (⟨x.data.toList, ls, y.data.toList⟩ : Sy) = false) := by
        show shY _ = _
        unfold shY
        rw [decide_eq_false (show ¬ ls.length ≤ 8 by rw [HL.out]; exact h2), Bool.and_false]; rfl
      clear h1 h2
      go_enter Tryd.func10, Tryd.ntmps10
      go_wp2_with fail
      go_ret
      exact ⟨nret_bool HR.out.symm, below_alloc _⟩
theorem liB_no {v : En} (h : liN v = false) : liB v = false := by unfold liB; rw [h]; rfl
theorem liB_y {v : En} (h : v.syms.all shY = false) : liB v = false := by unfold liB; rw [h, Bool.and_false]; rfl
theorem liB_h {v : En} (h : v.holes.all shH = false) : liB v = false := by unfold liB; rw [h, Bool.and_false]
set_option maxRecDepth 100000 in
set_option maxHeartbeats 8000000 in
theorem light_any (A0 : Option Addr) (n0 c0 : Nat) (B0 : Option Addr) (m0 d0 : Nat) (C0 : Option Addr) (p0 q0 : Nat) (v : En) (w : World) (ha : Vs w A0 n0 c0 v.vars) (hb : Ys w B0 m0 d0 v.syms) (hc : Hs w C0 p0 q0 v.holes) : Calls Tryd.prog 16 #[.agg #[.slice A0 n0 c0, .slice B0 m0 d0, .slice C0 p0 q0]] w fun e w' => e = .returned (.bool (liB v)) ∧ Below w.heap.size w w' := by
  have HB0 : Hid (Below w.heap.size w (w.alloc (.cells #[.slice A0 n0 c0, .slice B0 m0 d0, .slice C0 p0 q0] 36))) := below_alloc _
  have K0 := Lib.hid (Bk.new 36 w #[.slice A0 n0 c0, .slice B0 m0 d0, .slice C0 p0 q0])
  have LA := Lib.hid ha.len
  have LB := Lib.hid hb.len
  have LC := Lib.hid hc.len
  have HA := Lib.hid (ha.below HB0.out)
  have HY := Lib.hid (hb.below HB0.out)
  have HH := Lib.hid (hc.below HB0.out)
  have h48 : m0 ≤ 9223372036854775807 := Nat.le_trans hb.cap hb.top
  have h49 : p0 ≤ 9223372036854775807 := Nat.le_trans hc.cap hc.top
  clear ha hb hc
  by_cases h1 : n0 ≤ 26
  · have p1 : ¬ (26 : Int) < (n0 : Int) := by omega
    by_cases h2 : m0 ≤ 66
    · have p2 : ¬ (66 : Int) < (m0 : Int) := by omega
      by_cases h3 : p0 ≤ 42
      · have p3 : ¬ (42 : Int) < (p0 : Int) := by omega
        have CS := short_any A0 n0 c0 v.vars (w.alloc (.cells #[.slice A0 n0 c0, .slice B0 m0 d0, .slice C0 p0 q0] 36)) HA.out
        cases h4 : shB v.vars with
        | false =>
          have HR : Hid (liB v = false) := liB_no (by unfold liN; rw [h4, Bool.and_false])
          rw [h4] at CS
          clear h1 h2 h3 h4
          go_enter Tryd.func16, Tryd.ntmps16
          go_wp2_with fail
          (refine CS.mono ?_); rintro e wx ⟨rfl, rfl⟩
          go_wp2_with fail
          go_ret
          exact ⟨nret_bool HR.out.symm, HB0.out⟩
        | true =>
          have HN : Hid (liN v = true) := by
            show liN v = _
            unfold liN
            rw [h4, decide_eq_true (show v.vars.length ≤ 26 by rw [LA.out]; exact h1), decide_eq_true (show v.syms.length ≤ 66 by rw [LB.out]; exact h2), decide_eq_true (show v.holes.length ≤ 42 by rw [LC.out]; exact h3)]; rfl
          rw [h4] at CS
          clear h1 h2 h3 h4
          go_enter Tryd.func16, Tryd.ntmps16
          go_wp2_with fail
          (refine CS.mono ?_); rintro e wx ⟨rfl, rfl⟩
          go_wp2_with fail
          clear CS
          go_loopw [3] (fun iv wr => ∃ k : Nat, k ≤ m0 ∧ iv = .int .i64 (k : Int) ∧ (v.syms.take k).all shY = true ∧ Bk 36 wr w.heap.size #[.slice A0 n0 c0, .slice B0 m0 d0, .slice C0 p0 q0] ∧ Below (w.alloc (.cells #[.slice A0 n0 c0, .slice B0 m0 d0, .slice C0 p0 q0] 36)).heap.size (w.alloc (.cells #[.slice A0 n0 c0, .slice B0 m0 d0, .slice C0 p0 q0] 36)) wr) (fun iv _ => m0 - (intOf iv).toNat)
          case atStart => exact ⟨0, Nat.zero_le _, rfl, by simp, K0.out, Below.refl _ _⟩
          case round =>
            obtain ⟨k, hk, rfl, ha, hbk, hb⟩ := hrel
            have HAL := Lib.hid ha
            have HK := Lib.hid hbk
            have HB := Lib.hid hb
            have HBW := Lib.hid (nbelow_on HB0.out hb)
            have e1 := hbk.c 1 (v := .slice B0 m0 d0) rfl
            clear ha hbk hb
            by_cases hlt : k < m0
            · obtain ⟨g, o, x, y, P, m, p, rfl, hg, c0, c1, c2, hx, hy, hss⟩ := (HY.out.below HB.out).at_ hlt
              have HKL : Hid (k < v.syms.length) := by show k < _; rw [LB.out]; exact hlt
              have q1 : (k : Int) < m0 := by omega
              have CY := shortsym_any x y P m p _ wr hss.out
              rw [hx.out, hy.out, show (⟨(v.syms.getD k sy0).name, (v.syms.getD k sy0).args, (v.syms.getD k sy0).res⟩ : Sy) = v.syms.getD k sy0 from rfl] at CY
              clear hx hy hss hg
              cases h5 : shY (v.syms.getD k sy0) with
              | false =>
                have HR : Hid (liB v = false) := liB_y (all_bad_g (d := sy0) HKL.out h5)
                rw [h5] at CY
                clear h5
                go_wp2_with fail
                (refine CY.mono ?_); rintro e w2 ⟨rfl, hb⟩
                have HB2 := Lib.hid (nbelow_on HBW.out hb)
                clear hb CY
                go_wp2_with fail
                go_ret
                exact ⟨nret_bool HR.out.symm, HB2.out⟩
              | true =>
                have HP : Hid ((v.syms.take (k + 1)).all shY = true) := by show _ = _; rw [all_snoc_g (d := sy0) HKL.out, HAL.out, h5]; rfl
                rw [h5] at CY
                clear h5
                go_wp2_with fail
                (refine CY.mono ?_); rintro e w2 ⟨rfl, hb⟩
                have HB2 := Lib.hid (nbelow_on HB.out hb)
                have HK2 := Lib.hid (HK.out.below hb)
                clear hb CY
                go_wp2_with fail
                go_roundw
                case rel => exact ⟨k + 1, by omega, by go_num, HP.out, HK2.out, HB2.out⟩
                case measure => simp [intOf] <;> omega
            · have HYA : Hid (v.syms.all shY = true) := all_end_g (by rw [LB.out]; omega) HAL.out
              have HRH : Hid (liB v = v.holes.all shH) := by show liB v = _; unfold liB; rw [HN.out, HYA.out]; rfl
              have q1 : ¬ (k : Int) < m0 := by omega
              have HHR := Lib.hid (HH.out.below HB.out)
              go_wp2_with fail
              clear e1
              have e2 := HK.out.c 2 (v := .slice C0 p0 q0) rfl
              go_loop [4] (fun i => ∃ j : Nat, j ≤ p0 ∧ i = .int .i64 (j : Int) ∧ (v.holes.take j).all shH = true) (fun i => p0 - (intOf i).toNat)
              case atStart => exact ⟨0, Nat.zero_le _, rfl, by simp⟩
              case round =>
                obtain ⟨j, hj, rfl, ha⟩ := hrel
                have HJA := Lib.hid ha
                clear ha
                by_cases hlj : j < p0
                · obtain ⟨g, o, x, P, m, p, rfl, hg, c0, c1, hx, hss⟩ := HHR.out.at_ hlj
                  have HKL : Hid (j < v.holes.length) := by show j < _; rw [LC.out]; exact hlj
                  have q2 : (j : Int) < p0 := by omega
                  have HML := Lib.hid hss.out.len
                  have CV := short_any P m p _ wr hss.out
                  obtain ⟨u, hu⟩ : ∃ u, v.holes.getD j ho0 = u := ⟨_, rfl⟩
                  rw [hu] at CV HML
                  have hxu : x.data.toList = u.name := by rw [hx.out, hu]
                  have HU := Lib.hid hu
                  clear hx hss hg hu
                  cases h6 : le3 u.name with
                  | false =>
                    have p6 := le3_no hxu h6
                    have HR : Hid (liB v = false) := liB_h (all_bad_g (d := ho0) HKL.out (by rw [HU.out]; unfold shH; rw [h6]; rfl))
                    clear h6 hxu CV
                    go_wp2_with fail
                    go_ret
                    exact ⟨nret_bool HR.out.symm, HBW.out⟩
                  | true =>
                    have p6 := le3_yes hxu h6
                    by_cases h7 : m ≤ 26
                    · have p7 : ¬ (26 : Int) < (m : Int) := by omega
                      cases h8 : shB u.ps with
                      | false =>
                        have HR : Hid (liB v = false) := liB_h (all_bad_g (d := ho0) HKL.out (by rw [HU.out]; unfold shH; rw [h8, Bool.and_false]))
                        rw [h8] at CV
                        clear h6 h7 h8 hxu
                        go_wp2_with fail
                        (refine CV.mono ?_); rintro e wx ⟨rfl, rfl⟩
                        go_wp2_with fail
                        go_ret
                        exact ⟨nret_bool HR.out.symm, HBW.out⟩
                      | true =>
                        have HP : Hid ((v.holes.take (j + 1)).all shH = true) := by
                          show _ = _
                          rw [all_snoc_g (d := ho0) HKL.out, HJA.out, HU.out]
                          unfold shH
                          rw [h6, h8, decide_eq_true (show u.ps.length ≤ 26 by rw [HML.out]; exact h7)]; rfl
                        rw [h8] at CV
                        clear h6 h7 h8 hxu
                        go_wp2_with fail
                        (refine CV.mono ?_); rintro e wx ⟨rfl, rfl⟩
                        go_wp2_with fail
                        go_round
                        case rel => exact ⟨j + 1, by omega, by go_num, HP.out⟩
                        case measure => simp [intOf] <;> omega
                    · have p7 : (26 : Int) < (m : Int) := by omega
                      have HR : Hid (liB v = false) := liB_h (all_bad_g (d := ho0) HKL.out (by rw [HU.out]; unfold shH; rw [decide_eq_false (show ¬ u.ps.length ≤ 26 by rw [HML.out]; exact h7), Bool.and_false]; rfl))
                      clear h6 h7 hxu CV
                      go_wp2_with fail
                      go_ret
                      exact ⟨nret_bool HR.out.symm, HBW.out⟩
                · have HR : Hid (liB v = true) := HRH.out.trans (all_end_g (by rw [LC.out]; omega) HJA.out)
                  have q2 : ¬ (j : Int) < p0 := by omega
                  go_wp2_with fail
                  go_ret
                  exact ⟨nret_bool HR.out.symm, HBW.out⟩
      · have p3 : (42 : Int) < (p0 : Int) := by omega
        have HR : Hid (liB v = false) := liB_no (by unfold liN; rw [decide_eq_false (show ¬ v.holes.length ≤ 42 by rw [LC.out]; exact h3), Bool.and_false]; rfl)
        clear h1 h2 h3
        go_enter Tryd.func16, Tryd.ntmps16
        go_wp2_with fail
        go_ret
        exact ⟨nret_bool HR.out.symm, below_alloc _⟩
    · have p2 : (66 : Int) < (m0 : Int) := by omega
      have HR : Hid (liB v = false) := liB_no (by unfold liN; rw [decide_eq_false (show ¬ v.syms.length ≤ 66 by rw [LB.out]; exact h2), Bool.and_false]; rfl)
      clear h1 h2
      go_enter Tryd.func16, Tryd.ntmps16
      go_wp2_with fail
      go_ret
      exact ⟨nret_bool HR.out.symm, below_alloc _⟩
  · have p1 : (26 : Int) < (n0 : Int) := by omega
    have HR : Hid (liB v = false) := liB_no (by unfold liN; rw [decide_eq_false (show ¬ v.vars.length ≤ 26 by rw [LA.out]; exact h1)]; rfl)
    clear h1
    go_enter Tryd.func16, Tryd.ntmps16
    go_wp2_with fail
    go_ret
    exact ⟨nret_bool HR.out.symm, below_alloc _⟩

/-- What light gives. -/
theorem le3_len {l : Txt} (h : le3 l = true) : l.length ≤ 300 := by unfold le3 at h; exact of_decide_eq_true h
theorem shB_at {vs : List Vr} (h : shB vs = true) {x : Vr} (hx : x ∈ vs) : x.name.length ≤ 300 ∧ x.sort.length ≤ 300 := by
  have := List.all_eq_true.1 h x hx
  unfold shV at this
  rw [Bool.and_eq_true] at this
  exact ⟨le3_len this.1, le3_len this.2⟩
structure Li (v : En) : Prop where
  nv : v.vars.length ≤ 26
  ny : v.syms.length ≤ 66
  nh : v.holes.length ≤ 42
  va : ∀ x ∈ v.vars, x.name.length ≤ 300 ∧ x.sort.length ≤ 300
  sy : ∀ y ∈ v.syms, y.name.length ≤ 300 ∧ y.args.length ≤ 8
  ho : ∀ h ∈ v.holes, h.name.length ≤ 300 ∧ h.ps.length ≤ 26 ∧ ∀ p ∈ h.ps, p.name.length ≤ 300
theorem li_of {v : En} (h : liB v = true) : Li v := by
  unfold liB liN at h
  simp only [Bool.and_eq_true, decide_eq_true_iff] at h
  obtain ⟨⟨⟨⟨⟨h1, h2⟩, h3⟩, h4⟩, h5⟩, h6⟩ := h
  refine ⟨h1, h2, h3, fun x hx => shB_at h4 hx, fun y hy => ?_, fun u hu => ?_⟩
  · have := List.all_eq_true.1 h5 y hy
    unfold shY at this
    simp only [Bool.and_eq_true, decide_eq_true_iff] at this
    exact ⟨le3_len this.1.1.1, this.1.1.2⟩
  · have := List.all_eq_true.1 h6 u hu
    unfold shH at this
    simp only [Bool.and_eq_true, decide_eq_true_iff] at this
    exact ⟨le3_len this.1.1, this.1.2, fun p hp => (shB_at this.2 hp).1⟩
theorem Li.fits {v : En} (h : Li v) : Fits v :=
  ⟨fun x hx => Nat.le_trans (h.va x hx).1 (by decide), fun x hx => Nat.le_trans (h.sy x hx).1 (by decide), fun x hx => ⟨Nat.le_trans (h.ho x hx).1 (by decide), fun p hp => Nat.le_trans ((h.ho x hx).2.2 p hp) (by decide)⟩⟩
end Go.Proofs.YtegognbnphpigaaDoor
