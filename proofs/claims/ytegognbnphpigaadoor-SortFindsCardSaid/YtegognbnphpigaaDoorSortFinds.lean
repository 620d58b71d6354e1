/-
  THE STATEMENT SortFinds IS PROVED: for every environment and every text (the listed tables holding what the program's text lays, tied by the card), the law returns true and its arguments read as before.
-/
import Derived.Test.YtegognbnphpigaaDoorCards
import Derived.Test.YtegognbnphpigaaDoorTie
import Derived.Test.YtegognbnphpigaaDoorSoLaid
namespace Go.Proofs.YtegognbnphpigaaDoor.sortFinds
open Go.ChangeShapes Go.WideShapes Go.ChangeAt Go.RowKit
open Go.ChangeMaps (open_string shut_string)

theorem bool_self (b : Bool) : (b == b) = true := by cases b <;> rfl
set_option maxRecDepth 100000 in
set_option maxHeartbeats 8000000 in
theorem walk (A : Option Addr) (n c : Nat) (B : Option Addr) (m d : Nat) (C : Option Addr) (p q : Nat) (v : En) (s : ByteArray) (w : World) (henv : Env w) (ha : Vs w A n c v.vars) (hb : Ys w B m d v.syms) (hc : Hs w C p q v.holes) : Calls Tryd.prog 5 #[.agg #[.slice A n c, .slice B m d, .slice C p q], .string s] w fun e w' => e = .returned (.bool true) ∧ Below w.heap.size w w' := by
  have HB0 : Hid (Below w.heap.size w w) := Below.refl _ _
  have HE0 := Lib.hid henv
  have HV_0 := Lib.hid ha
  have HY_0 := Lib.hid hb
  have HH_0 := Lib.hid hc
  clear henv ha hb hc
  have HB1 : Hid (Below w.heap.size w (w.alloc (.cells #[.slice A n c, .slice B m d, .slice C p q] 36))) := nbelow_on HB0.out (below_alloc _)
  have HE1 : Hid (Env (w.alloc (.cells #[.slice A n c, .slice B m d, .slice C p q] 36))) := HE0.out.below (below_alloc _)
  have HV_1 := Lib.hid (HV_0.out.below (below_alloc (w := w) (.cells #[.slice A n c, .slice B m d, .slice C p q] 36)))
  have HY_1 := Lib.hid (HY_0.out.below (below_alloc (w := w) (.cells #[.slice A n c, .slice B m d, .slice C p q] 36)))
  have HH_1 := Lib.hid (HH_0.out.below (below_alloc (w := w) (.cells #[.slice A n c, .slice B m d, .slice C p q] 36)))
  clear HV_0 HY_0 HH_0
  have K0_1 : Hid (Bk 36 (w.alloc (.cells #[.slice A n c, .slice B m d, .slice C p q] 36)) (w.heap.size) #[.slice A n c, .slice B m d, .slice C p q]) := Bk.at _ (by simp)
  have CL := light_any A n c B m d C p q v (w.alloc (.cells #[.slice A n c, .slice B m d, .slice C p q] 36)) HV_1.out HY_1.out HH_1.out
  cases hl : liB v with
  | false =>
    rw [hl] at CL
    clear hl
    go_enter Tryd.func5, Tryd.ntmps5
    go_wp2_with fail
    (refine (CL).mono ?_); rintro e w2 ⟨rfl, hb⟩
    have HB2 := Lib.hid (nbelow_on HB1.out hb)
    have HE2 := Lib.hid (HE1.out.below hb)
    have HV_2 := Lib.hid (HV_1.out.below hb)
    have HY_2 := Lib.hid (HY_1.out.below hb)
    have HH_2 := Lib.hid (HH_1.out.below hb)
    have K0_2 := Lib.hid (K0_1.out.below hb)
    clear hb HV_1 HY_1 HH_1 K0_1 CL
    go_wp2_with fail
    (refine (awake_any w2 HE2.out).mono ?_); rintro e w3 ⟨rfl, hb⟩
    have HB3 := Lib.hid (nbelow_on HB2.out hb)
    have HE3 := Lib.hid (HE2.out.below hb)
    have HV_3 := Lib.hid (HV_2.out.below hb)
    have HY_3 := Lib.hid (HY_2.out.below hb)
    have HH_3 := Lib.hid (HH_2.out.below hb)
    have K0_3 := Lib.hid (K0_2.out.below hb)
    clear hb HV_2 HY_2 HH_2 K0_2
    go_wp2_with fail
    go_ret
    exact ⟨rfl, HB3.out⟩
  | true =>
    have HLI := Lib.hid (li_of hl)
    rw [hl] at CL
    clear hl
    by_cases h3 : s.size ≤ 300
    · skip
      have q3 : ¬ (300 : Int) < (s.size : Int) := by omega
      have HFY : Hid (∀ y ∈ v.syms, y.args.length ≤ 100000) := fun y hy => Nat.le_trans (HLI.out.sy y hy).2 (by decide)
      have HFH : Hid (∀ y ∈ v.holes, y.ps.length ≤ 100000) := fun y hy => Nat.le_trans (HLI.out.ho y hy).2.1 (by decide)
      obtain ⟨RV, hRV⟩ : ∃ R, varF v.vars s.data.toList = R := ⟨_, rfl⟩
      obtain ⟨RF, hRF⟩ : ∃ R, findF v.syms s.data.toList = R := ⟨_, rfl⟩
      obtain ⟨RH, hRH⟩ : ∃ R, holeF v.holes s.data.toList = R := ⟨_, rfl⟩
      have HRV := Lib.hid hRV
      have HRF := Lib.hid hRF
      have HRH := Lib.hid hRH
      obtain ⟨bV, hbV⟩ : ∃ b, Option.isSome RV = b := ⟨_, rfl⟩
      have HSV := Lib.hid hbV
      have ubV := bool_self bV
      obtain ⟨bF, hbF⟩ : ∃ b, Option.isSome RF = b := ⟨_, rfl⟩
      have HSF := Lib.hid hbF
      have ubF := bool_self bF
      obtain ⟨bH, hbH⟩ : ∃ b, Option.isSome RH = b := ⟨_, rfl⟩
      have HSH := Lib.hid hbH
      have ubH := bool_self bH
      clear hRV hRF hRH hbV hbF hbH h3
      go_enter Tryd.func5, Tryd.ntmps5
      go_wp2_with fail
      (refine (CL).mono ?_); rintro e w2 ⟨rfl, hb⟩
      have HB2 := Lib.hid (nbelow_on HB1.out hb)
      have HE2 := Lib.hid (HE1.out.below hb)
      have HV_2 := Lib.hid (HV_1.out.below hb)
      have HY_2 := Lib.hid (HY_1.out.below hb)
      have HH_2 := Lib.hid (HH_1.out.below hb)
      have K0_2 := Lib.hid (K0_1.out.below hb)
      clear hb HV_1 HY_1 HH_1 K0_1 CL
      have k0 := K0_2.out.c 0 (v := .slice A n c) rfl
      have k1 := K0_2.out.c 1 (v := .slice B m d) rfl
      have k2 := K0_2.out.c 2 (v := .slice C p q) rfl
      go_wp2_with fail
      (refine (var_any A n c B m d C p q v s w2 HV_2.out).mono ?_); rintro e w3 ⟨y1, rfl, hy1, hb⟩
      have HB3 := Lib.hid (nbelow_on HB2.out hb)
      have HE3 := Lib.hid (HE2.out.below hb)
      have HV_3 := Lib.hid (HV_2.out.below hb)
      have HY_3 := Lib.hid (HY_2.out.below hb)
      have HH_3 := Lib.hid (HH_2.out.below hb)
      have K0_3 := Lib.hid (K0_2.out.below hb)
      clear hb HV_2 HY_2 HH_2 K0_2 k0 k1 k2
      rw [HRV.out, HSV.out]
      have Hy1 : Hid (y1.data.toList = (RV.getD vr0).sort) := by rw [← HRV.out]; exact hy1.out
      clear hy1
      have k0 := K0_3.out.c 0 (v := .slice A n c) rfl
      have k1 := K0_3.out.c 1 (v := .slice B m d) rfl
      have k2 := K0_3.out.c 2 (v := .slice C p q) rfl
      go_wp2_with fail
      (refine (rvar_any A n c B m d C p q v s w3 HV_3.out).mono ?_); rintro e w4 ⟨y2, rfl, hy2, hb⟩
      have HB4 := Lib.hid (nbelow_on HB3.out hb)
      have HE4 := Lib.hid (HE3.out.below hb)
      have HV_4 := Lib.hid (HV_3.out.below hb)
      have HY_4 := Lib.hid (HY_3.out.below hb)
      have HH_4 := Lib.hid (HH_3.out.below hb)
      have K0_4 := Lib.hid (K0_3.out.below hb)
      clear hb HV_3 HY_3 HH_3 K0_3 k0 k1 k2
      rw [HRV.out, HSV.out]
      have Hy2 : Hid (y2.data.toList = (RV.getD vr0).sort) := by rw [← HRV.out]; exact hy2.out
      clear hy2
      have k0 := K0_4.out.c 0 (v := .slice A n c) rfl
      have k1 := K0_4.out.c 1 (v := .slice B m d) rfl
      have k2 := K0_4.out.c 2 (v := .slice C p q) rfl
      go_wp2_with fail
      (refine (find_any A n c B m d C p q v s w4 HY_4.out HFY.out).mono ?_); rintro e w5 ⟨x3, A3, n3, c3, y3, rfl, hx, hs, hy, hb⟩
      have HB5 := Lib.hid (nbelow_on HB4.out hb)
      have HE5 := Lib.hid (HE4.out.below hb)
      have HV_5 := Lib.hid (HV_4.out.below hb)
      have HY_5 := Lib.hid (HY_4.out.below hb)
      have HH_5 := Lib.hid (HH_4.out.below hb)
      have K0_5 := Lib.hid (K0_4.out.below hb)
      clear hb HV_4 HY_4 HH_4 K0_4 k0 k1 k2
      rw [HRF.out, HSF.out]
      have HX3 : Hid (x3.data.toList = (RF.getD sy0).name) := by rw [← HRF.out]; exact hx.out
      have HYY3 : Hid (y3.data.toList = (RF.getD sy0).res) := by rw [← HRF.out]; exact hy.out
      have SS3_5 : Hid (Ss w5 A3 n3 c3 (RF.getD sy0).args) := by rw [← HRF.out]; exact hs.out
      clear hx hs hy
      have HB6 : Hid (Below w.heap.size w (w5.alloc (.cells #[.string x3, .slice A3 n3 c3, .string y3] 25))) := nbelow_on HB5.out (below_alloc _)
      have HE6 : Hid (Env (w5.alloc (.cells #[.string x3, .slice A3 n3 c3, .string y3] 25))) := HE5.out.below (below_alloc _)
      have HV_6 := Lib.hid (HV_5.out.below (below_alloc (w := w5) (.cells #[.string x3, .slice A3 n3 c3, .string y3] 25)))
      have HY_6 := Lib.hid (HY_5.out.below (below_alloc (w := w5) (.cells #[.string x3, .slice A3 n3 c3, .string y3] 25)))
      have HH_6 := Lib.hid (HH_5.out.below (below_alloc (w := w5) (.cells #[.string x3, .slice A3 n3 c3, .string y3] 25)))
      have K0_6 := Lib.hid (K0_5.out.below (below_alloc (w := w5) (.cells #[.string x3, .slice A3 n3 c3, .string y3] 25)))
      have SS3_6 := Lib.hid (SS3_5.out.below (below_alloc (w := w5) (.cells #[.string x3, .slice A3 n3 c3, .string y3] 25)))
      clear HV_5 HY_5 HH_5 K0_5 SS3_5
      have T3_6 : Hid (Bk 25 (w5.alloc (.cells #[.string x3, .slice A3 n3 c3, .string y3] 25)) (w5.heap.size) #[.string x3, .slice A3 n3 c3, .string y3]) := Bk.at _ (by simp)
      have k0 := K0_6.out.c 0 (v := .slice A n c) rfl
      have k1 := K0_6.out.c 1 (v := .slice B m d) rfl
      have k2 := K0_6.out.c 2 (v := .slice C p q) rfl
      go_wp2_with fail
      (refine (rsfind_any A n c B m d C p q v s (w5.alloc (.cells #[.string x3, .slice A3 n3 c3, .string y3] 25)) HY_6.out).mono ?_); rintro e w7 ⟨x4, A4, n4, c4, y4, rfl, hx, hs, hy, hb⟩
      have HB7 := Lib.hid (nbelow_on HB6.out hb)
      have HE7 := Lib.hid (HE6.out.below hb)
      have HV_7 := Lib.hid (HV_6.out.below hb)
      have HY_7 := Lib.hid (HY_6.out.below hb)
      have HH_7 := Lib.hid (HH_6.out.below hb)
      have K0_7 := Lib.hid (K0_6.out.below hb)
      have SS3_7 := Lib.hid (SS3_6.out.below hb)
      have T3_7 := Lib.hid (T3_6.out.below hb)
      clear hb HV_6 HY_6 HH_6 K0_6 SS3_6 T3_6 k0 k1 k2
      rw [HRF.out, HSF.out]
      have HX4 : Hid (x4.data.toList = (RF.getD sy0).name) := by rw [← HRF.out]; exact hx.out
      have HYY4 : Hid (y4.data.toList = (RF.getD sy0).res) := by rw [← HRF.out]; exact hy.out
      have SS4_7 : Hid (Ss w7 A4 n4 c4 (RF.getD sy0).args) := by rw [← HRF.out]; exact hs.out
      clear hx hs hy
      have HB8 : Hid (Below w.heap.size w (w7.alloc (.cells #[.string x4, .slice A4 n4 c4, .string y4] 25))) := nbelow_on HB7.out (below_alloc _)
      have HE8 : Hid (Env (w7.alloc (.cells #[.string x4, .slice A4 n4 c4, .string y4] 25))) := HE7.out.below (below_alloc _)
      have HV_8 := Lib.hid (HV_7.out.below (below_alloc (w := w7) (.cells #[.string x4, .slice A4 n4 c4, .string y4] 25)))
      have HY_8 := Lib.hid (HY_7.out.below (below_alloc (w := w7) (.cells #[.string x4, .slice A4 n4 c4, .string y4] 25)))
      have HH_8 := Lib.hid (HH_7.out.below (below_alloc (w := w7) (.cells #[.string x4, .slice A4 n4 c4, .string y4] 25)))
      have K0_8 := Lib.hid (K0_7.out.below (below_alloc (w := w7) (.cells #[.string x4, .slice A4 n4 c4, .string y4] 25)))
      have SS3_8 := Lib.hid (SS3_7.out.below (below_alloc (w := w7) (.cells #[.string x4, .slice A4 n4 c4, .string y4] 25)))
      have T3_8 := Lib.hid (T3_7.out.below (below_alloc (w := w7) (.cells #[.string x4, .slice A4 n4 c4, .string y4] 25)))
      have SS4_8 := Lib.hid (SS4_7.out.below (below_alloc (w := w7) (.cells #[.string x4, .slice A4 n4 c4, .string y4] 25)))
      clear HV_7 HY_7 HH_7 K0_7 SS3_7 T3_7 SS4_7
      have T4_8 : Hid (Bk 25 (w7.alloc (.cells #[.string x4, .slice A4 n4 c4, .string y4] 25)) (w7.heap.size) #[.string x4, .slice A4 n4 c4, .string y4]) := Bk.at _ (by simp)
      have k0 := K0_8.out.c 0 (v := .slice A n c) rfl
      have k1 := K0_8.out.c 1 (v := .slice B m d) rfl
      have k2 := K0_8.out.c 2 (v := .slice C p q) rfl
      go_wp2_with fail
      (refine (hole_any A n c B m d C p q v s (w7.alloc (.cells #[.string x4, .slice A4 n4 c4, .string y4] 25)) HH_8.out HFH.out).mono ?_); rintro e w9 ⟨x5, A5, n5, c5, rfl, hx, hv, hb⟩
      have HB9 := Lib.hid (nbelow_on HB8.out hb)
      have HE9 := Lib.hid (HE8.out.below hb)
      have HV_9 := Lib.hid (HV_8.out.below hb)
      have HY_9 := Lib.hid (HY_8.out.below hb)
      have HH_9 := Lib.hid (HH_8.out.below hb)
      have K0_9 := Lib.hid (K0_8.out.below hb)
      have SS3_9 := Lib.hid (SS3_8.out.below hb)
      have T3_9 := Lib.hid (T3_8.out.below hb)
      have SS4_9 := Lib.hid (SS4_8.out.below hb)
      have T4_9 := Lib.hid (T4_8.out.below hb)
      clear hb HV_8 HY_8 HH_8 K0_8 SS3_8 T3_8 SS4_8 T4_8 k0 k1 k2
      rw [HRH.out, HSH.out]
      have HX5 : Hid (x5.data.toList = (RH.getD ho0).name) := by rw [← HRH.out]; exact hx.out
      have SV5_9 : Hid (Vs w9 A5 n5 c5 (RH.getD ho0).ps) := by rw [← HRH.out]; exact hv.out
      clear hx hv
      have HB10 : Hid (Below w.heap.size w (w9.alloc (.cells #[.string x5, .slice A5 n5 c5] 44))) := nbelow_on HB9.out (below_alloc _)
      have HE10 : Hid (Env (w9.alloc (.cells #[.string x5, .slice A5 n5 c5] 44))) := HE9.out.below (below_alloc _)
      have HV_10 := Lib.hid (HV_9.out.below (below_alloc (w := w9) (.cells #[.string x5, .slice A5 n5 c5] 44)))
      have HY_10 := Lib.hid (HY_9.out.below (below_alloc (w := w9) (.cells #[.string x5, .slice A5 n5 c5] 44)))
      have HH_10 := Lib.hid (HH_9.out.below (below_alloc (w := w9) (.cells #[.string x5, .slice A5 n5 c5] 44)))
      have K0_10 := Lib.hid (K0_9.out.below (below_alloc (w := w9) (.cells #[.string x5, .slice A5 n5 c5] 44)))
      have SS3_10 := Lib.hid (SS3_9.out.below (below_alloc (w := w9) (.cells #[.string x5, .slice A5 n5 c5] 44)))
      have T3_10 := Lib.hid (T3_9.out.below (below_alloc (w := w9) (.cells #[.string x5, .slice A5 n5 c5] 44)))
      have SS4_10 := Lib.hid (SS4_9.out.below (below_alloc (w := w9) (.cells #[.string x5, .slice A5 n5 c5] 44)))
      have T4_10 := Lib.hid (T4_9.out.below (below_alloc (w := w9) (.cells #[.string x5, .slice A5 n5 c5] 44)))
      have SV5_10 := Lib.hid (SV5_9.out.below (below_alloc (w := w9) (.cells #[.string x5, .slice A5 n5 c5] 44)))
      clear HV_9 HY_9 HH_9 K0_9 SS3_9 T3_9 SS4_9 T4_9 SV5_9
      have T5_10 : Hid (Bk 44 (w9.alloc (.cells #[.string x5, .slice A5 n5 c5] 44)) (w9.heap.size) #[.string x5, .slice A5 n5 c5]) := Bk.at _ (by simp)
      have k0 := K0_10.out.c 0 (v := .slice A n c) rfl
      have k1 := K0_10.out.c 1 (v := .slice B m d) rfl
      have k2 := K0_10.out.c 2 (v := .slice C p q) rfl
      go_wp2_with fail
      (refine (rshole_any A n c B m d C p q v s (w9.alloc (.cells #[.string x5, .slice A5 n5 c5] 44)) HH_10.out).mono ?_); rintro e w11 ⟨x6, A6, n6, c6, rfl, hx, hv, hb⟩
      have HB11 := Lib.hid (nbelow_on HB10.out hb)
      have HE11 := Lib.hid (HE10.out.below hb)
      have HV_11 := Lib.hid (HV_10.out.below hb)
      have HY_11 := Lib.hid (HY_10.out.below hb)
      have HH_11 := Lib.hid (HH_10.out.below hb)
      have K0_11 := Lib.hid (K0_10.out.below hb)
      have SS3_11 := Lib.hid (SS3_10.out.below hb)
      have T3_11 := Lib.hid (T3_10.out.below hb)
      have SS4_11 := Lib.hid (SS4_10.out.below hb)
      have T4_11 := Lib.hid (T4_10.out.below hb)
      have SV5_11 := Lib.hid (SV5_10.out.below hb)
      have T5_11 := Lib.hid (T5_10.out.below hb)
      clear hb HV_10 HY_10 HH_10 K0_10 SS3_10 T3_10 SS4_10 T4_10 SV5_10 T5_10 k0 k1 k2
      rw [HRH.out, HSH.out]
      have HX6 : Hid (x6.data.toList = (RH.getD ho0).name) := by rw [← HRH.out]; exact hx.out
      have SV6_11 : Hid (Vs w11 A6 n6 c6 (RH.getD ho0).ps) := by rw [← HRH.out]; exact hv.out
      clear hx hv
      have HB12 : Hid (Below w.heap.size w (w11.alloc (.cells #[.string x6, .slice A6 n6 c6] 44))) := nbelow_on HB11.out (below_alloc _)
      have HE12 : Hid (Env (w11.alloc (.cells #[.string x6, .slice A6 n6 c6] 44))) := HE11.out.below (below_alloc _)
      have HV_12 := Lib.hid (HV_11.out.below (below_alloc (w := w11) (.cells #[.string x6, .slice A6 n6 c6] 44)))
      have HY_12 := Lib.hid (HY_11.out.below (below_alloc (w := w11) (.cells #[.string x6, .slice A6 n6 c6] 44)))
      have HH_12 := Lib.hid (HH_11.out.below (below_alloc (w := w11) (.cells #[.string x6, .slice A6 n6 c6] 44)))
      have K0_12 := Lib.hid (K0_11.out.below (below_alloc (w := w11) (.cells #[.string x6, .slice A6 n6 c6] 44)))
      have SS3_12 := Lib.hid (SS3_11.out.below (below_alloc (w := w11) (.cells #[.string x6, .slice A6 n6 c6] 44)))
      have T3_12 := Lib.hid (T3_11.out.below (below_alloc (w := w11) (.cells #[.string x6, .slice A6 n6 c6] 44)))
      have SS4_12 := Lib.hid (SS4_11.out.below (below_alloc (w := w11) (.cells #[.string x6, .slice A6 n6 c6] 44)))
      have T4_12 := Lib.hid (T4_11.out.below (below_alloc (w := w11) (.cells #[.string x6, .slice A6 n6 c6] 44)))
      have SV5_12 := Lib.hid (SV5_11.out.below (below_alloc (w := w11) (.cells #[.string x6, .slice A6 n6 c6] 44)))
      have T5_12 := Lib.hid (T5_11.out.below (below_alloc (w := w11) (.cells #[.string x6, .slice A6 n6 c6] 44)))
      have SV6_12 := Lib.hid (SV6_11.out.below (below_alloc (w := w11) (.cells #[.string x6, .slice A6 n6 c6] 44)))
      clear HV_11 HY_11 HH_11 K0_11 SS3_11 T3_11 SS4_11 T4_11 SV5_11 T5_11 SV6_11
      have T6_12 : Hid (Bk 44 (w11.alloc (.cells #[.string x6, .slice A6 n6 c6] 44)) (w11.heap.size) #[.string x6, .slice A6 n6 c6]) := Bk.at _ (by simp)
      clear HV_12
      clear HY_12
      clear HH_12
      clear K0_12
      have t1 : (y1.toList == y2.toList) = true := by rw [same_txt Hy1.out Hy2.out]; exact beq_self_eq_true _
      have r30 := T3_12.out.c 0 (v := .string x3) rfl
      have r31 := T3_12.out.c 1 (v := .slice A3 n3 c3) rfl
      have r32 := T3_12.out.c 2 (v := .string y3) rfl
      have r40 := T4_12.out.c 0 (v := .string x4) rfl
      have r41 := T4_12.out.c 1 (v := .slice A4 n4 c4) rfl
      have r42 := T4_12.out.c 2 (v := .string y4) rfl
      have CH : Calls Tryd.prog 25 #[.agg #[.string x3, .slice A3 n3 c3, .string y3], .agg #[.string x4, .slice A4 n4 c4, .string y4]] (w11.alloc (.cells #[.string x6, .slice A6 n6 c6] 44)) fun e w' => e = .returned (.bool true) ∧ Below (w11.alloc (.cells #[.string x6, .slice A6 n6 c6] 44)).heap.size (w11.alloc (.cells #[.string x6, .slice A6 n6 c6] 44)) w' := by
        have hx := same_txt HX3.out HX4.out
        have hy := same_txt HYY3.out HYY4.out
        have hs := SS3_12.out
        have hs4 := SS4_12.out
        have hn : n3 = n4 := hs.len.symm.trans hs4.len
        rw [← hx, ← hy]
        rw [← hn] at hs4 ⊢
        exact samesym_any x3 y3 A3 n3 c3 A4 c4 _ _ hs hs4
      go_wp2_with fail
      (refine (CH).mono ?_); rintro e w13 ⟨rfl, hb⟩
      have HB13 := Lib.hid (nbelow_on HB12.out hb)
      have HE13 := Lib.hid (HE12.out.below hb)
      have SS3_13 := Lib.hid (SS3_12.out.below hb)
      have T3_13 := Lib.hid (T3_12.out.below hb)
      have SS4_13 := Lib.hid (SS4_12.out.below hb)
      have T4_13 := Lib.hid (T4_12.out.below hb)
      have SV5_13 := Lib.hid (SV5_12.out.below hb)
      have T5_13 := Lib.hid (T5_12.out.below hb)
      have SV6_13 := Lib.hid (SV6_12.out.below hb)
      have T6_13 := Lib.hid (T6_12.out.below hb)
      clear hb SS3_12 T3_12 SS4_12 T4_12 SV5_12 T5_12 SV6_12 T6_12 CH r30 r31 r32 r40 r41 r42
      have r50 := T5_13.out.c 0 (v := .string x5) rfl
      have r51 := T5_13.out.c 1 (v := .slice A5 n5 c5) rfl
      have r60 := T6_13.out.c 0 (v := .string x6) rfl
      have r61 := T6_13.out.c 1 (v := .slice A6 n6 c6) rfl
      have CH : Calls Tryd.prog 26 #[.agg #[.string x5, .slice A5 n5 c5], .agg #[.string x6, .slice A6 n6 c6]] w13 fun e w' => e = .returned (.bool true) ∧ Below w13.heap.size w13 w' := by
        have hx := same_txt HX5.out HX6.out
        have hs := SV5_13.out
        have hs4 := SV6_13.out
        have hn : n5 = n6 := hs.len.symm.trans hs4.len
        rw [← hx]
        rw [← hn] at hs4 ⊢
        exact samehole_any x5 A5 n5 c5 A6 c6 _ _ hs hs4
      go_wp2_with fail
      (refine (CH).mono ?_); rintro e w14 ⟨rfl, hb⟩
      have HB14 := Lib.hid (nbelow_on HB13.out hb)
      have HE14 := Lib.hid (HE13.out.below hb)
      have SS3_14 := Lib.hid (SS3_13.out.below hb)
      have T3_14 := Lib.hid (T3_13.out.below hb)
      have SS4_14 := Lib.hid (SS4_13.out.below hb)
      have T4_14 := Lib.hid (T4_13.out.below hb)
      have SV5_14 := Lib.hid (SV5_13.out.below hb)
      have T5_14 := Lib.hid (T5_13.out.below hb)
      have SV6_14 := Lib.hid (SV6_13.out.below hb)
      have T6_14 := Lib.hid (T6_13.out.below hb)
      clear hb SS3_13 T3_13 SS4_13 T4_13 SV5_13 T5_13 SV6_13 T6_13 CH r50 r51 r60 r61
      go_wp2_with fail
      (refine (awake_any w14 HE14.out).mono ?_); rintro e w15 ⟨rfl, hb⟩
      have HB15 := Lib.hid (nbelow_on HB14.out hb)
      have HE15 := Lib.hid (HE14.out.below hb)
      have SS3_15 := Lib.hid (SS3_14.out.below hb)
      have T3_15 := Lib.hid (T3_14.out.below hb)
      have SS4_15 := Lib.hid (SS4_14.out.below hb)
      have T4_15 := Lib.hid (T4_14.out.below hb)
      have SV5_15 := Lib.hid (SV5_14.out.below hb)
      have T5_15 := Lib.hid (T5_14.out.below hb)
      have SV6_15 := Lib.hid (SV6_14.out.below hb)
      have T6_15 := Lib.hid (T6_14.out.below hb)
      clear hb SS3_14 T3_14 SS4_14 T4_14 SV5_14 T5_14 SV6_14 T6_14
      go_wp2_with fail
      go_ret
      exact ⟨rfl, HB15.out⟩
    · skip
      have q3 : (300 : Int) < (s.size : Int) := by omega
      go_enter Tryd.func5, Tryd.ntmps5
      go_wp2_with fail
      (refine (CL).mono ?_); rintro e w2 ⟨rfl, hb⟩
      have HB2 := Lib.hid (nbelow_on HB1.out hb)
      have HE2 := Lib.hid (HE1.out.below hb)
      have HV_2 := Lib.hid (HV_1.out.below hb)
      have HY_2 := Lib.hid (HY_1.out.below hb)
      have HH_2 := Lib.hid (HH_1.out.below hb)
      have K0_2 := Lib.hid (K0_1.out.below hb)
      clear hb HV_1 HY_1 HH_1 K0_1 CL
      go_wp2_with fail
      (refine (awake_any w2 HE2.out).mono ?_); rintro e w3 ⟨rfl, hb⟩
      have HB3 := Lib.hid (nbelow_on HB2.out hb)
      have HE3 := Lib.hid (HE2.out.below hb)
      have HV_3 := Lib.hid (HV_2.out.below hb)
      have HY_3 := Lib.hid (HY_2.out.below hb)
      have HH_3 := Lib.hid (HH_2.out.below hb)
      have K0_3 := Lib.hid (K0_2.out.below hb)
      clear hb HV_2 HY_2 HH_2 K0_2
      go_wp2_with fail
      go_ret
      exact ⟨rfl, HB3.out⟩

set_option maxRecDepth 100000 in
theorem contract (H : Type) (enc : TypeId × Value → H) (W : World) (base : Nat) (args : Array Value) (ds gs : List (DataW H)) (before : List MemPlace)
    (hval : ∀ (j : Nat) t v, Tryd.f5.params[j]? = some t → args[j]? = some v → Value.okWide Tryd.prog W .any base t v)
    (hW : DataW.Whole enc Tryd.prog Tryd.f5.params.toList Rows.sortFindsSpec.vars false W args.toList ds gs before) (hL : laidMetH Tryd.prog Rows.sortFindsRow.laid W) (hSh : W.ShapedOpen Tryd.prog) :
    Calls Tryd.prog 5 args W fun e W' => ∃ v, e = .returned v ∧ Rows.sortFindsSpec.post enc Tryd.prog Tryd.f5 false true false false W args v W' := by
  have hW' := hW
  obtain ⟨p, q, hA0, hV, rfl, hfz, hnd⟩ := hW
  have hA : DataW.TrodAll enc Tryd.prog W 0 (fun _ => true) true Tryd.f5.params.toList args.toList ds p := hA0
  have hlt : ∀ x ∈ p, x.block < W.heap.size := fun x hx => hW'.lt x (by simp [hx])
  have hAll := hA
  rw [Tryd.params5] at hA hval
  obtain ⟨v0, vs0, d0, ds0, p0, q0, hargs, rfl, rfl, h0, r0⟩ := trodAll_cons hA
  obtain ⟨v1, vs1, d1, ds1, p1, q1, rfl, rfl, rfl, h1, r1⟩ := trodAll_cons r0
  obtain ⟨rfl, rfl, rfl⟩ := trodAll_nil r1
  obtain rfl : args = #[v0, v1] := by cases args; simp_all
  obtain ⟨rfl, rfl⟩ := trodVars_none hV
  obtain ⟨A1, n1, c1, B1, m1, d1', C1, p1', q1', e1, rfl, ga1, gb1, gc1⟩ := open_env (hval 0 36 v0 rfl rfl) h0
  obtain ⟨t2, rfl, _, _, g2⟩ := open_string Tryd.underlying9 (hval 1 9 v1 rfl rfl) h1
  refine (walk A1 n1 c1 B1 m1 d1' C1 p1' q1' e1 t2 W (env_of_laid hL hSh) ga1 gb1 gc1).mono fun e W' ⟨he, hg⟩ => ?_
  subst he
  refine ⟨_, rfl, _, _, _, [], _, [], hW', trodAll_mk1 (shut_bool Tryd.underlying4 _), trodAll_below hg (fun t ht => ?_) hAll hlt, rfl, hg.frame _, fun h => by cases h⟩
  rw [Tryd.params5] at ht
  simp only [List.mem_cons, List.not_mem_nil, or_false] at ht
  rcases ht with rfl | rfl
  · exact read_env
  · exact read_string

set_option maxRecDepth 100000 in
theorem reads (os : Os) {H : Type} (enc : TypeId × Value → H) : ∃ places, DataW.whole enc Tryd.prog ((World.laidAll Tryd.prog os laidNames).forCall (fun _ _ => 0) ⟨#[], #[Value.agg #[.slice none 0 0, .slice none 0 0, .slice none 0 0], Value.string ByteArray.empty], []⟩).memory Tryd.f5.params.toList Rows.sortFindsSpec.vars false #[Value.agg #[.slice none 0 0, .slice none 0 0, .slice none 0 0], Value.string ByteArray.empty].toList 8 = some ([.agg [.nil, .nil, .nil], .lit (.string [])], [], places) :=
  ⟨[], by kernel_rfl⟩

set_option maxRecDepth 100000 in
theorem lifted (os : Os) (started : os.Started) (H : Type) (enc : TypeId × Value → H) (F : Stop.Interp) :
    ReturnsInHanded {} Tryd.checked os 5 .any ((OpenSpec.ofChange Rows.sortFindsSpec).preRow enc Tryd.prog Tryd.f5 Rows.sortFindsRow.domain false Rows.sortFindsRow.laid) (((OpenSpec.ofChange Rows.sortFindsSpec).at F).post enc Tryd.prog Tryd.f5 false true false false) := by
  obtain ⟨places, hx⟩ := reads os enc
  refine returnsInHanded_of_row (C := Tryd.checked) (s := OpenSpec.ofChange Rows.sortFindsSpec) own started (by kernel_rfl) Tryd.func5
    (witness_row_at (enc := enc) (C := Tryd.checked) false (World.laidAll Tryd.prog os laidNames) #[Value.agg #[.slice none 0 0, .slice none 0 0, .slice none 0 0], Value.string ByteArray.empty] rfl (by kernel_rfl) (by kernel_rfl) (by kernel_rfl)
      (OpenSpec.preRow_of_cond 8 hx (by kernel_rfl) (fun k hk => by cases hk) (by kernel_rfl) (laid_met os _))) ?_
  intro W base args ds gs before hval hW _ _ _ hL hSh _
  exact contract H enc W base args ds gs before hval hW hL hSh

theorem said : Rows.SortFindsSaid :=
  OpenClaim.holds_of_cond 5 Tryd.f5 rfl rfl rfl rfl rfl rfl rfl ⟨rfl, rfl, rfl, rfl, rfl⟩ rfl rfl rfl rfl rfl (by kernel_rfl) Tryd.func5 (by kernel_rfl)
    (of_decide_eq_true (by kernel_rfl)) (by unfold Func.isWrapper; first | (rw [if_pos (by decide +kernel)]; kernel_rfl) | (rw [if_neg (by decide +kernel)]; exact ⟨rfl, rfl⟩))
    (fun os started H enc _ F => by rw [OpenClaim.pre_eq_preRow]; exact lifted os started H enc F)

theorem plain (f : FuncId) (fn : Func) (hf : Tryd.pinned.checked.prog.funcNamed "liquidcheck/liquidchecklaw06.SortFinds" = some f) (hfn : Tryd.pinned.checked.prog.funcs[f]? = some fn) :
    false = Tryd.pinned.checked.prog.looks [] ∧ ∀ (j : Nat) t, fn.params[j]? = some t → Tryd.pinned.checked.prog.wantsStandIn t = false := by
  obtain rfl : f = 5 := Option.some.inj ((show Tryd.prog.funcNamed "liquidcheck/liquidchecklaw06.SortFinds" = some 5 by kernel_rfl).symm.trans hf) |>.symm
  obtain rfl : fn = Tryd.f5 := (Option.some.inj (Tryd.func5.symm.trans hfn)).symm
  refine ⟨by kernel_rfl, fun j t ht => ?_⟩
  rw [Tryd.params5] at ht
  have hm := Array.mem_of_getElem? ht
  simp only [List.mem_toArray, List.mem_cons, List.not_mem_nil, or_false] at hm
  rcases hm with rfl | rfl
  · exact (show Tryd.prog.wantsStandIn 36 = false by kernel_rfl)
  · exact (show Tryd.prog.wantsStandIn 9 = false by kernel_rfl)

theorem card : Rows.SortFindsCardSaid :=
  Claim7.holds_tied_plain_at .later [] _ _ _ _ said (fun _ h => by cases h) (by kernel_rfl) (fun _ h => by cases h) sortFinds_row_tie rfl ⟨rfl, rfl⟩ (by kernel_rfl) rfl plain (by kernel_rfl)
end Go.Proofs.YtegognbnphpigaaDoor.sortFinds
