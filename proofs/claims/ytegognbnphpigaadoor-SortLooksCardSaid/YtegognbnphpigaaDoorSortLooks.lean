/-
  THE STATEMENT SortLooks IS PROVED: for every environment, every variable and every text (the listed tables holding what the program's text lays, tied by the card), the law returns true and its arguments read as before.
-/
import Derived.Test.YtegognbnphpigaaDoorCards
import Derived.Test.YtegognbnphpigaaDoorTie
import Derived.Test.YtegognbnphpigaaDoorSoLaid
import Derived.Test.YtegognbnphpigaaDoorSoS
namespace Go.Proofs.YtegognbnphpigaaDoor.sortLooks
open Go.ChangeShapes Go.WideShapes Go.ChangeAt Go.RowKit
open Go.ChangeMaps (open_string shut_string)

theorem bool_self (b : Bool) : (b == b) = true := by cases b <;> rfl
theorem bool_nself (b : Bool) : (b != b) = false := by cases b <;> rfl
theorem some_of {α : Type} {o : Option α} (h : o.isSome = true) : ∃ a, o = some a := by cases o with | none => cases h | some a => exact ⟨a, rfl⟩
theorem fits_hole {v : En} {s : Txt} {hh : Ho} (h : Li v) (hm : holeF v.holes s = some hh) : Fits ⟨[], [], [hh]⟩ :=
  ⟨(fun _ h => by cases h), (fun _ h => by cases h), fun y hy => by rw [List.mem_singleton.1 hy]; exact h.fits.holes _ (holeF_mem hm)⟩
set_option maxRecDepth 100000 in
set_option maxHeartbeats 16000000 in
theorem walk (A : Option Addr) (n c : Nat) (B : Option Addr) (m d : Nat) (C : Option Addr) (p q : Nat) (v : En) (x y s : ByteArray) (w : World) (henv : Env w) (ha : Vs w A n c v.vars) (hb : Ys w B m d v.syms) (hc : Hs w C p q v.holes) : Calls Tryd.prog 8 #[.agg #[.slice A n c, .slice B m d, .slice C p q], .agg #[.string x, .string y], .string s] w fun e w' => e = .returned (.bool true) ∧ Below w.heap.size w w' := by
  have HB0 : Hid (Below w.heap.size w w) := Below.refl _ _
  have HE0 := Lib.hid henv
  have HV_0 := Lib.hid ha
  have HY_0 := Lib.hid hb
  have HH_0 := Lib.hid hc
  clear henv ha hb hc
  have HB1 : Hid (Below w.heap.size w (w.alloc (.cells #[.slice A n c, .slice B m d, .slice C p q] 36))) := nbelow_on HB0.out (below_alloc _)
  have HE1 : Hid (Env (w.alloc (.cells #[.slice A n c, .slice B m d, .slice C p q] 36))) := HE0.out.below (below_alloc _)
  have HV_1 := Lib.hid (HV_0.out.below (below_alloc (w := w) (.cells #[.slice A n c, .slice B m d, .slice C p q] 36)))
  have HY_1 := Lib.hid (HY_0.out.below (below_alloc (w := w) (.cells #[.slice A n c, .slice B m d, .slice C p q] 36)))
  have HH_1 := Lib.hid (HH_0.out.below (below_alloc (w := w) (.cells #[.slice A n c, .slice B m d, .slice C p q] 36)))
  clear HV_0 HY_0 HH_0
  have K0_1 : Hid (Bk 36 (w.alloc (.cells #[.slice A n c, .slice B m d, .slice C p q] 36)) (w.heap.size) #[.slice A n c, .slice B m d, .slice C p q]) := Bk.at _ (by simp)
  have HB2 : Hid (Below w.heap.size w ((w.alloc (.cells #[.slice A n c, .slice B m d, .slice C p q] 36)).alloc (.cells #[.string x, .string y] 62))) := nbelow_on HB1.out (below_alloc _)
  have HE2 : Hid (Env ((w.alloc (.cells #[.slice A n c, .slice B m d, .slice C p q] 36)).alloc (.cells #[.string x, .string y] 62))) := HE1.out.below (below_alloc _)
  have HV_2 := Lib.hid (HV_1.out.below (below_alloc (w := (w.alloc (.cells #[.slice A n c, .slice B m d, .slice C p q] 36))) (.cells #[.string x, .string y] 62)))
  have HY_2 := Lib.hid (HY_1.out.below (below_alloc (w := (w.alloc (.cells #[.slice A n c, .slice B m d, .slice C p q] 36))) (.cells #[.string x, .string y] 62)))
  have HH_2 := Lib.hid (HH_1.out.below (below_alloc (w := (w.alloc (.cells #[.slice A n c, .slice B m d, .slice C p q] 36))) (.cells #[.string x, .string y] 62)))
  have K0_2 := Lib.hid (K0_1.out.below (below_alloc (w := (w.alloc (.cells #[.slice A n c, .slice B m d, .slice C p q] 36))) (.cells #[.string x, .string y] 62)))
  clear HV_1 HY_1 HH_1 K0_1
  have K1_2 : Hid (Bk 62 ((w.alloc (.cells #[.slice A n c, .slice B m d, .slice C p q] 36)).alloc (.cells #[.string x, .string y] 62)) (w.heap.size + 1) #[.string x, .string y]) := Bk.at _ (by simp)
  have CL := light_any A n c B m d C p q v ((w.alloc (.cells #[.slice A n c, .slice B m d, .slice C p q] 36)).alloc (.cells #[.string x, .string y] 62)) HV_2.out HY_2.out HH_2.out
  cases hl : liB v with
  | false =>
    rw [hl] at CL
    clear hl
    go_enter Tryd.func8, Tryd.ntmps8
    go_wp2_with fail
    (refine (CL).mono ?_); rintro e w3 ⟨rfl, hb⟩
    have HB3 := Lib.hid (nbelow_on HB2.out hb)
    have HE3 := Lib.hid (HE2.out.below hb)
    have HV_3 := Lib.hid (HV_2.out.below hb)
    have HY_3 := Lib.hid (HY_2.out.below hb)
    have HH_3 := Lib.hid (HH_2.out.below hb)
    have K0_3 := Lib.hid (K0_2.out.below hb)
    have K1_3 := Lib.hid (K1_2.out.below hb)
    clear hb HV_2 HY_2 HH_2 K0_2 K1_2 CL
    go_wp2_with fail
    (refine (awake_any w3 HE3.out).mono ?_); rintro e w4 ⟨rfl, hb⟩
    have HB4 := Lib.hid (nbelow_on HB3.out hb)
    have HE4 := Lib.hid (HE3.out.below hb)
    have HV_4 := Lib.hid (HV_3.out.below hb)
    have HY_4 := Lib.hid (HY_3.out.below hb)
    have HH_4 := Lib.hid (HH_3.out.below hb)
    have K0_4 := Lib.hid (K0_3.out.below hb)
    have K1_4 := Lib.hid (K1_3.out.below hb)
    clear hb HV_3 HY_3 HH_3 K0_3 K1_3
    go_wp2_with fail
    go_ret
    exact ⟨rfl, HB4.out⟩
  | true =>
    have HLI := Lib.hid (li_of hl)
    rw [hl] at CL
    clear hl
    cases hs : shB [⟨x.data.toList, y.data.toList⟩] with
    | false =>
      go_enter Tryd.func8, Tryd.ntmps8
      go_wp2_with fail
      (refine (CL).mono ?_); rintro e w3 ⟨rfl, hb⟩
      have HB3 := Lib.hid (nbelow_on HB2.out hb)
      have HE3 := Lib.hid (HE2.out.below hb)
      have HV_3 := Lib.hid (HV_2.out.below hb)
      have HY_3 := Lib.hid (HY_2.out.below hb)
      have HH_3 := Lib.hid (HH_2.out.below hb)
      have K0_3 := Lib.hid (K0_2.out.below hb)
      have K1_3 := Lib.hid (K1_2.out.below hb)
      clear hb HV_2 HY_2 HH_2 K0_2 K1_2 CL
      have a0 := K1_3.out.c 0 (v := .string x) rfl
      have a1 := K1_3.out.c 1 (v := .string y) rfl
      have CS := short_any (some ⟨w3.heap.size, 0, none⟩) 1 1 _ _ (one_vs w3 x y rfl)
      rw [hs] at CS
      have HB4 : Hid (Below w.heap.size w (w3.alloc (.cells #[.string x, .string y] 62))) := nbelow_on HB3.out (below_alloc _)
      have HE4 : Hid (Env (w3.alloc (.cells #[.string x, .string y] 62))) := HE3.out.below (below_alloc _)
      have HV_4 := Lib.hid (HV_3.out.below (below_alloc (w := w3) (.cells #[.string x, .string y] 62)))
      have HY_4 := Lib.hid (HY_3.out.below (below_alloc (w := w3) (.cells #[.string x, .string y] 62)))
      have HH_4 := Lib.hid (HH_3.out.below (below_alloc (w := w3) (.cells #[.string x, .string y] 62)))
      have K0_4 := Lib.hid (K0_3.out.below (below_alloc (w := w3) (.cells #[.string x, .string y] 62)))
      have K1_4 := Lib.hid (K1_3.out.below (below_alloc (w := w3) (.cells #[.string x, .string y] 62)))
      clear HV_3 HY_3 HH_3 K0_3 K1_3
      clear hs
      go_wp2_with fail
      (refine (CS).mono ?_); rintro e wx ⟨rfl, rfl⟩
      clear CS a0 a1
      go_wp2_with fail
      (refine (awake_any (w3.alloc (.cells #[.string x, .string y] 62)) HE4.out).mono ?_); rintro e w5 ⟨rfl, hb⟩
      have HB5 := Lib.hid (nbelow_on HB4.out hb)
      have HE5 := Lib.hid (HE4.out.below hb)
      have HV_5 := Lib.hid (HV_4.out.below hb)
      have HY_5 := Lib.hid (HY_4.out.below hb)
      have HH_5 := Lib.hid (HH_4.out.below hb)
      have K0_5 := Lib.hid (K0_4.out.below hb)
      have K1_5 := Lib.hid (K1_4.out.below hb)
      clear hb HV_4 HY_4 HH_4 K0_4 K1_4
      go_wp2_with fail
      go_ret
      exact ⟨rfl, HB5.out⟩
    | true =>
      have HX3 : Hid (x.size ≤ 300) := by rw [size_list]; exact (shB_at hs (List.mem_singleton.2 rfl)).1
      by_cases h3 : s.size ≤ 300
      · skip
        have q3 : ¬ (300 : Int) < (s.size : Int) := by omega
        clear h3
        have HFY : Hid (∀ y ∈ v.syms, y.args.length ≤ 100000) := fun y hy => Nat.le_trans (HLI.out.sy y hy).2 (by decide)
        have HFH : Hid (∀ y ∈ v.holes, y.ps.length ≤ 100000) := fun y hy => Nat.le_trans (HLI.out.ho y hy).2.1 (by decide)
        obtain ⟨RV, hRV⟩ : ∃ R, varF v.vars s.data.toList = R := ⟨_, rfl⟩
        have HRV := Lib.hid hRV
        clear hRV
        obtain ⟨RF, hRF⟩ : ∃ R, findF v.syms s.data.toList = R := ⟨_, rfl⟩
        have HRF := Lib.hid hRF
        clear hRF
        obtain ⟨RH, hRH⟩ : ∃ R, holeF v.holes s.data.toList = R := ⟨_, rfl⟩
        have HRH := Lib.hid hRH
        clear hRH
        obtain ⟨RW, hRW⟩ : ∃ R, varF (⟨withV v.vars ⟨x.data.toList, y.data.toList⟩, v.syms, v.holes⟩ : En).vars s.data.toList = R := ⟨_, rfl⟩
        have HRW := Lib.hid hRW
        clear hRW
        go_enter Tryd.func8, Tryd.ntmps8
        go_wp2_with fail
        (refine (CL).mono ?_); rintro e w3 ⟨rfl, hb⟩
        have HB3 := Lib.hid (nbelow_on HB2.out hb)
        have HE3 := Lib.hid (HE2.out.below hb)
        have HV_3 := Lib.hid (HV_2.out.below hb)
        have HY_3 := Lib.hid (HY_2.out.below hb)
        have HH_3 := Lib.hid (HH_2.out.below hb)
        have K0_3 := Lib.hid (K0_2.out.below hb)
        have K1_3 := Lib.hid (K1_2.out.below hb)
        clear hb HV_2 HY_2 HH_2 K0_2 K1_2 CL
        have a0 := K1_3.out.c 0 (v := .string x) rfl
        have a1 := K1_3.out.c 1 (v := .string y) rfl
        have CS := short_any (some ⟨w3.heap.size, 0, none⟩) 1 1 _ _ (one_vs w3 x y rfl)
        rw [hs] at CS
        have HB4 : Hid (Below w.heap.size w (w3.alloc (.cells #[.string x, .string y] 62))) := nbelow_on HB3.out (below_alloc _)
        have HE4 : Hid (Env (w3.alloc (.cells #[.string x, .string y] 62))) := HE3.out.below (below_alloc _)
        have HV_4 := Lib.hid (HV_3.out.below (below_alloc (w := w3) (.cells #[.string x, .string y] 62)))
        have HY_4 := Lib.hid (HY_3.out.below (below_alloc (w := w3) (.cells #[.string x, .string y] 62)))
        have HH_4 := Lib.hid (HH_3.out.below (below_alloc (w := w3) (.cells #[.string x, .string y] 62)))
        have K0_4 := Lib.hid (K0_3.out.below (below_alloc (w := w3) (.cells #[.string x, .string y] 62)))
        have K1_4 := Lib.hid (K1_3.out.below (below_alloc (w := w3) (.cells #[.string x, .string y] 62)))
        clear HV_3 HY_3 HH_3 K0_3 K1_3
        clear hs
        have k0 := K0_4.out.c 0 (v := .slice A n c) rfl
        have k1 := K0_4.out.c 1 (v := .slice B m d) rfl
        have k2 := K0_4.out.c 2 (v := .slice C p q) rfl
        have b0 := K1_4.out.c 0 (v := .string x) rfl
        have b1 := K1_4.out.c 1 (v := .string y) rfl
        go_wp2_with fail
        (refine (CS).mono ?_); rintro e wx ⟨rfl, rfl⟩
        clear CS a0 a1
        go_wp2_with fail
        (refine (with_at (w3.alloc (.cells #[.string x, .string y] 62)) _ (Below.refl _ _) A n c B m d C p q v x y HV_4.out HY_4.out HH_4.out HLI.out HX3.out).mono ?_); rintro e w5 ⟨A1, n1, c1, B1, m1, d1, C1, p1, q1, rfl, u1, u2, u3, hb⟩
        have HB5 := Lib.hid (nbelow_on HB4.out hb)
        have HE5 := Lib.hid (HE4.out.below hb)
        have HV_5 := Lib.hid (HV_4.out.below hb)
        have HY_5 := Lib.hid (HY_4.out.below hb)
        have HH_5 := Lib.hid (HH_4.out.below hb)
        have K0_5 := Lib.hid (K0_4.out.below hb)
        have K1_5 := Lib.hid (K1_4.out.below hb)
        clear hb HV_4 HY_4 HH_4 K0_4 K1_4 k0 k1 k2 b0 b1
        have U1_5 : Hid (Vs w5 A1 n1 c1 (⟨withV v.vars ⟨x.data.toList, y.data.toList⟩, v.syms, v.holes⟩ : En).vars) := u1.out
        clear u1 u2 u3
        have HB6 : Hid (Below w.heap.size w (w5.alloc (.cells #[.slice A1 n1 c1, .slice B1 m1 d1, .slice C1 p1 q1] 36))) := nbelow_on HB5.out (below_alloc _)
        have HE6 : Hid (Env (w5.alloc (.cells #[.slice A1 n1 c1, .slice B1 m1 d1, .slice C1 p1 q1] 36))) := HE5.out.below (below_alloc _)
        have HV_6 := Lib.hid (HV_5.out.below (below_alloc (w := w5) (.cells #[.slice A1 n1 c1, .slice B1 m1 d1, .slice C1 p1 q1] 36)))
        have HY_6 := Lib.hid (HY_5.out.below (below_alloc (w := w5) (.cells #[.slice A1 n1 c1, .slice B1 m1 d1, .slice C1 p1 q1] 36)))
        have HH_6 := Lib.hid (HH_5.out.below (below_alloc (w := w5) (.cells #[.slice A1 n1 c1, .slice B1 m1 d1, .slice C1 p1 q1] 36)))
        have K0_6 := Lib.hid (K0_5.out.below (below_alloc (w := w5) (.cells #[.slice A1 n1 c1, .slice B1 m1 d1, .slice C1 p1 q1] 36)))
        have K1_6 := Lib.hid (K1_5.out.below (below_alloc (w := w5) (.cells #[.slice A1 n1 c1, .slice B1 m1 d1, .slice C1 p1 q1] 36)))
        have U1_6 := Lib.hid (U1_5.out.below (below_alloc (w := w5) (.cells #[.slice A1 n1 c1, .slice B1 m1 d1, .slice C1 p1 q1] 36)))
        clear HV_5 HY_5 HH_5 K0_5 K1_5 U1_5
        have K2_6 : Hid (Bk 36 (w5.alloc (.cells #[.slice A1 n1 c1, .slice B1 m1 d1, .slice C1 p1 q1] 36)) (w5.heap.size) #[.slice A1 n1 c1, .slice B1 m1 d1, .slice C1 p1 q1]) := Bk.at _ (by simp)
        have l0 := K2_6.out.c 0 (v := .slice A1 n1 c1) rfl
        have l1 := K2_6.out.c 1 (v := .slice B1 m1 d1) rfl
        have l2 := K2_6.out.c 2 (v := .slice C1 p1 q1) rfl
        have b0 := K1_6.out.c 0 (v := .string x) rfl
        go_wp2_with fail
        (refine (var_any A1 n1 c1 B1 m1 d1 C1 p1 q1 (⟨withV v.vars ⟨x.data.toList, y.data.toList⟩, v.syms, v.holes⟩ : En) x (w5.alloc (.cells #[.slice A1 n1 c1, .slice B1 m1 d1, .slice C1 p1 q1] 36)) U1_6.out).mono ?_); rintro e w7 ⟨y1, rfl, hy, hb⟩
        have HB7 := Lib.hid (nbelow_on HB6.out hb)
        have HE7 := Lib.hid (HE6.out.below hb)
        have HV_7 := Lib.hid (HV_6.out.below hb)
        have HY_7 := Lib.hid (HY_6.out.below hb)
        have HH_7 := Lib.hid (HH_6.out.below hb)
        have K0_7 := Lib.hid (K0_6.out.below hb)
        have K1_7 := Lib.hid (K1_6.out.below hb)
        have U1_7 := Lib.hid (U1_6.out.below hb)
        have K2_7 := Lib.hid (K2_6.out.below hb)
        clear hb HV_6 HY_6 HH_6 K0_6 K1_6 U1_6 K2_6 l0 l1 l2 b0
        have HW1 : Hid (varF (⟨withV v.vars ⟨x.data.toList, y.data.toList⟩, v.syms, v.holes⟩ : En).vars x.data.toList = some ⟨x.data.toList, y.data.toList⟩) := varF_with_same v.vars ⟨x.data.toList, y.data.toList⟩
        rw [HW1.out] at hy ⊢
        have HY1 : Hid (y1.data.toList = y.data.toList) := hy.out
        clear hy
        have k0 := K0_7.out.c 0 (v := .slice A n c) rfl
        have k1 := K0_7.out.c 1 (v := .slice B m d) rfl
        have k2 := K0_7.out.c 2 (v := .slice C p q) rfl
        go_wp2_with fail
        (refine (var_any A n c B m d C p q v s w7 HV_7.out).mono ?_); rintro e w8 ⟨y2, rfl, hy, hb⟩
        have HB8 := Lib.hid (nbelow_on HB7.out hb)
        have HE8 := Lib.hid (HE7.out.below hb)
        have HV_8 := Lib.hid (HV_7.out.below hb)
        have HY_8 := Lib.hid (HY_7.out.below hb)
        have HH_8 := Lib.hid (HH_7.out.below hb)
        have K0_8 := Lib.hid (K0_7.out.below hb)
        have K1_8 := Lib.hid (K1_7.out.below hb)
        have U1_8 := Lib.hid (U1_7.out.below hb)
        have K2_8 := Lib.hid (K2_7.out.below hb)
        clear hb HV_7 HY_7 HH_7 K0_7 K1_7 U1_7 K2_7 k0 k1 k2
        rw [HRV.out] at hy ⊢
        have HY2 := Lib.hid hy.out
        clear hy
        have l0 := K2_8.out.c 0 (v := .slice A1 n1 c1) rfl
        have l1 := K2_8.out.c 1 (v := .slice B1 m1 d1) rfl
        have l2 := K2_8.out.c 2 (v := .slice C1 p1 q1) rfl
        go_wp2_with fail
        (refine (var_any A1 n1 c1 B1 m1 d1 C1 p1 q1 (⟨withV v.vars ⟨x.data.toList, y.data.toList⟩, v.syms, v.holes⟩ : En) s w8 U1_8.out).mono ?_); rintro e w9 ⟨y3, rfl, hy, hb⟩
        have HB9 := Lib.hid (nbelow_on HB8.out hb)
        have HE9 := Lib.hid (HE8.out.below hb)
        have HV_9 := Lib.hid (HV_8.out.below hb)
        have HY_9 := Lib.hid (HY_8.out.below hb)
        have HH_9 := Lib.hid (HH_8.out.below hb)
        have K0_9 := Lib.hid (K0_8.out.below hb)
        have K1_9 := Lib.hid (K1_8.out.below hb)
        have U1_9 := Lib.hid (U1_8.out.below hb)
        have K2_9 := Lib.hid (K2_8.out.below hb)
        clear hb HV_8 HY_8 HH_8 K0_8 K1_8 U1_8 K2_8 l0 l1 l2
        rw [HRW.out] at hy ⊢
        have HY3 := Lib.hid hy.out
        clear hy
        clear U1_9
        clear K2_9
        have b0 := K1_9.out.c 0 (v := .string x) rfl
        have b1 := K1_9.out.c 1 (v := .string y) rfl
        have t1 : (y1.toList == y.toList) = true := by rw [tolist_eq, tolist_eq, HY1.out]; exact beq_self_eq_true _
        obtain ⟨b2, hb2⟩ : ∃ b, RV.isSome = b := ⟨_, rfl⟩
        have HB2 := Lib.hid hb2
        rw [hb2]
        clear hb2
        obtain ⟨b3, hb3⟩ : ∃ b, RW.isSome = b := ⟨_, rfl⟩
        have HB3 := Lib.hid hb3
        rw [hb3]
        clear hb3
        cases hd : decide (x.data.toList = s.data.toList) with
        | true =>
          have TX : (s.toList == x.toList) = true := by rw [tolist_eq, tolist_eq, of_decide_eq_true hd]; exact beq_self_eq_true _
          clear hd
          go_wp2_with fail
          (refine (awake_any w9 HE9.out).mono ?_); rintro e w10 ⟨rfl, hb⟩
          have HB10 := Lib.hid (nbelow_on HB9.out hb)
          have HE10 := Lib.hid (HE9.out.below hb)
          have HV_10 := Lib.hid (HV_9.out.below hb)
          have HY_10 := Lib.hid (HY_9.out.below hb)
          have HH_10 := Lib.hid (HH_9.out.below hb)
          have K0_10 := Lib.hid (K0_9.out.below hb)
          have K1_10 := Lib.hid (K1_9.out.below hb)
          clear hb HV_9 HY_9 HH_9 K0_9 K1_9 b0 b1
          have k0 := K0_10.out.c 0 (v := .slice A n c) rfl
          have k1 := K0_10.out.c 1 (v := .slice B m d) rfl
          have k2 := K0_10.out.c 2 (v := .slice C p q) rfl
          by_cases he : envI v = 0
          · skip
            have HEV := Lib.hid he
            clear he
            go_wp2_with fail
            (refine (env_any A n c B m d C p q v w10 HE10.out HLI.out.fits HV_10.out HY_10.out HH_10.out).mono ?_); rintro e w11 ⟨rfl, hb⟩
            have HB11 := Lib.hid (nbelow_on HB10.out hb)
            have HE11 := Lib.hid (HE10.out.below hb)
            have HV_11 := Lib.hid (HV_10.out.below hb)
            have HY_11 := Lib.hid (HY_10.out.below hb)
            have HH_11 := Lib.hid (HH_10.out.below hb)
            have K0_11 := Lib.hid (K0_10.out.below hb)
            have K1_11 := Lib.hid (K1_10.out.below hb)
            clear hb HV_10 HY_10 HH_10 K0_10 K1_10 k0 k1 k2
            rw [HEV.out]
            have k0 := K0_11.out.c 0 (v := .slice A n c) rfl
            have k1 := K0_11.out.c 1 (v := .slice B m d) rfl
            have k2 := K0_11.out.c 2 (v := .slice C p q) rfl
            go_wp2_with fail
            (refine (find_any A n c B m d C p q v s w11 HY_11.out HFY.out).mono ?_); rintro e w12 ⟨x4, A4, n4, c4, y4, rfl, hx, hs, hy, hb⟩
            have HB12 := Lib.hid (nbelow_on HB11.out hb)
            have HE12 := Lib.hid (HE11.out.below hb)
            have HV_12 := Lib.hid (HV_11.out.below hb)
            have HY_12 := Lib.hid (HY_11.out.below hb)
            have HH_12 := Lib.hid (HH_11.out.below hb)
            have K0_12 := Lib.hid (K0_11.out.below hb)
            have K1_12 := Lib.hid (K1_11.out.below hb)
            clear hb HV_11 HY_11 HH_11 K0_11 K1_11 k0 k1 k2
            rw [HRF.out] at hx hs hy ⊢
            have HX4 := Lib.hid hx.out
            have HYY4 := Lib.hid hy.out
            have SS4_12 : Hid (Ss w12 A4 n4 c4 (RF.getD sy0).args) := hs.out
            clear hx hs hy
            have HB13 : Hid (Below w.heap.size w (w12.alloc (.cells #[.string x4, .slice A4 n4 c4, .string y4] 25))) := nbelow_on HB12.out (below_alloc _)
            have HE13 : Hid (Env (w12.alloc (.cells #[.string x4, .slice A4 n4 c4, .string y4] 25))) := HE12.out.below (below_alloc _)
            have HV_13 := Lib.hid (HV_12.out.below (below_alloc (w := w12) (.cells #[.string x4, .slice A4 n4 c4, .string y4] 25)))
            have HY_13 := Lib.hid (HY_12.out.below (below_alloc (w := w12) (.cells #[.string x4, .slice A4 n4 c4, .string y4] 25)))
            have HH_13 := Lib.hid (HH_12.out.below (below_alloc (w := w12) (.cells #[.string x4, .slice A4 n4 c4, .string y4] 25)))
            have K0_13 := Lib.hid (K0_12.out.below (below_alloc (w := w12) (.cells #[.string x4, .slice A4 n4 c4, .string y4] 25)))
            have K1_13 := Lib.hid (K1_12.out.below (below_alloc (w := w12) (.cells #[.string x4, .slice A4 n4 c4, .string y4] 25)))
            have SS4_13 := Lib.hid (SS4_12.out.below (below_alloc (w := w12) (.cells #[.string x4, .slice A4 n4 c4, .string y4] 25)))
            clear HV_12 HY_12 HH_12 K0_12 K1_12 SS4_12
            have T4_13 : Hid (Bk 25 (w12.alloc (.cells #[.string x4, .slice A4 n4 c4, .string y4] 25)) (w12.heap.size) #[.string x4, .slice A4 n4 c4, .string y4]) := Bk.at _ (by simp)
            have k0 := K0_13.out.c 0 (v := .slice A n c) rfl
            have k1 := K0_13.out.c 1 (v := .slice B m d) rfl
            have k2 := K0_13.out.c 2 (v := .slice C p q) rfl
            go_wp2_with fail
            (refine (hole_any A n c B m d C p q v s (w12.alloc (.cells #[.string x4, .slice A4 n4 c4, .string y4] 25)) HH_13.out HFH.out).mono ?_); rintro e w14 ⟨x5, A5, n5, c5, rfl, hx, hv, hb⟩
            have HB14 := Lib.hid (nbelow_on HB13.out hb)
            have HE14 := Lib.hid (HE13.out.below hb)
            have HV_14 := Lib.hid (HV_13.out.below hb)
            have HY_14 := Lib.hid (HY_13.out.below hb)
            have HH_14 := Lib.hid (HH_13.out.below hb)
            have K0_14 := Lib.hid (K0_13.out.below hb)
            have K1_14 := Lib.hid (K1_13.out.below hb)
            have SS4_14 := Lib.hid (SS4_13.out.below hb)
            have T4_14 := Lib.hid (T4_13.out.below hb)
            clear hb HV_13 HY_13 HH_13 K0_13 K1_13 SS4_13 T4_13 k0 k1 k2
            rw [HRH.out] at hx hv ⊢
            have HX5 := Lib.hid hx.out
            have SV5_14 : Hid (Vs w14 A5 n5 c5 (RH.getD ho0).ps) := hv.out
            clear hx hv
            have HB15 : Hid (Below w.heap.size w (w14.alloc (.cells #[.string x5, .slice A5 n5 c5] 44))) := nbelow_on HB14.out (below_alloc _)
            have HE15 : Hid (Env (w14.alloc (.cells #[.string x5, .slice A5 n5 c5] 44))) := HE14.out.below (below_alloc _)
            have HV_15 := Lib.hid (HV_14.out.below (below_alloc (w := w14) (.cells #[.string x5, .slice A5 n5 c5] 44)))
            have HY_15 := Lib.hid (HY_14.out.below (below_alloc (w := w14) (.cells #[.string x5, .slice A5 n5 c5] 44)))
            have HH_15 := Lib.hid (HH_14.out.below (below_alloc (w := w14) (.cells #[.string x5, .slice A5 n5 c5] 44)))
            have K0_15 := Lib.hid (K0_14.out.below (below_alloc (w := w14) (.cells #[.string x5, .slice A5 n5 c5] 44)))
            have K1_15 := Lib.hid (K1_14.out.below (below_alloc (w := w14) (.cells #[.string x5, .slice A5 n5 c5] 44)))
            have SS4_15 := Lib.hid (SS4_14.out.below (below_alloc (w := w14) (.cells #[.string x5, .slice A5 n5 c5] 44)))
            have T4_15 := Lib.hid (T4_14.out.below (below_alloc (w := w14) (.cells #[.string x5, .slice A5 n5 c5] 44)))
            have SV5_15 := Lib.hid (SV5_14.out.below (below_alloc (w := w14) (.cells #[.string x5, .slice A5 n5 c5] 44)))
            clear HV_14 HY_14 HH_14 K0_14 K1_14 SS4_14 T4_14 SV5_14
            have T5_15 : Hid (Bk 44 (w14.alloc (.cells #[.string x5, .slice A5 n5 c5] 44)) (w14.heap.size) #[.string x5, .slice A5 n5 c5]) := Bk.at _ (by simp)
            clear HV_15
            clear HY_15
            clear HH_15
            clear K0_15
            clear K1_15
            cases b2 with
            | false =>
                cases bf : RF.isSome with
                | false =>
                  clear bf
                  cases bh : RH.isSome with
                  | false =>
                    clear bh
                    go_wp2_with fail
                    go_ret
                    exact ⟨rfl, HB15.out⟩
                  | true =>
                    obtain ⟨hh, hhh⟩ := some_of bh
                    clear bh
                    have HHH := Lib.hid (HRH.out.trans hhh)
                    have HHR := Lib.hid hhh
                    clear hhh
                    have g0 := T5_15.out.c 0 (v := .string x5) rfl
                    have g1 := T5_15.out.c 1 (v := .slice A5 n5 c5) rfl
                    have hl5 : Hs ((w14.alloc (.cells #[.string x5, .slice A5 n5 c5] 44)).alloc (.cells #[.string x5, .slice A5 n5 c5] 44)) (some ⟨w14.heap.size + 1, 0, none⟩) 1 1 [hh] := by
                      have h := hs_lit (t := 44) (x := x5) SV5_15.out (b := w14.heap.size + 1) (by simp)
                      rw [HX5.out, HHR.out] at h
                      exact h
                    have HB16 : Hid (Below w.heap.size w ((w14.alloc (.cells #[.string x5, .slice A5 n5 c5] 44)).alloc (.cells #[.string x5, .slice A5 n5 c5] 44))) := nbelow_on HB15.out (below_alloc _)
                    have HE16 : Hid (Env ((w14.alloc (.cells #[.string x5, .slice A5 n5 c5] 44)).alloc (.cells #[.string x5, .slice A5 n5 c5] 44))) := HE15.out.below (below_alloc _)
                    have SS4_16 := Lib.hid (SS4_15.out.below (below_alloc (w := (w14.alloc (.cells #[.string x5, .slice A5 n5 c5] 44))) (.cells #[.string x5, .slice A5 n5 c5] 44)))
                    have T4_16 := Lib.hid (T4_15.out.below (below_alloc (w := (w14.alloc (.cells #[.string x5, .slice A5 n5 c5] 44))) (.cells #[.string x5, .slice A5 n5 c5] 44)))
                    have SV5_16 := Lib.hid (SV5_15.out.below (below_alloc (w := (w14.alloc (.cells #[.string x5, .slice A5 n5 c5] 44))) (.cells #[.string x5, .slice A5 n5 c5] 44)))
                    have T5_16 := Lib.hid (T5_15.out.below (below_alloc (w := (w14.alloc (.cells #[.string x5, .slice A5 n5 c5] 44))) (.cells #[.string x5, .slice A5 n5 c5] 44)))
                    clear SS4_15 T4_15 SV5_15 T5_15
                    have H5_16 : Hid (Hs ((w14.alloc (.cells #[.string x5, .slice A5 n5 c5] 44)).alloc (.cells #[.string x5, .slice A5 n5 c5] 44)) (some ⟨w14.heap.size + 1, 0, none⟩) 1 1 [hh]) := hl5
                    clear hl5
                    go_wp2_with fail
                    (refine (env_any none 0 0 none 0 0 (some ⟨w14.heap.size + 1, 0, none⟩) 1 1 ⟨[], [], [hh]⟩ ((w14.alloc (.cells #[.string x5, .slice A5 n5 c5] 44)).alloc (.cells #[.string x5, .slice A5 n5 c5] 44)) HE16.out (fits_hole HLI.out HHH.out) (Vs.nil _) (Ys.nil _) H5_16.out).mono ?_); rintro e w17 ⟨rfl, hb⟩
                    have HB17 := Lib.hid (nbelow_on HB16.out hb)
                    have HE17 := Lib.hid (HE16.out.below hb)
                    have SS4_17 := Lib.hid (SS4_16.out.below hb)
                    have T4_17 := Lib.hid (T4_16.out.below hb)
                    have SV5_17 := Lib.hid (SV5_16.out.below hb)
                    have T5_17 := Lib.hid (T5_16.out.below hb)
                    have H5_17 := Lib.hid (H5_16.out.below hb)
                    clear hb SS4_16 T4_16 SV5_16 T5_16 H5_16 g0 g1
                    rw [(env_hole HEV.out HHH.out).2]
                    go_wp2_with fail
                    (refine (rcore_any s w17).mono ?_); rintro e w18 ⟨rfl, hb⟩
                    have HB18 := Lib.hid (nbelow_on HB17.out hb)
                    have HE18 := Lib.hid (HE17.out.below hb)
                    have SS4_18 := Lib.hid (SS4_17.out.below hb)
                    have T4_18 := Lib.hid (T4_17.out.below hb)
                    have SV5_18 := Lib.hid (SV5_17.out.below hb)
                    have T5_18 := Lib.hid (T5_17.out.below hb)
                    have H5_18 := Lib.hid (H5_17.out.below hb)
                    clear hb SS4_17 T4_17 SV5_17 T5_17 H5_17
                    rw [(env_hole HEV.out HHH.out).1, show errI true = 0 from rfl]
                    go_wp2_with fail
                    go_ret
                    exact ⟨rfl, HB18.out⟩
                | true =>
                  cases ht : decide (s.data.toList = tTag) with
                  | true =>
                    have TB0 : (s.toList == [116, 97, 103]) = true := txt_eq_lit ht
                    clear ht bf
                    cases bh : RH.isSome with
                    | false =>
                      clear bh
                      go_wp2_with fail
                      go_ret
                      exact ⟨rfl, HB15.out⟩
                    | true =>
                      obtain ⟨hh, hhh⟩ := some_of bh
                      clear bh
                      have HHH := Lib.hid (HRH.out.trans hhh)
                      have HHR := Lib.hid hhh
                      clear hhh
                      have g0 := T5_15.out.c 0 (v := .string x5) rfl
                      have g1 := T5_15.out.c 1 (v := .slice A5 n5 c5) rfl
                      have hl5 : Hs ((w14.alloc (.cells #[.string x5, .slice A5 n5 c5] 44)).alloc (.cells #[.string x5, .slice A5 n5 c5] 44)) (some ⟨w14.heap.size + 1, 0, none⟩) 1 1 [hh] := by
                        have h := hs_lit (t := 44) (x := x5) SV5_15.out (b := w14.heap.size + 1) (by simp)
                        rw [HX5.out, HHR.out] at h
                        exact h
                      have HB16 : Hid (Below w.heap.size w ((w14.alloc (.cells #[.string x5, .slice A5 n5 c5] 44)).alloc (.cells #[.string x5, .slice A5 n5 c5] 44))) := nbelow_on HB15.out (below_alloc _)
                      have HE16 : Hid (Env ((w14.alloc (.cells #[.string x5, .slice A5 n5 c5] 44)).alloc (.cells #[.string x5, .slice A5 n5 c5] 44))) := HE15.out.below (below_alloc _)
                      have SS4_16 := Lib.hid (SS4_15.out.below (below_alloc (w := (w14.alloc (.cells #[.string x5, .slice A5 n5 c5] 44))) (.cells #[.string x5, .slice A5 n5 c5] 44)))
                      have T4_16 := Lib.hid (T4_15.out.below (below_alloc (w := (w14.alloc (.cells #[.string x5, .slice A5 n5 c5] 44))) (.cells #[.string x5, .slice A5 n5 c5] 44)))
                      have SV5_16 := Lib.hid (SV5_15.out.below (below_alloc (w := (w14.alloc (.cells #[.string x5, .slice A5 n5 c5] 44))) (.cells #[.string x5, .slice A5 n5 c5] 44)))
                      have T5_16 := Lib.hid (T5_15.out.below (below_alloc (w := (w14.alloc (.cells #[.string x5, .slice A5 n5 c5] 44))) (.cells #[.string x5, .slice A5 n5 c5] 44)))
                      clear SS4_15 T4_15 SV5_15 T5_15
                      have H5_16 : Hid (Hs ((w14.alloc (.cells #[.string x5, .slice A5 n5 c5] 44)).alloc (.cells #[.string x5, .slice A5 n5 c5] 44)) (some ⟨w14.heap.size + 1, 0, none⟩) 1 1 [hh]) := hl5
                      clear hl5
                      go_wp2_with fail
                      (refine (env_any none 0 0 none 0 0 (some ⟨w14.heap.size + 1, 0, none⟩) 1 1 ⟨[], [], [hh]⟩ ((w14.alloc (.cells #[.string x5, .slice A5 n5 c5] 44)).alloc (.cells #[.string x5, .slice A5 n5 c5] 44)) HE16.out (fits_hole HLI.out HHH.out) (Vs.nil _) (Ys.nil _) H5_16.out).mono ?_); rintro e w17 ⟨rfl, hb⟩
                      have HB17 := Lib.hid (nbelow_on HB16.out hb)
                      have HE17 := Lib.hid (HE16.out.below hb)
                      have SS4_17 := Lib.hid (SS4_16.out.below hb)
                      have T4_17 := Lib.hid (T4_16.out.below hb)
                      have SV5_17 := Lib.hid (SV5_16.out.below hb)
                      have T5_17 := Lib.hid (T5_16.out.below hb)
                      have H5_17 := Lib.hid (H5_16.out.below hb)
                      clear hb SS4_16 T4_16 SV5_16 T5_16 H5_16 g0 g1
                      rw [(env_hole HEV.out HHH.out).2]
                      go_wp2_with fail
                      (refine (rcore_any s w17).mono ?_); rintro e w18 ⟨rfl, hb⟩
                      have HB18 := Lib.hid (nbelow_on HB17.out hb)
                      have HE18 := Lib.hid (HE17.out.below hb)
                      have SS4_18 := Lib.hid (SS4_17.out.below hb)
                      have T4_18 := Lib.hid (T4_17.out.below hb)
                      have SV5_18 := Lib.hid (SV5_17.out.below hb)
                      have T5_18 := Lib.hid (T5_17.out.below hb)
                      have H5_18 := Lib.hid (H5_17.out.below hb)
                      clear hb SS4_17 T4_17 SV5_17 T5_17 H5_17
                      rw [(env_hole HEV.out HHH.out).1, show errI true = 0 from rfl]
                      go_wp2_with fail
                      go_ret
                      exact ⟨rfl, HB18.out⟩
                  | false =>
                    have TB0 : (s.toList == [116, 97, 103]) = false := txt_eq_lit ht
                    cases hv : decide (s.data.toList = tVal) with
                    | true =>
                      have TB1 : (s.toList == [118, 97, 108]) = true := txt_eq_lit hv
                      clear ht hv bf
                      cases bh : RH.isSome with
                      | false =>
                        clear bh
                        go_wp2_with fail
                        go_ret
                        exact ⟨rfl, HB15.out⟩
                      | true =>
                        obtain ⟨hh, hhh⟩ := some_of bh
                        clear bh
                        have HHH := Lib.hid (HRH.out.trans hhh)
                        have HHR := Lib.hid hhh
                        clear hhh
                        have g0 := T5_15.out.c 0 (v := .string x5) rfl
                        have g1 := T5_15.out.c 1 (v := .slice A5 n5 c5) rfl
                        have hl5 : Hs ((w14.alloc (.cells #[.string x5, .slice A5 n5 c5] 44)).alloc (.cells #[.string x5, .slice A5 n5 c5] 44)) (some ⟨w14.heap.size + 1, 0, none⟩) 1 1 [hh] := by
                          have h := hs_lit (t := 44) (x := x5) SV5_15.out (b := w14.heap.size + 1) (by simp)
                          rw [HX5.out, HHR.out] at h
                          exact h
                        have HB16 : Hid (Below w.heap.size w ((w14.alloc (.cells #[.string x5, .slice A5 n5 c5] 44)).alloc (.cells #[.string x5, .slice A5 n5 c5] 44))) := nbelow_on HB15.out (below_alloc _)
                        have HE16 : Hid (Env ((w14.alloc (.cells #[.string x5, .slice A5 n5 c5] 44)).alloc (.cells #[.string x5, .slice A5 n5 c5] 44))) := HE15.out.below (below_alloc _)
                        have SS4_16 := Lib.hid (SS4_15.out.below (below_alloc (w := (w14.alloc (.cells #[.string x5, .slice A5 n5 c5] 44))) (.cells #[.string x5, .slice A5 n5 c5] 44)))
                        have T4_16 := Lib.hid (T4_15.out.below (below_alloc (w := (w14.alloc (.cells #[.string x5, .slice A5 n5 c5] 44))) (.cells #[.string x5, .slice A5 n5 c5] 44)))
                        have SV5_16 := Lib.hid (SV5_15.out.below (below_alloc (w := (w14.alloc (.cells #[.string x5, .slice A5 n5 c5] 44))) (.cells #[.string x5, .slice A5 n5 c5] 44)))
                        have T5_16 := Lib.hid (T5_15.out.below (below_alloc (w := (w14.alloc (.cells #[.string x5, .slice A5 n5 c5] 44))) (.cells #[.string x5, .slice A5 n5 c5] 44)))
                        clear SS4_15 T4_15 SV5_15 T5_15
                        have H5_16 : Hid (Hs ((w14.alloc (.cells #[.string x5, .slice A5 n5 c5] 44)).alloc (.cells #[.string x5, .slice A5 n5 c5] 44)) (some ⟨w14.heap.size + 1, 0, none⟩) 1 1 [hh]) := hl5
                        clear hl5
                        go_wp2_with fail
                        (refine (env_any none 0 0 none 0 0 (some ⟨w14.heap.size + 1, 0, none⟩) 1 1 ⟨[], [], [hh]⟩ ((w14.alloc (.cells #[.string x5, .slice A5 n5 c5] 44)).alloc (.cells #[.string x5, .slice A5 n5 c5] 44)) HE16.out (fits_hole HLI.out HHH.out) (Vs.nil _) (Ys.nil _) H5_16.out).mono ?_); rintro e w17 ⟨rfl, hb⟩
                        have HB17 := Lib.hid (nbelow_on HB16.out hb)
                        have HE17 := Lib.hid (HE16.out.below hb)
                        have SS4_17 := Lib.hid (SS4_16.out.below hb)
                        have T4_17 := Lib.hid (T4_16.out.below hb)
                        have SV5_17 := Lib.hid (SV5_16.out.below hb)
                        have T5_17 := Lib.hid (T5_16.out.below hb)
                        have H5_17 := Lib.hid (H5_16.out.below hb)
                        clear hb SS4_16 T4_16 SV5_16 T5_16 H5_16 g0 g1
                        rw [(env_hole HEV.out HHH.out).2]
                        go_wp2_with fail
                        (refine (rcore_any s w17).mono ?_); rintro e w18 ⟨rfl, hb⟩
                        have HB18 := Lib.hid (nbelow_on HB17.out hb)
                        have HE18 := Lib.hid (HE17.out.below hb)
                        have SS4_18 := Lib.hid (SS4_17.out.below hb)
                        have T4_18 := Lib.hid (T4_17.out.below hb)
                        have SV5_18 := Lib.hid (SV5_17.out.below hb)
                        have T5_18 := Lib.hid (T5_17.out.below hb)
                        have H5_18 := Lib.hid (H5_17.out.below hb)
                        clear hb SS4_17 T4_17 SV5_17 T5_17 H5_17
                        rw [(env_hole HEV.out HHH.out).1, show errI true = 0 from rfl]
                        go_wp2_with fail
                        go_ret
                        exact ⟨rfl, HB18.out⟩
                    | false =>
                      have TB1 : (s.toList == [118, 97, 108]) = false := txt_eq_lit hv
                      obtain ⟨yy, hyy⟩ := some_of bf
                      have HSY : Hid (symI ⟨x4.data.toList, (RF.getD sy0).args, y4.data.toList⟩ = 0) := by
                        rw [HX4.out, HYY4.out, hyy]
                        exact env_sym HEV.out ((findF_sym (of_decide_eq_false ht) (of_decide_eq_false hv)).symm.trans (HRF.out.trans hyy))
                      clear ht hv bf hyy
                      cases bh : RH.isSome with
                      | false =>
                        clear bh
                        have e0 := T4_15.out.c 0 (v := .string x4) rfl
                        have e1 := T4_15.out.c 1 (v := .slice A4 n4 c4) rfl
                        have e2 := T4_15.out.c 2 (v := .string y4) rfl
                        go_wp2_with fail
                        (refine (sym_any x4 y4 A4 n4 c4 _ (w14.alloc (.cells #[.string x5, .slice A5 n5 c5] 44)) HE15.out SS4_15.out).mono ?_); rintro e w16 ⟨rfl, hb⟩
                        have HB16 := Lib.hid (nbelow_on HB15.out hb)
                        have HE16 := Lib.hid (HE15.out.below hb)
                        have SS4_16 := Lib.hid (SS4_15.out.below hb)
                        have T4_16 := Lib.hid (T4_15.out.below hb)
                        have SV5_16 := Lib.hid (SV5_15.out.below hb)
                        have T5_16 := Lib.hid (T5_15.out.below hb)
                        clear hb SS4_15 T4_15 SV5_15 T5_15 e0 e1 e2
                        rw [HSY.out]
                        go_wp2_with fail
                        go_ret
                        exact ⟨rfl, HB16.out⟩
                      | true =>
                        obtain ⟨hh, hhh⟩ := some_of bh
                        clear bh
                        have HHH := Lib.hid (HRH.out.trans hhh)
                        have HHR := Lib.hid hhh
                        clear hhh
                        have e0 := T4_15.out.c 0 (v := .string x4) rfl
                        have e1 := T4_15.out.c 1 (v := .slice A4 n4 c4) rfl
                        have e2 := T4_15.out.c 2 (v := .string y4) rfl
                        go_wp2_with fail
                        (refine (sym_any x4 y4 A4 n4 c4 _ (w14.alloc (.cells #[.string x5, .slice A5 n5 c5] 44)) HE15.out SS4_15.out).mono ?_); rintro e w16 ⟨rfl, hb⟩
                        have HB16 := Lib.hid (nbelow_on HB15.out hb)
                        have HE16 := Lib.hid (HE15.out.below hb)
                        have SS4_16 := Lib.hid (SS4_15.out.below hb)
                        have T4_16 := Lib.hid (T4_15.out.below hb)
                        have SV5_16 := Lib.hid (SV5_15.out.below hb)
                        have T5_16 := Lib.hid (T5_15.out.below hb)
                        clear hb SS4_15 T4_15 SV5_15 T5_15 e0 e1 e2
                        rw [HSY.out]
                        have g0 := T5_16.out.c 0 (v := .string x5) rfl
                        have g1 := T5_16.out.c 1 (v := .slice A5 n5 c5) rfl
                        have hl5 : Hs (w16.alloc (.cells #[.string x5, .slice A5 n5 c5] 44)) (some ⟨w16.heap.size, 0, none⟩) 1 1 [hh] := by
                          have h := hs_lit (t := 44) (x := x5) SV5_16.out (b := w16.heap.size) (by simp)
                          rw [HX5.out, HHR.out] at h
                          exact h
                        have HB17 : Hid (Below w.heap.size w (w16.alloc (.cells #[.string x5, .slice A5 n5 c5] 44))) := nbelow_on HB16.out (below_alloc _)
                        have HE17 : Hid (Env (w16.alloc (.cells #[.string x5, .slice A5 n5 c5] 44))) := HE16.out.below (below_alloc _)
                        have SS4_17 := Lib.hid (SS4_16.out.below (below_alloc (w := w16) (.cells #[.string x5, .slice A5 n5 c5] 44)))
                        have T4_17 := Lib.hid (T4_16.out.below (below_alloc (w := w16) (.cells #[.string x5, .slice A5 n5 c5] 44)))
                        have SV5_17 := Lib.hid (SV5_16.out.below (below_alloc (w := w16) (.cells #[.string x5, .slice A5 n5 c5] 44)))
                        have T5_17 := Lib.hid (T5_16.out.below (below_alloc (w := w16) (.cells #[.string x5, .slice A5 n5 c5] 44)))
                        clear SS4_16 T4_16 SV5_16 T5_16
                        have H5_17 : Hid (Hs (w16.alloc (.cells #[.string x5, .slice A5 n5 c5] 44)) (some ⟨w16.heap.size, 0, none⟩) 1 1 [hh]) := hl5
                        clear hl5
                        go_wp2_with fail
                        (refine (env_any none 0 0 none 0 0 (some ⟨w16.heap.size, 0, none⟩) 1 1 ⟨[], [], [hh]⟩ (w16.alloc (.cells #[.string x5, .slice A5 n5 c5] 44)) HE17.out (fits_hole HLI.out HHH.out) (Vs.nil _) (Ys.nil _) H5_17.out).mono ?_); rintro e w18 ⟨rfl, hb⟩
                        have HB18 := Lib.hid (nbelow_on HB17.out hb)
                        have HE18 := Lib.hid (HE17.out.below hb)
                        have SS4_18 := Lib.hid (SS4_17.out.below hb)
                        have T4_18 := Lib.hid (T4_17.out.below hb)
                        have SV5_18 := Lib.hid (SV5_17.out.below hb)
                        have T5_18 := Lib.hid (T5_17.out.below hb)
                        have H5_18 := Lib.hid (H5_17.out.below hb)
                        clear hb SS4_17 T4_17 SV5_17 T5_17 H5_17 g0 g1
                        rw [(env_hole HEV.out HHH.out).2]
                        go_wp2_with fail
                        (refine (rcore_any s w18).mono ?_); rintro e w19 ⟨rfl, hb⟩
                        have HB19 := Lib.hid (nbelow_on HB18.out hb)
                        have HE19 := Lib.hid (HE18.out.below hb)
                        have SS4_19 := Lib.hid (SS4_18.out.below hb)
                        have T4_19 := Lib.hid (T4_18.out.below hb)
                        have SV5_19 := Lib.hid (SV5_18.out.below hb)
                        have T5_19 := Lib.hid (T5_18.out.below hb)
                        have H5_19 := Lib.hid (H5_18.out.below hb)
                        clear hb SS4_18 T4_18 SV5_18 T5_18 H5_18
                        rw [(env_hole HEV.out HHH.out).1, show errI true = 0 from rfl]
                        go_wp2_with fail
                        go_ret
                        exact ⟨rfl, HB19.out⟩
            | true =>
                obtain ⟨u, hu⟩ := some_of HB2.out
                have HSO : Hid (sortB y2.data.toList = true) := by rw [HY2.out, hu]; exact env_var HEV.out (HRV.out.trans hu)
                clear hu
                cases bf : RF.isSome with
                | false =>
                  clear bf
                  cases bh : RH.isSome with
                  | false =>
                    clear bh
                    go_wp2_with fail
                    (refine (check_any y2 (w14.alloc (.cells #[.string x5, .slice A5 n5 c5] 44)) HE15.out).mono ?_); rintro e w16 ⟨rfl, hb⟩
                    have HB16 := Lib.hid (nbelow_on HB15.out hb)
                    have HE16 := Lib.hid (HE15.out.below hb)
                    have SS4_16 := Lib.hid (SS4_15.out.below hb)
                    have T4_16 := Lib.hid (T4_15.out.below hb)
                    have SV5_16 := Lib.hid (SV5_15.out.below hb)
                    have T5_16 := Lib.hid (T5_15.out.below hb)
                    clear hb SS4_15 T4_15 SV5_15 T5_15
                    rw [sortI_yes HSO.out]
                    go_wp2_with fail
                    go_ret
                    exact ⟨rfl, HB16.out⟩
                  | true =>
                    obtain ⟨hh, hhh⟩ := some_of bh
                    clear bh
                    have HHH := Lib.hid (HRH.out.trans hhh)
                    have HHR := Lib.hid hhh
                    clear hhh
                    go_wp2_with fail
                    (refine (check_any y2 (w14.alloc (.cells #[.string x5, .slice A5 n5 c5] 44)) HE15.out).mono ?_); rintro e w16 ⟨rfl, hb⟩
                    have HB16 := Lib.hid (nbelow_on HB15.out hb)
                    have HE16 := Lib.hid (HE15.out.below hb)
                    have SS4_16 := Lib.hid (SS4_15.out.below hb)
                    have T4_16 := Lib.hid (T4_15.out.below hb)
                    have SV5_16 := Lib.hid (SV5_15.out.below hb)
                    have T5_16 := Lib.hid (T5_15.out.below hb)
                    clear hb SS4_15 T4_15 SV5_15 T5_15
                    rw [sortI_yes HSO.out]
                    have g0 := T5_16.out.c 0 (v := .string x5) rfl
                    have g1 := T5_16.out.c 1 (v := .slice A5 n5 c5) rfl
                    have hl5 : Hs (w16.alloc (.cells #[.string x5, .slice A5 n5 c5] 44)) (some ⟨w16.heap.size, 0, none⟩) 1 1 [hh] := by
                      have h := hs_lit (t := 44) (x := x5) SV5_16.out (b := w16.heap.size) (by simp)
                      rw [HX5.out, HHR.out] at h
                      exact h
                    have HB17 : Hid (Below w.heap.size w (w16.alloc (.cells #[.string x5, .slice A5 n5 c5] 44))) := nbelow_on HB16.out (below_alloc _)
                    have HE17 : Hid (Env (w16.alloc (.cells #[.string x5, .slice A5 n5 c5] 44))) := HE16.out.below (below_alloc _)
                    have SS4_17 := Lib.hid (SS4_16.out.below (below_alloc (w := w16) (.cells #[.string x5, .slice A5 n5 c5] 44)))
                    have T4_17 := Lib.hid (T4_16.out.below (below_alloc (w := w16) (.cells #[.string x5, .slice A5 n5 c5] 44)))
                    have SV5_17 := Lib.hid (SV5_16.out.below (below_alloc (w := w16) (.cells #[.string x5, .slice A5 n5 c5] 44)))
                    have T5_17 := Lib.hid (T5_16.out.below (below_alloc (w := w16) (.cells #[.string x5, .slice A5 n5 c5] 44)))
                    clear SS4_16 T4_16 SV5_16 T5_16
                    have H5_17 : Hid (Hs (w16.alloc (.cells #[.string x5, .slice A5 n5 c5] 44)) (some ⟨w16.heap.size, 0, none⟩) 1 1 [hh]) := hl5
                    clear hl5
                    go_wp2_with fail
                    (refine (env_any none 0 0 none 0 0 (some ⟨w16.heap.size, 0, none⟩) 1 1 ⟨[], [], [hh]⟩ (w16.alloc (.cells #[.string x5, .slice A5 n5 c5] 44)) HE17.out (fits_hole HLI.out HHH.out) (Vs.nil _) (Ys.nil _) H5_17.out).mono ?_); rintro e w18 ⟨rfl, hb⟩
                    have HB18 := Lib.hid (nbelow_on HB17.out hb)
                    have HE18 := Lib.hid (HE17.out.below hb)
                    have SS4_18 := Lib.hid (SS4_17.out.below hb)
                    have T4_18 := Lib.hid (T4_17.out.below hb)
                    have SV5_18 := Lib.hid (SV5_17.out.below hb)
                    have T5_18 := Lib.hid (T5_17.out.below hb)
                    have H5_18 := Lib.hid (H5_17.out.below hb)
                    clear hb SS4_17 T4_17 SV5_17 T5_17 H5_17 g0 g1
                    rw [(env_hole HEV.out HHH.out).2]
                    go_wp2_with fail
                    (refine (rcore_any s w18).mono ?_); rintro e w19 ⟨rfl, hb⟩
                    have HB19 := Lib.hid (nbelow_on HB18.out hb)
                    have HE19 := Lib.hid (HE18.out.below hb)
                    have SS4_19 := Lib.hid (SS4_18.out.below hb)
                    have T4_19 := Lib.hid (T4_18.out.below hb)
                    have SV5_19 := Lib.hid (SV5_18.out.below hb)
                    have T5_19 := Lib.hid (T5_18.out.below hb)
                    have H5_19 := Lib.hid (H5_18.out.below hb)
                    clear hb SS4_18 T4_18 SV5_18 T5_18 H5_18
                    rw [(env_hole HEV.out HHH.out).1, show errI true = 0 from rfl]
                    go_wp2_with fail
                    go_ret
                    exact ⟨rfl, HB19.out⟩
                | true =>
                  cases ht : decide (s.data.toList = tTag) with
                  | true =>
                    have TB0 : (s.toList == [116, 97, 103]) = true := txt_eq_lit ht
                    clear ht bf
                    cases bh : RH.isSome with
                    | false =>
                      clear bh
                      go_wp2_with fail
                      (refine (check_any y2 (w14.alloc (.cells #[.string x5, .slice A5 n5 c5] 44)) HE15.out).mono ?_); rintro e w16 ⟨rfl, hb⟩
                      have HB16 := Lib.hid (nbelow_on HB15.out hb)
                      have HE16 := Lib.hid (HE15.out.below hb)
                      have SS4_16 := Lib.hid (SS4_15.out.below hb)
                      have T4_16 := Lib.hid (T4_15.out.below hb)
                      have SV5_16 := Lib.hid (SV5_15.out.below hb)
                      have T5_16 := Lib.hid (T5_15.out.below hb)
                      clear hb SS4_15 T4_15 SV5_15 T5_15
                      rw [sortI_yes HSO.out]
                      go_wp2_with fail
                      go_ret
                      exact ⟨rfl, HB16.out⟩
                    | true =>
                      obtain ⟨hh, hhh⟩ := some_of bh
                      clear bh
                      have HHH := Lib.hid (HRH.out.trans hhh)
                      have HHR := Lib.hid hhh
                      clear hhh
                      go_wp2_with fail
                      (refine (check_any y2 (w14.alloc (.cells #[.string x5, .slice A5 n5 c5] 44)) HE15.out).mono ?_); rintro e w16 ⟨rfl, hb⟩
                      have HB16 := Lib.hid (nbelow_on HB15.out hb)
                      have HE16 := Lib.hid (HE15.out.below hb)
                      have SS4_16 := Lib.hid (SS4_15.out.below hb)
                      have T4_16 := Lib.hid (T4_15.out.below hb)
                      have SV5_16 := Lib.hid (SV5_15.out.below hb)
                      have T5_16 := Lib.hid (T5_15.out.below hb)
                      clear hb SS4_15 T4_15 SV5_15 T5_15
                      rw [sortI_yes HSO.out]
                      have g0 := T5_16.out.c 0 (v := .string x5) rfl
                      have g1 := T5_16.out.c 1 (v := .slice A5 n5 c5) rfl
                      have hl5 : Hs (w16.alloc (.cells #[.string x5, .slice A5 n5 c5] 44)) (some ⟨w16.heap.size, 0, none⟩) 1 1 [hh] := by
                        have h := hs_lit (t := 44) (x := x5) SV5_16.out (b := w16.heap.size) (by simp)
                        rw [HX5.out, HHR.out] at h
                        exact h
                      have HB17 : Hid (Below w.heap.size w (w16.alloc (.cells #[.string x5, .slice A5 n5 c5] 44))) := nbelow_on HB16.out (below_alloc _)
                      have HE17 : Hid (Env (w16.alloc (.cells #[.string x5, .slice A5 n5 c5] 44))) := HE16.out.below (below_alloc _)
                      have SS4_17 := Lib.hid (SS4_16.out.below (below_alloc (w := w16) (.cells #[.string x5, .slice A5 n5 c5] 44)))
                      have T4_17 := Lib.hid (T4_16.out.below (below_alloc (w := w16) (.cells #[.string x5, .slice A5 n5 c5] 44)))
                      have SV5_17 := Lib.hid (SV5_16.out.below (below_alloc (w := w16) (.cells #[.string x5, .slice A5 n5 c5] 44)))
                      have T5_17 := Lib.hid (T5_16.out.below (below_alloc (w := w16) (.cells #[.string x5, .slice A5 n5 c5] 44)))
                      clear SS4_16 T4_16 SV5_16 T5_16
                      have H5_17 : Hid (Hs (w16.alloc (.cells #[.string x5, .slice A5 n5 c5] 44)) (some ⟨w16.heap.size, 0, none⟩) 1 1 [hh]) := hl5
                      clear hl5
                      go_wp2_with fail
                      (refine (env_any none 0 0 none 0 0 (some ⟨w16.heap.size, 0, none⟩) 1 1 ⟨[], [], [hh]⟩ (w16.alloc (.cells #[.string x5, .slice A5 n5 c5] 44)) HE17.out (fits_hole HLI.out HHH.out) (Vs.nil _) (Ys.nil _) H5_17.out).mono ?_); rintro e w18 ⟨rfl, hb⟩
                      have HB18 := Lib.hid (nbelow_on HB17.out hb)
                      have HE18 := Lib.hid (HE17.out.below hb)
                      have SS4_18 := Lib.hid (SS4_17.out.below hb)
                      have T4_18 := Lib.hid (T4_17.out.below hb)
                      have SV5_18 := Lib.hid (SV5_17.out.below hb)
                      have T5_18 := Lib.hid (T5_17.out.below hb)
                      have H5_18 := Lib.hid (H5_17.out.below hb)
                      clear hb SS4_17 T4_17 SV5_17 T5_17 H5_17 g0 g1
                      rw [(env_hole HEV.out HHH.out).2]
                      go_wp2_with fail
                      (refine (rcore_any s w18).mono ?_); rintro e w19 ⟨rfl, hb⟩
                      have HB19 := Lib.hid (nbelow_on HB18.out hb)
                      have HE19 := Lib.hid (HE18.out.below hb)
                      have SS4_19 := Lib.hid (SS4_18.out.below hb)
                      have T4_19 := Lib.hid (T4_18.out.below hb)
                      have SV5_19 := Lib.hid (SV5_18.out.below hb)
                      have T5_19 := Lib.hid (T5_18.out.below hb)
                      have H5_19 := Lib.hid (H5_18.out.below hb)
                      clear hb SS4_18 T4_18 SV5_18 T5_18 H5_18
                      rw [(env_hole HEV.out HHH.out).1, show errI true = 0 from rfl]
                      go_wp2_with fail
                      go_ret
                      exact ⟨rfl, HB19.out⟩
                  | false =>
                    have TB0 : (s.toList == [116, 97, 103]) = false := txt_eq_lit ht
                    cases hv : decide (s.data.toList = tVal) with
                    | true =>
                      have TB1 : (s.toList == [118, 97, 108]) = true := txt_eq_lit hv
                      clear ht hv bf
                      cases bh : RH.isSome with
                      | false =>
                        clear bh
                        go_wp2_with fail
                        (refine (check_any y2 (w14.alloc (.cells #[.string x5, .slice A5 n5 c5] 44)) HE15.out).mono ?_); rintro e w16 ⟨rfl, hb⟩
                        have HB16 := Lib.hid (nbelow_on HB15.out hb)
                        have HE16 := Lib.hid (HE15.out.below hb)
                        have SS4_16 := Lib.hid (SS4_15.out.below hb)
                        have T4_16 := Lib.hid (T4_15.out.below hb)
                        have SV5_16 := Lib.hid (SV5_15.out.below hb)
                        have T5_16 := Lib.hid (T5_15.out.below hb)
                        clear hb SS4_15 T4_15 SV5_15 T5_15
                        rw [sortI_yes HSO.out]
                        go_wp2_with fail
                        go_ret
                        exact ⟨rfl, HB16.out⟩
                      | true =>
                        obtain ⟨hh, hhh⟩ := some_of bh
                        clear bh
                        have HHH := Lib.hid (HRH.out.trans hhh)
                        have HHR := Lib.hid hhh
                        clear hhh
                        go_wp2_with fail
                        (refine (check_any y2 (w14.alloc (.cells #[.string x5, .slice A5 n5 c5] 44)) HE15.out).mono ?_); rintro e w16 ⟨rfl, hb⟩
                        have HB16 := Lib.hid (nbelow_on HB15.out hb)
                        have HE16 := Lib.hid (HE15.out.below hb)
                        have SS4_16 := Lib.hid (SS4_15.out.below hb)
                        have T4_16 := Lib.hid (T4_15.out.below hb)
                        have SV5_16 := Lib.hid (SV5_15.out.below hb)
                        have T5_16 := Lib.hid (T5_15.out.below hb)
                        clear hb SS4_15 T4_15 SV5_15 T5_15
                        rw [sortI_yes HSO.out]
                        have g0 := T5_16.out.c 0 (v := .string x5) rfl
                        have g1 := T5_16.out.c 1 (v := .slice A5 n5 c5) rfl
                        have hl5 : Hs (w16.alloc (.cells #[.string x5, .slice A5 n5 c5] 44)) (some ⟨w16.heap.size, 0, none⟩) 1 1 [hh] := by
                          have h := hs_lit (t := 44) (x := x5) SV5_16.out (b := w16.heap.size) (by simp)
                          rw [HX5.out, HHR.out] at h
                          exact h
                        have HB17 : Hid (Below w.heap.size w (w16.alloc (.cells #[.string x5, .slice A5 n5 c5] 44))) := nbelow_on HB16.out (below_alloc _)
                        have HE17 : Hid (Env (w16.alloc (.cells #[.string x5, .slice A5 n5 c5] 44))) := HE16.out.below (below_alloc _)
                        have SS4_17 := Lib.hid (SS4_16.out.below (below_alloc (w := w16) (.cells #[.string x5, .slice A5 n5 c5] 44)))
                        have T4_17 := Lib.hid (T4_16.out.below (below_alloc (w := w16) (.cells #[.string x5, .slice A5 n5 c5] 44)))
                        have SV5_17 := Lib.hid (SV5_16.out.below (below_alloc (w := w16) (.cells #[.string x5, .slice A5 n5 c5] 44)))
                        have T5_17 := Lib.hid (T5_16.out.below (below_alloc (w := w16) (.cells #[.string x5, .slice A5 n5 c5] 44)))
                        clear SS4_16 T4_16 SV5_16 T5_16
                        have H5_17 : Hid (Hs (w16.alloc (.cells #[.string x5, .slice A5 n5 c5] 44)) (some ⟨w16.heap.size, 0, none⟩) 1 1 [hh]) := hl5
                        clear hl5
                        go_wp2_with fail
                        (refine (env_any none 0 0 none 0 0 (some ⟨w16.heap.size, 0, none⟩) 1 1 ⟨[], [], [hh]⟩ (w16.alloc (.cells #[.string x5, .slice A5 n5 c5] 44)) HE17.out (fits_hole HLI.out HHH.out) (Vs.nil _) (Ys.nil _) H5_17.out).mono ?_); rintro e w18 ⟨rfl, hb⟩
                        have HB18 := Lib.hid (nbelow_on HB17.out hb)
                        have HE18 := Lib.hid (HE17.out.below hb)
                        have SS4_18 := Lib.hid (SS4_17.out.below hb)
                        have T4_18 := Lib.hid (T4_17.out.below hb)
                        have SV5_18 := Lib.hid (SV5_17.out.below hb)
                        have T5_18 := Lib.hid (T5_17.out.below hb)
                        have H5_18 := Lib.hid (H5_17.out.below hb)
                        clear hb SS4_17 T4_17 SV5_17 T5_17 H5_17 g0 g1
                        rw [(env_hole HEV.out HHH.out).2]
                        go_wp2_with fail
                        (refine (rcore_any s w18).mono ?_); rintro e w19 ⟨rfl, hb⟩
                        have HB19 := Lib.hid (nbelow_on HB18.out hb)
                        have HE19 := Lib.hid (HE18.out.below hb)
                        have SS4_19 := Lib.hid (SS4_18.out.below hb)
                        have T4_19 := Lib.hid (T4_18.out.below hb)
                        have SV5_19 := Lib.hid (SV5_18.out.below hb)
                        have T5_19 := Lib.hid (T5_18.out.below hb)
                        have H5_19 := Lib.hid (H5_18.out.below hb)
                        clear hb SS4_18 T4_18 SV5_18 T5_18 H5_18
                        rw [(env_hole HEV.out HHH.out).1, show errI true = 0 from rfl]
                        go_wp2_with fail
                        go_ret
                        exact ⟨rfl, HB19.out⟩
                    | false =>
                      have TB1 : (s.toList == [118, 97, 108]) = false := txt_eq_lit hv
                      obtain ⟨yy, hyy⟩ := some_of bf
                      have HSY : Hid (symI ⟨x4.data.toList, (RF.getD sy0).args, y4.data.toList⟩ = 0) := by
                        rw [HX4.out, HYY4.out, hyy]
                        exact env_sym HEV.out ((findF_sym (of_decide_eq_false ht) (of_decide_eq_false hv)).symm.trans (HRF.out.trans hyy))
                      clear ht hv bf hyy
                      cases bh : RH.isSome with
                      | false =>
                        clear bh
                        go_wp2_with fail
                        (refine (check_any y2 (w14.alloc (.cells #[.string x5, .slice A5 n5 c5] 44)) HE15.out).mono ?_); rintro e w16 ⟨rfl, hb⟩
                        have HB16 := Lib.hid (nbelow_on HB15.out hb)
                        have HE16 := Lib.hid (HE15.out.below hb)
                        have SS4_16 := Lib.hid (SS4_15.out.below hb)
                        have T4_16 := Lib.hid (T4_15.out.below hb)
                        have SV5_16 := Lib.hid (SV5_15.out.below hb)
                        have T5_16 := Lib.hid (T5_15.out.below hb)
                        clear hb SS4_15 T4_15 SV5_15 T5_15
                        rw [sortI_yes HSO.out]
                        have e0 := T4_16.out.c 0 (v := .string x4) rfl
                        have e1 := T4_16.out.c 1 (v := .slice A4 n4 c4) rfl
                        have e2 := T4_16.out.c 2 (v := .string y4) rfl
                        go_wp2_with fail
                        (refine (sym_any x4 y4 A4 n4 c4 _ w16 HE16.out SS4_16.out).mono ?_); rintro e w17 ⟨rfl, hb⟩
                        have HB17 := Lib.hid (nbelow_on HB16.out hb)
                        have HE17 := Lib.hid (HE16.out.below hb)
                        have SS4_17 := Lib.hid (SS4_16.out.below hb)
                        have T4_17 := Lib.hid (T4_16.out.below hb)
                        have SV5_17 := Lib.hid (SV5_16.out.below hb)
                        have T5_17 := Lib.hid (T5_16.out.below hb)
                        clear hb SS4_16 T4_16 SV5_16 T5_16 e0 e1 e2
                        rw [HSY.out]
                        go_wp2_with fail
                        go_ret
                        exact ⟨rfl, HB17.out⟩
                      | true =>
                        obtain ⟨hh, hhh⟩ := some_of bh
                        clear bh
                        have HHH := Lib.hid (HRH.out.trans hhh)
                        have HHR := Lib.hid hhh
                        clear hhh
                        go_wp2_with fail
                        (refine (check_any y2 (w14.alloc (.cells #[.string x5, .slice A5 n5 c5] 44)) HE15.out).mono ?_); rintro e w16 ⟨rfl, hb⟩
                        have HB16 := Lib.hid (nbelow_on HB15.out hb)
                        have HE16 := Lib.hid (HE15.out.below hb)
                        have SS4_16 := Lib.hid (SS4_15.out.below hb)
                        have T4_16 := Lib.hid (T4_15.out.below hb)
                        have SV5_16 := Lib.hid (SV5_15.out.below hb)
                        have T5_16 := Lib.hid (T5_15.out.below hb)
                        clear hb SS4_15 T4_15 SV5_15 T5_15
                        rw [sortI_yes HSO.out]
                        have e0 := T4_16.out.c 0 (v := .string x4) rfl
                        have e1 := T4_16.out.c 1 (v := .slice A4 n4 c4) rfl
                        have e2 := T4_16.out.c 2 (v := .string y4) rfl
                        go_wp2_with fail
                        (refine (sym_any x4 y4 A4 n4 c4 _ w16 HE16.out SS4_16.out).mono ?_); rintro e w17 ⟨rfl, hb⟩
                        have HB17 := Lib.hid (nbelow_on HB16.out hb)
                        have HE17 := Lib.hid (HE16.out.below hb)
                        have SS4_17 := Lib.hid (SS4_16.out.below hb)
                        have T4_17 := Lib.hid (T4_16.out.below hb)
                        have SV5_17 := Lib.hid (SV5_16.out.below hb)
                        have T5_17 := Lib.hid (T5_16.out.below hb)
                        clear hb SS4_16 T4_16 SV5_16 T5_16 e0 e1 e2
                        rw [HSY.out]
                        have g0 := T5_17.out.c 0 (v := .string x5) rfl
                        have g1 := T5_17.out.c 1 (v := .slice A5 n5 c5) rfl
                        have hl5 : Hs (w17.alloc (.cells #[.string x5, .slice A5 n5 c5] 44)) (some ⟨w17.heap.size, 0, none⟩) 1 1 [hh] := by
                          have h := hs_lit (t := 44) (x := x5) SV5_17.out (b := w17.heap.size) (by simp)
                          rw [HX5.out, HHR.out] at h
                          exact h
                        have HB18 : Hid (Below w.heap.size w (w17.alloc (.cells #[.string x5, .slice A5 n5 c5] 44))) := nbelow_on HB17.out (below_alloc _)
                        have HE18 : Hid (Env (w17.alloc (.cells #[.string x5, .slice A5 n5 c5] 44))) := HE17.out.below (below_alloc _)
                        have SS4_18 := Lib.hid (SS4_17.out.below (below_alloc (w := w17) (.cells #[.string x5, .slice A5 n5 c5] 44)))
                        have T4_18 := Lib.hid (T4_17.out.below (below_alloc (w := w17) (.cells #[.string x5, .slice A5 n5 c5] 44)))
                        have SV5_18 := Lib.hid (SV5_17.out.below (below_alloc (w := w17) (.cells #[.string x5, .slice A5 n5 c5] 44)))
                        have T5_18 := Lib.hid (T5_17.out.below (below_alloc (w := w17) (.cells #[.string x5, .slice A5 n5 c5] 44)))
                        clear SS4_17 T4_17 SV5_17 T5_17
                        have H5_18 : Hid (Hs (w17.alloc (.cells #[.string x5, .slice A5 n5 c5] 44)) (some ⟨w17.heap.size, 0, none⟩) 1 1 [hh]) := hl5
                        clear hl5
                        go_wp2_with fail
                        (refine (env_any none 0 0 none 0 0 (some ⟨w17.heap.size, 0, none⟩) 1 1 ⟨[], [], [hh]⟩ (w17.alloc (.cells #[.string x5, .slice A5 n5 c5] 44)) HE18.out (fits_hole HLI.out HHH.out) (Vs.nil _) (Ys.nil _) H5_18.out).mono ?_); rintro e w19 ⟨rfl, hb⟩
                        have HB19 := Lib.hid (nbelow_on HB18.out hb)
                        have HE19 := Lib.hid (HE18.out.below hb)
                        have SS4_19 := Lib.hid (SS4_18.out.below hb)
                        have T4_19 := Lib.hid (T4_18.out.below hb)
                        have SV5_19 := Lib.hid (SV5_18.out.below hb)
                        have T5_19 := Lib.hid (T5_18.out.below hb)
                        have H5_19 := Lib.hid (H5_18.out.below hb)
                        clear hb SS4_18 T4_18 SV5_18 T5_18 H5_18 g0 g1
                        rw [(env_hole HEV.out HHH.out).2]
                        go_wp2_with fail
                        (refine (rcore_any s w19).mono ?_); rintro e w20 ⟨rfl, hb⟩
                        have HB20 := Lib.hid (nbelow_on HB19.out hb)
                        have HE20 := Lib.hid (HE19.out.below hb)
                        have SS4_20 := Lib.hid (SS4_19.out.below hb)
                        have T4_20 := Lib.hid (T4_19.out.below hb)
                        have SV5_20 := Lib.hid (SV5_19.out.below hb)
                        have T5_20 := Lib.hid (T5_19.out.below hb)
                        have H5_20 := Lib.hid (H5_19.out.below hb)
                        clear hb SS4_19 T4_19 SV5_19 T5_19 H5_19
                        rw [(env_hole HEV.out HHH.out).1, show errI true = 0 from rfl]
                        go_wp2_with fail
                        go_ret
                        exact ⟨rfl, HB20.out⟩
          · skip
            obtain ⟨r, hr⟩ : ∃ r, envI v = r := ⟨_, rfl⟩
            have HR := Lib.hid hr
            rw [hr] at he
            have z0 := zero_eq he
            have z1 := zero_ne he
            clear he hr
            go_wp2_with fail
            (refine (env_any A n c B m d C p q v w10 HE10.out HLI.out.fits HV_10.out HY_10.out HH_10.out).mono ?_); rintro e w11 ⟨rfl, hb⟩
            have HB11 := Lib.hid (nbelow_on HB10.out hb)
            have HE11 := Lib.hid (HE10.out.below hb)
            have HV_11 := Lib.hid (HV_10.out.below hb)
            have HY_11 := Lib.hid (HY_10.out.below hb)
            have HH_11 := Lib.hid (HH_10.out.below hb)
            have K0_11 := Lib.hid (K0_10.out.below hb)
            have K1_11 := Lib.hid (K1_10.out.below hb)
            clear hb HV_10 HY_10 HH_10 K0_10 K1_10 k0 k1 k2
            rw [HR.out]
            go_wp2_with fail
            go_ret
            exact ⟨rfl, HB11.out⟩
        | false =>
          have TX : (s.toList == x.toList) = false := by rw [tolist_eq, tolist_eq]; exact beq_eq_false_iff_ne.2 (fun e => of_decide_eq_false hd e.symm)
          have HRE : Hid (RW = RV) := HRW.out.symm.trans ((varF_with_other v.vars ⟨x.data.toList, y.data.toList⟩ (fun e => of_decide_eq_false hd e.symm)).trans HRV.out)
          have hbb : b3 = b2 := by rw [← HB3.out, ← HB2.out, HRE.out]
          have t2 : (y2.toList == y3.toList) = true := by rw [tolist_eq, tolist_eq, HY2.out, HY3.out, HRE.out]; exact beq_self_eq_true _
          have t3 : (b2 == b3) = true := by rw [hbb]; exact bool_self b2
          have t4 : (b2 != b3) = false := by rw [hbb]; exact bool_nself b2
          clear hd hbb
          go_wp2_with fail
          (refine (awake_any w9 HE9.out).mono ?_); rintro e w10 ⟨rfl, hb⟩
          have HB10 := Lib.hid (nbelow_on HB9.out hb)
          have HE10 := Lib.hid (HE9.out.below hb)
          have HV_10 := Lib.hid (HV_9.out.below hb)
          have HY_10 := Lib.hid (HY_9.out.below hb)
          have HH_10 := Lib.hid (HH_9.out.below hb)
          have K0_10 := Lib.hid (K0_9.out.below hb)
          have K1_10 := Lib.hid (K1_9.out.below hb)
          clear hb HV_9 HY_9 HH_9 K0_9 K1_9 b0 b1
          have k0 := K0_10.out.c 0 (v := .slice A n c) rfl
          have k1 := K0_10.out.c 1 (v := .slice B m d) rfl
          have k2 := K0_10.out.c 2 (v := .slice C p q) rfl
          by_cases he : envI v = 0
          · skip
            have HEV := Lib.hid he
            clear he
            go_wp2_with fail
            (refine (env_any A n c B m d C p q v w10 HE10.out HLI.out.fits HV_10.out HY_10.out HH_10.out).mono ?_); rintro e w11 ⟨rfl, hb⟩
            have HB11 := Lib.hid (nbelow_on HB10.out hb)
            have HE11 := Lib.hid (HE10.out.below hb)
            have HV_11 := Lib.hid (HV_10.out.below hb)
            have HY_11 := Lib.hid (HY_10.out.below hb)
            have HH_11 := Lib.hid (HH_10.out.below hb)
            have K0_11 := Lib.hid (K0_10.out.below hb)
            have K1_11 := Lib.hid (K1_10.out.below hb)
            clear hb HV_10 HY_10 HH_10 K0_10 K1_10 k0 k1 k2
            rw [HEV.out]
            have k0 := K0_11.out.c 0 (v := .slice A n c) rfl
            have k1 := K0_11.out.c 1 (v := .slice B m d) rfl
            have k2 := K0_11.out.c 2 (v := .slice C p q) rfl
            go_wp2_with fail
            (refine (find_any A n c B m d C p q v s w11 HY_11.out HFY.out).mono ?_); rintro e w12 ⟨x4, A4, n4, c4, y4, rfl, hx, hs, hy, hb⟩
            have HB12 := Lib.hid (nbelow_on HB11.out hb)
            have HE12 := Lib.hid (HE11.out.below hb)
            have HV_12 := Lib.hid (HV_11.out.below hb)
            have HY_12 := Lib.hid (HY_11.out.below hb)
            have HH_12 := Lib.hid (HH_11.out.below hb)
            have K0_12 := Lib.hid (K0_11.out.below hb)
            have K1_12 := Lib.hid (K1_11.out.below hb)
            clear hb HV_11 HY_11 HH_11 K0_11 K1_11 k0 k1 k2
            rw [HRF.out] at hx hs hy ⊢
            have HX4 := Lib.hid hx.out
            have HYY4 := Lib.hid hy.out
            have SS4_12 : Hid (Ss w12 A4 n4 c4 (RF.getD sy0).args) := hs.out
            clear hx hs hy
            have HB13 : Hid (Below w.heap.size w (w12.alloc (.cells #[.string x4, .slice A4 n4 c4, .string y4] 25))) := nbelow_on HB12.out (below_alloc _)
            have HE13 : Hid (Env (w12.alloc (.cells #[.string x4, .slice A4 n4 c4, .string y4] 25))) := HE12.out.below (below_alloc _)
            have HV_13 := Lib.hid (HV_12.out.below (below_alloc (w := w12) (.cells #[.string x4, .slice A4 n4 c4, .string y4] 25)))
            have HY_13 := Lib.hid (HY_12.out.below (below_alloc (w := w12) (.cells #[.string x4, .slice A4 n4 c4, .string y4] 25)))
            have HH_13 := Lib.hid (HH_12.out.below (below_alloc (w := w12) (.cells #[.string x4, .slice A4 n4 c4, .string y4] 25)))
            have K0_13 := Lib.hid (K0_12.out.below (below_alloc (w := w12) (.cells #[.string x4, .slice A4 n4 c4, .string y4] 25)))
            have K1_13 := Lib.hid (K1_12.out.below (below_alloc (w := w12) (.cells #[.string x4, .slice A4 n4 c4, .string y4] 25)))
            have SS4_13 := Lib.hid (SS4_12.out.below (below_alloc (w := w12) (.cells #[.string x4, .slice A4 n4 c4, .string y4] 25)))
            clear HV_12 HY_12 HH_12 K0_12 K1_12 SS4_12
            have T4_13 : Hid (Bk 25 (w12.alloc (.cells #[.string x4, .slice A4 n4 c4, .string y4] 25)) (w12.heap.size) #[.string x4, .slice A4 n4 c4, .string y4]) := Bk.at _ (by simp)
            have k0 := K0_13.out.c 0 (v := .slice A n c) rfl
            have k1 := K0_13.out.c 1 (v := .slice B m d) rfl
            have k2 := K0_13.out.c 2 (v := .slice C p q) rfl
            go_wp2_with fail
            (refine (hole_any A n c B m d C p q v s (w12.alloc (.cells #[.string x4, .slice A4 n4 c4, .string y4] 25)) HH_13.out HFH.out).mono ?_); rintro e w14 ⟨x5, A5, n5, c5, rfl, hx, hv, hb⟩
            have HB14 := Lib.hid (nbelow_on HB13.out hb)
            have HE14 := Lib.hid (HE13.out.below hb)
            have HV_14 := Lib.hid (HV_13.out.below hb)
            have HY_14 := Lib.hid (HY_13.out.below hb)
            have HH_14 := Lib.hid (HH_13.out.below hb)
            have K0_14 := Lib.hid (K0_13.out.below hb)
            have K1_14 := Lib.hid (K1_13.out.below hb)
            have SS4_14 := Lib.hid (SS4_13.out.below hb)
            have T4_14 := Lib.hid (T4_13.out.below hb)
            clear hb HV_13 HY_13 HH_13 K0_13 K1_13 SS4_13 T4_13 k0 k1 k2
            rw [HRH.out] at hx hv ⊢
            have HX5 := Lib.hid hx.out
            have SV5_14 : Hid (Vs w14 A5 n5 c5 (RH.getD ho0).ps) := hv.out
            clear hx hv
            have HB15 : Hid (Below w.heap.size w (w14.alloc (.cells #[.string x5, .slice A5 n5 c5] 44))) := nbelow_on HB14.out (below_alloc _)
            have HE15 : Hid (Env (w14.alloc (.cells #[.string x5, .slice A5 n5 c5] 44))) := HE14.out.below (below_alloc _)
            have HV_15 := Lib.hid (HV_14.out.below (below_alloc (w := w14) (.cells #[.string x5, .slice A5 n5 c5] 44)))
            have HY_15 := Lib.hid (HY_14.out.below (below_alloc (w := w14) (.cells #[.string x5, .slice A5 n5 c5] 44)))
            have HH_15 := Lib.hid (HH_14.out.below (below_alloc (w := w14) (.cells #[.string x5, .slice A5 n5 c5] 44)))
            have K0_15 := Lib.hid (K0_14.out.below (below_alloc (w := w14) (.cells #[.string x5, .slice A5 n5 c5] 44)))
            have K1_15 := Lib.hid (K1_14.out.below (below_alloc (w := w14) (.cells #[.string x5, .slice A5 n5 c5] 44)))
            have SS4_15 := Lib.hid (SS4_14.out.below (below_alloc (w := w14) (.cells #[.string x5, .slice A5 n5 c5] 44)))
            have T4_15 := Lib.hid (T4_14.out.below (below_alloc (w := w14) (.cells #[.string x5, .slice A5 n5 c5] 44)))
            have SV5_15 := Lib.hid (SV5_14.out.below (below_alloc (w := w14) (.cells #[.string x5, .slice A5 n5 c5] 44)))
            clear HV_14 HY_14 HH_14 K0_14 K1_14 SS4_14 T4_14 SV5_14
            have T5_15 : Hid (Bk 44 (w14.alloc (.cells #[.string x5, .slice A5 n5 c5] 44)) (w14.heap.size) #[.string x5, .slice A5 n5 c5]) := Bk.at _ (by simp)
            clear HV_15
            clear HY_15
            clear HH_15
            clear K0_15
            clear K1_15
            cases b2 with
            | false =>
                cases bf : RF.isSome with
                | false =>
                  clear bf
                  cases bh : RH.isSome with
                  | false =>
                    clear bh
                    go_wp2_with fail
                    go_ret
                    exact ⟨rfl, HB15.out⟩
                  | true =>
                    obtain ⟨hh, hhh⟩ := some_of bh
                    clear bh
                    have HHH := Lib.hid (HRH.out.trans hhh)
                    have HHR := Lib.hid hhh
                    clear hhh
                    have g0 := T5_15.out.c 0 (v := .string x5) rfl
                    have g1 := T5_15.out.c 1 (v := .slice A5 n5 c5) rfl
                    have hl5 : Hs ((w14.alloc (.cells #[.string x5, .slice A5 n5 c5] 44)).alloc (.cells #[.string x5, .slice A5 n5 c5] 44)) (some ⟨w14.heap.size + 1, 0, none⟩) 1 1 [hh] := by
                      have h := hs_lit (t := 44) (x := x5) SV5_15.out (b := w14.heap.size + 1) (by simp)
                      rw [HX5.out, HHR.out] at h
                      exact h
                    have HB16 : Hid (Below w.heap.size w ((w14.alloc (.cells #[.string x5, .slice A5 n5 c5] 44)).alloc (.cells #[.string x5, .slice A5 n5 c5] 44))) := nbelow_on HB15.out (below_alloc _)
                    have HE16 : Hid (Env ((w14.alloc (.cells #[.string x5, .slice A5 n5 c5] 44)).alloc (.cells #[.string x5, .slice A5 n5 c5] 44))) := HE15.out.below (below_alloc _)
                    have SS4_16 := Lib.hid (SS4_15.out.below (below_alloc (w := (w14.alloc (.cells #[.string x5, .slice A5 n5 c5] 44))) (.cells #[.string x5, .slice A5 n5 c5] 44)))
                    have T4_16 := Lib.hid (T4_15.out.below (below_alloc (w := (w14.alloc (.cells #[.string x5, .slice A5 n5 c5] 44))) (.cells #[.string x5, .slice A5 n5 c5] 44)))
                    have SV5_16 := Lib.hid (SV5_15.out.below (below_alloc (w := (w14.alloc (.cells #[.string x5, .slice A5 n5 c5] 44))) (.cells #[.string x5, .slice A5 n5 c5] 44)))
                    have T5_16 := Lib.hid (T5_15.out.below (below_alloc (w := (w14.alloc (.cells #[.string x5, .slice A5 n5 c5] 44))) (.cells #[.string x5, .slice A5 n5 c5] 44)))
                    clear SS4_15 T4_15 SV5_15 T5_15
                    have H5_16 : Hid (Hs ((w14.alloc (.cells #[.string x5, .slice A5 n5 c5] 44)).alloc (.cells #[.string x5, .slice A5 n5 c5] 44)) (some ⟨w14.heap.size + 1, 0, none⟩) 1 1 [hh]) := hl5
                    clear hl5
                    go_wp2_with fail
                    (refine (env_any none 0 0 none 0 0 (some ⟨w14.heap.size + 1, 0, none⟩) 1 1 ⟨[], [], [hh]⟩ ((w14.alloc (.cells #[.string x5, .slice A5 n5 c5] 44)).alloc (.cells #[.string x5, .slice A5 n5 c5] 44)) HE16.out (fits_hole HLI.out HHH.out) (Vs.nil _) (Ys.nil _) H5_16.out).mono ?_); rintro e w17 ⟨rfl, hb⟩
                    have HB17 := Lib.hid (nbelow_on HB16.out hb)
                    have HE17 := Lib.hid (HE16.out.below hb)
                    have SS4_17 := Lib.hid (SS4_16.out.below hb)
                    have T4_17 := Lib.hid (T4_16.out.below hb)
                    have SV5_17 := Lib.hid (SV5_16.out.below hb)
                    have T5_17 := Lib.hid (T5_16.out.below hb)
                    have H5_17 := Lib.hid (H5_16.out.below hb)
                    clear hb SS4_16 T4_16 SV5_16 T5_16 H5_16 g0 g1
                    rw [(env_hole HEV.out HHH.out).2]
                    go_wp2_with fail
                    (refine (rcore_any s w17).mono ?_); rintro e w18 ⟨rfl, hb⟩
                    have HB18 := Lib.hid (nbelow_on HB17.out hb)
                    have HE18 := Lib.hid (HE17.out.below hb)
                    have SS4_18 := Lib.hid (SS4_17.out.below hb)
                    have T4_18 := Lib.hid (T4_17.out.below hb)
                    have SV5_18 := Lib.hid (SV5_17.out.below hb)
                    have T5_18 := Lib.hid (T5_17.out.below hb)
                    have H5_18 := Lib.hid (H5_17.out.below hb)
                    clear hb SS4_17 T4_17 SV5_17 T5_17 H5_17
                    rw [(env_hole HEV.out HHH.out).1, show errI true = 0 from rfl]
                    go_wp2_with fail
                    go_ret
                    exact ⟨rfl, HB18.out⟩
                | true =>
                  cases ht : decide (s.data.toList = tTag) with
                  | true =>
                    have TB0 : (s.toList == [116, 97, 103]) = true := txt_eq_lit ht
                    clear ht bf
                    cases bh : RH.isSome with
                    | false =>
                      clear bh
                      go_wp2_with fail
                      go_ret
                      exact ⟨rfl, HB15.out⟩
                    | true =>
                      obtain ⟨hh, hhh⟩ := some_of bh
                      clear bh
                      have HHH := Lib.hid (HRH.out.trans hhh)
                      have HHR := Lib.hid hhh
                      clear hhh
                      have g0 := T5_15.out.c 0 (v := .string x5) rfl
                      have g1 := T5_15.out.c 1 (v := .slice A5 n5 c5) rfl
                      have hl5 : Hs ((w14.alloc (.cells #[.string x5, .slice A5 n5 c5] 44)).alloc (.cells #[.string x5, .slice A5 n5 c5] 44)) (some ⟨w14.heap.size + 1, 0, none⟩) 1 1 [hh] := by
                        have h := hs_lit (t := 44) (x := x5) SV5_15.out (b := w14.heap.size + 1) (by simp)
                        rw [HX5.out, HHR.out] at h
                        exact h
                      have HB16 : Hid (Below w.heap.size w ((w14.alloc (.cells #[.string x5, .slice A5 n5 c5] 44)).alloc (.cells #[.string x5, .slice A5 n5 c5] 44))) := nbelow_on HB15.out (below_alloc _)
                      have HE16 : Hid (Env ((w14.alloc (.cells #[.string x5, .slice A5 n5 c5] 44)).alloc (.cells #[.string x5, .slice A5 n5 c5] 44))) := HE15.out.below (below_alloc _)
                      have SS4_16 := Lib.hid (SS4_15.out.below (below_alloc (w := (w14.alloc (.cells #[.string x5, .slice A5 n5 c5] 44))) (.cells #[.string x5, .slice A5 n5 c5] 44)))
                      have T4_16 := Lib.hid (T4_15.out.below (below_alloc (w := (w14.alloc (.cells #[.string x5, .slice A5 n5 c5] 44))) (.cells #[.string x5, .slice A5 n5 c5] 44)))
                      have SV5_16 := Lib.hid (SV5_15.out.below (below_alloc (w := (w14.alloc (.cells #[.string x5, .slice A5 n5 c5] 44))) (.cells #[.string x5, .slice A5 n5 c5] 44)))
                      have T5_16 := Lib.hid (T5_15.out.below (below_alloc (w := (w14.alloc (.cells #[.string x5, .slice A5 n5 c5] 44))) (.cells #[.string x5, .slice A5 n5 c5] 44)))
                      clear SS4_15 T4_15 SV5_15 T5_15
                      have H5_16 : Hid (Hs ((w14.alloc (.cells #[.string x5, .slice A5 n5 c5] 44)).alloc (.cells #[.string x5, .slice A5 n5 c5] 44)) (some ⟨w14.heap.size + 1, 0, none⟩) 1 1 [hh]) := hl5
                      clear hl5
                      go_wp2_with fail
                      (refine (env_any none 0 0 none 0 0 (some ⟨w14.heap.size + 1, 0, none⟩) 1 1 ⟨[], [], [hh]⟩ ((w14.alloc (.cells #[.string x5, .slice A5 n5 c5] 44)).alloc (.cells #[.string x5, .slice A5 n5 c5] 44)) HE16.out (fits_hole HLI.out HHH.out) (Vs.nil _) (Ys.nil _) H5_16.out).mono ?_); rintro e w17 ⟨rfl, hb⟩
                      have HB17 := Lib.hid (nbelow_on HB16.out hb)
                      have HE17 := Lib.hid (HE16.out.below hb)
                      have SS4_17 := Lib.hid (SS4_16.out.below hb)
                      have T4_17 := Lib.hid (T4_16.out.below hb)
                      have SV5_17 := Lib.hid (SV5_16.out.below hb)
                      have T5_17 := Lib.hid (T5_16.out.below hb)
                      have H5_17 := Lib.hid (H5_16.out.below hb)
                      clear hb SS4_16 T4_16 SV5_16 T5_16 H5_16 g0 g1
                      rw [(env_hole HEV.out HHH.out).2]
                      go_wp2_with fail
                      (refine (rcore_any s w17).mono ?_); rintro e w18 ⟨rfl, hb⟩
                      have HB18 := Lib.hid (nbelow_on HB17.out hb)
                      have HE18 := Lib.hid (HE17.out.below hb)
                      have SS4_18 := Lib.hid (SS4_17.out.below hb)
                      have T4_18 := Lib.hid (T4_17.out.below hb)
                      have SV5_18 := Lib.hid (SV5_17.out.below hb)
                      have T5_18 := Lib.hid (T5_17.out.below hb)
                      have H5_18 := Lib.hid (H5_17.out.below hb)
                      clear hb SS4_17 T4_17 SV5_17 T5_17 H5_17
                      rw [(env_hole HEV.out HHH.out).1, show errI true = 0 from rfl]
                      go_wp2_with fail
                      go_ret
                      exact ⟨rfl, HB18.out⟩
                  | false =>
                    have TB0 : (s.toList == [116, 97, 103]) = false := txt_eq_lit ht
                    cases hv : decide (s.data.toList = tVal) with
                    | true =>
                      have TB1 : (s.toList == [118, 97, 108]) = true := txt_eq_lit hv
                      clear ht hv bf
                      cases bh : RH.isSome with
                      | false =>
                        clear bh
                        go_wp2_with fail
                        go_ret
                        exact ⟨rfl, HB15.out⟩
                      | true =>
                        obtain ⟨hh, hhh⟩ := some_of bh
                        clear bh
                        have HHH := Lib.hid (HRH.out.trans hhh)
                        have HHR := Lib.hid hhh
                        clear hhh
                        have g0 := T5_15.out.c 0 (v := .string x5) rfl
                        have g1 := T5_15.out.c 1 (v := .slice A5 n5 c5) rfl
                        have hl5 : Hs ((w14.alloc (.cells #[.string x5, .slice A5 n5 c5] 44)).alloc (.cells #[.string x5, .slice A5 n5 c5] 44)) (some ⟨w14.heap.size + 1, 0, none⟩) 1 1 [hh] := by
                          have h := hs_lit (t := 44) (x := x5) SV5_15.out (b := w14.heap.size + 1) (by simp)
                          rw [HX5.out, HHR.out] at h
                          exact h
                        have HB16 : Hid (Below w.heap.size w ((w14.alloc (.cells #[.string x5, .slice A5 n5 c5] 44)).alloc (.cells #[.string x5, .slice A5 n5 c5] 44))) := nbelow_on HB15.out (below_alloc _)
                        have HE16 : Hid (Env ((w14.alloc (.cells #[.string x5, .slice A5 n5 c5] 44)).alloc (.cells #[.string x5, .slice A5 n5 c5] 44))) := HE15.out.below (below_alloc _)
                        have SS4_16 := Lib.hid (SS4_15.out.below (below_alloc (w := (w14.alloc (.cells #[.string x5, .slice A5 n5 c5] 44))) (.cells #[.string x5, .slice A5 n5 c5] 44)))
                        have T4_16 := Lib.hid (T4_15.out.below (below_alloc (w := (w14.alloc (.cells #[.string x5, .slice A5 n5 c5] 44))) (.cells #[.string x5, .slice A5 n5 c5] 44)))
                        have SV5_16 := Lib.hid (SV5_15.out.below (below_alloc (w := (w14.alloc (.cells #[.string x5, .slice A5 n5 c5] 44))) (.cells #[.string x5, .slice A5 n5 c5] 44)))
                        have T5_16 := Lib.hid (T5_15.out.below (below_alloc (w := (w14.alloc (.cells #[.string x5, .slice A5 n5 c5] 44))) (.cells #[.string x5, .slice A5 n5 c5] 44)))
                        clear SS4_15 T4_15 SV5_15 T5_15
                        have H5_16 : Hid (Hs ((w14.alloc (.cells #[.string x5, .slice A5 n5 c5] 44)).alloc (.cells #[.string x5, .slice A5 n5 c5] 44)) (some ⟨w14.heap.size + 1, 0, none⟩) 1 1 [hh]) := hl5
                        clear hl5
                        go_wp2_with fail
                        (refine (env_any none 0 0 none 0 0 (some ⟨w14.heap.size + 1, 0, none⟩) 1 1 ⟨[], [], [hh]⟩ ((w14.alloc (.cells #[.string x5, .slice A5 n5 c5] 44)).alloc (.cells #[.string x5, .slice A5 n5 c5] 44)) HE16.out (fits_hole HLI.out HHH.out) (Vs.nil _) (Ys.nil _) H5_16.out).mono ?_); rintro e w17 ⟨rfl, hb⟩
                        have HB17 := Lib.hid (nbelow_on HB16.out hb)
                        have HE17 := Lib.hid (HE16.out.below hb)
                        have SS4_17 := Lib.hid (SS4_16.out.below hb)
                        have T4_17 := Lib.hid (T4_16.out.below hb)
                        have SV5_17 := Lib.hid (SV5_16.out.below hb)
                        have T5_17 := Lib.hid (T5_16.out.below hb)
                        have H5_17 := Lib.hid (H5_16.out.below hb)
                        clear hb SS4_16 T4_16 SV5_16 T5_16 H5_16 g0 g1
                        rw [(env_hole HEV.out HHH.out).2]
                        go_wp2_with fail
                        (refine (rcore_any s w17).mono ?_); rintro e w18 ⟨rfl, hb⟩
                        have HB18 := Lib.hid (nbelow_on HB17.out hb)
                        have HE18 := Lib.hid (HE17.out.below hb)
                        have SS4_18 := Lib.hid (SS4_17.out.below hb)
                        have T4_18 := Lib.hid (T4_17.out.below hb)
                        have SV5_18 := Lib.hid (SV5_17.out.below hb)
                        have T5_18 := Lib.hid (T5_17.out.below hb)
                        have H5_18 := Lib.hid (H5_17.out.below hb)
                        clear hb SS4_17 T4_17 SV5_17 T5_17 H5_17
                        rw [(env_hole HEV.out HHH.out).1, show errI true = 0 from rfl]
                        go_wp2_with fail
                        go_ret
                        exact ⟨rfl, HB18.out⟩
                    | false =>
                      have TB1 : (s.toList == [118, 97, 108]) = false := txt_eq_lit hv
                      obtain ⟨yy, hyy⟩ := some_of bf
                      have HSY : Hid (symI ⟨x4.data.toList, (RF.getD sy0).args, y4.data.toList⟩ = 0) := by
                        rw [HX4.out, HYY4.out, hyy]
                        exact env_sym HEV.out ((findF_sym (of_decide_eq_false ht) (of_decide_eq_false hv)).symm.trans (HRF.out.trans hyy))
                      clear ht hv bf hyy
                      cases bh : RH.isSome with
                      | false =>
                        clear bh
                        have e0 := T4_15.out.c 0 (v := .string x4) rfl
                        have e1 := T4_15.out.c 1 (v := .slice A4 n4 c4) rfl
                        have e2 := T4_15.out.c 2 (v := .string y4) rfl
                        go_wp2_with fail
                        (refine (sym_any x4 y4 A4 n4 c4 _ (w14.alloc (.cells #[.string x5, .slice A5 n5 c5] 44)) HE15.out SS4_15.out).mono ?_); rintro e w16 ⟨rfl, hb⟩
                        have HB16 := Lib.hid (nbelow_on HB15.out hb)
                        have HE16 := Lib.hid (HE15.out.below hb)
                        have SS4_16 := Lib.hid (SS4_15.out.below hb)
                        have T4_16 := Lib.hid (T4_15.out.below hb)
                        have SV5_16 := Lib.hid (SV5_15.out.below hb)
                        have T5_16 := Lib.hid (T5_15.out.below hb)
                        clear hb SS4_15 T4_15 SV5_15 T5_15 e0 e1 e2
                        rw [HSY.out]
                        go_wp2_with fail
                        go_ret
                        exact ⟨rfl, HB16.out⟩
                      | true =>
                        obtain ⟨hh, hhh⟩ := some_of bh
                        clear bh
                        have HHH := Lib.hid (HRH.out.trans hhh)
                        have HHR := Lib.hid hhh
                        clear hhh
                        have e0 := T4_15.out.c 0 (v := .string x4) rfl
                        have e1 := T4_15.out.c 1 (v := .slice A4 n4 c4) rfl
                        have e2 := T4_15.out.c 2 (v := .string y4) rfl
                        go_wp2_with fail
                        (refine (sym_any x4 y4 A4 n4 c4 _ (w14.alloc (.cells #[.string x5, .slice A5 n5 c5] 44)) HE15.out SS4_15.out).mono ?_); rintro e w16 ⟨rfl, hb⟩
                        have HB16 := Lib.hid (nbelow_on HB15.out hb)
                        have HE16 := Lib.hid (HE15.out.below hb)
                        have SS4_16 := Lib.hid (SS4_15.out.below hb)
                        have T4_16 := Lib.hid (T4_15.out.below hb)
                        have SV5_16 := Lib.hid (SV5_15.out.below hb)
                        have T5_16 := Lib.hid (T5_15.out.below hb)
                        clear hb SS4_15 T4_15 SV5_15 T5_15 e0 e1 e2
                        rw [HSY.out]
                        have g0 := T5_16.out.c 0 (v := .string x5) rfl
                        have g1 := T5_16.out.c 1 (v := .slice A5 n5 c5) rfl
                        have hl5 : Hs (w16.alloc (.cells #[.string x5, .slice A5 n5 c5] 44)) (some ⟨w16.heap.size, 0, none⟩) 1 1 [hh] := by
                          have h := hs_lit (t := 44) (x := x5) SV5_16.out (b := w16.heap.size) (by simp)
                          rw [HX5.out, HHR.out] at h
                          exact h
                        have HB17 : Hid (Below w.heap.size w (w16.alloc (.cells #[.string x5, .slice A5 n5 c5] 44))) := nbelow_on HB16.out (below_alloc _)
                        have HE17 : Hid (Env (w16.alloc (.cells #[.string x5, .slice A5 n5 c5] 44))) := HE16.out.below (below_alloc _)
                        have SS4_17 := Lib.hid (SS4_16.out.below (below_alloc (w := w16) (.cells #[.string x5, .slice A5 n5 c5] 44)))
                        have T4_17 := Lib.hid (T4_16.out.below (below_alloc (w := w16) (.cells #[.string x5, .slice A5 n5 c5] 44)))
                        have SV5_17 := Lib.hid (SV5_16.out.below (below_alloc (w := w16) (.cells #[.string x5, .slice A5 n5 c5] 44)))
                        have T5_17 := Lib.hid (T5_16.out.below (below_alloc (w := w16) (.cells #[.string x5, .slice A5 n5 c5] 44)))
                        clear SS4_16 T4_16 SV5_16 T5_16
                        have H5_17 : Hid (Hs (w16.alloc (.cells #[.string x5, .slice A5 n5 c5] 44)) (some ⟨w16.heap.size, 0, none⟩) 1 1 [hh]) := hl5
                        clear hl5
                        go_wp2_with fail
                        (refine (env_any none 0 0 none 0 0 (some ⟨w16.heap.size, 0, none⟩) 1 1 ⟨[], [], [hh]⟩ (w16.alloc (.cells #[.string x5, .slice A5 n5 c5] 44)) HE17.out (fits_hole HLI.out HHH.out) (Vs.nil _) (Ys.nil _) H5_17.out).mono ?_); rintro e w18 ⟨rfl, hb⟩
                        have HB18 := Lib.hid (nbelow_on HB17.out hb)
                        have HE18 := Lib.hid (HE17.out.below hb)
                        have SS4_18 := Lib.hid (SS4_17.out.below hb)
                        have T4_18 := Lib.hid (T4_17.out.below hb)
                        have SV5_18 := Lib.hid (SV5_17.out.below hb)
                        have T5_18 := Lib.hid (T5_17.out.below hb)
                        have H5_18 := Lib.hid (H5_17.out.below hb)
                        clear hb SS4_17 T4_17 SV5_17 T5_17 H5_17 g0 g1
                        rw [(env_hole HEV.out HHH.out).2]
                        go_wp2_with fail
                        (refine (rcore_any s w18).mono ?_); rintro e w19 ⟨rfl, hb⟩
                        have HB19 := Lib.hid (nbelow_on HB18.out hb)
                        have HE19 := Lib.hid (HE18.out.below hb)
                        have SS4_19 := Lib.hid (SS4_18.out.below hb)
                        have T4_19 := Lib.hid (T4_18.out.below hb)
                        have SV5_19 := Lib.hid (SV5_18.out.below hb)
                        have T5_19 := Lib.hid (T5_18.out.below hb)
                        have H5_19 := Lib.hid (H5_18.out.below hb)
                        clear hb SS4_18 T4_18 SV5_18 T5_18 H5_18
                        rw [(env_hole HEV.out HHH.out).1, show errI true = 0 from rfl]
                        go_wp2_with fail
                        go_ret
                        exact ⟨rfl, HB19.out⟩
            | true =>
                obtain ⟨u, hu⟩ := some_of HB2.out
                have HSO : Hid (sortB y2.data.toList = true) := by rw [HY2.out, hu]; exact env_var HEV.out (HRV.out.trans hu)
                clear hu
                cases bf : RF.isSome with
                | false =>
                  clear bf
                  cases bh : RH.isSome with
                  | false =>
                    clear bh
                    go_wp2_with fail
                    (refine (check_any y2 (w14.alloc (.cells #[.string x5, .slice A5 n5 c5] 44)) HE15.out).mono ?_); rintro e w16 ⟨rfl, hb⟩
                    have HB16 := Lib.hid (nbelow_on HB15.out hb)
                    have HE16 := Lib.hid (HE15.out.below hb)
                    have SS4_16 := Lib.hid (SS4_15.out.below hb)
                    have T4_16 := Lib.hid (T4_15.out.below hb)
                    have SV5_16 := Lib.hid (SV5_15.out.below hb)
                    have T5_16 := Lib.hid (T5_15.out.below hb)
                    clear hb SS4_15 T4_15 SV5_15 T5_15
                    rw [sortI_yes HSO.out]
                    go_wp2_with fail
                    go_ret
                    exact ⟨rfl, HB16.out⟩
                  | true =>
                    obtain ⟨hh, hhh⟩ := some_of bh
                    clear bh
                    have HHH := Lib.hid (HRH.out.trans hhh)
                    have HHR := Lib.hid hhh
                    clear hhh
                    go_wp2_with fail
                    (refine (check_any y2 (w14.alloc (.cells #[.string x5, .slice A5 n5 c5] 44)) HE15.out).mono ?_); rintro e w16 ⟨rfl, hb⟩
                    have HB16 := Lib.hid (nbelow_on HB15.out hb)
                    have HE16 := Lib.hid (HE15.out.below hb)
                    have SS4_16 := Lib.hid (SS4_15.out.below hb)
                    have T4_16 := Lib.hid (T4_15.out.below hb)
                    have SV5_16 := Lib.hid (SV5_15.out.below hb)
                    have T5_16 := Lib.hid (T5_15.out.below hb)
                    clear hb SS4_15 T4_15 SV5_15 T5_15
                    rw [sortI_yes HSO.out]
                    have g0 := T5_16.out.c 0 (v := .string x5) rfl
                    have g1 := T5_16.out.c 1 (v := .slice A5 n5 c5) rfl
                    have hl5 : Hs (w16.alloc (.cells #[.string x5, .slice A5 n5 c5] 44)) (some ⟨w16.heap.size, 0, none⟩) 1 1 [hh] := by
                      have h := hs_lit (t := 44) (x := x5) SV5_16.out (b := w16.heap.size) (by simp)
                      rw [HX5.out, HHR.out] at h
                      exact h
                    have HB17 : Hid (Below w.heap.size w (w16.alloc (.cells #[.string x5, .slice A5 n5 c5] 44))) := nbelow_on HB16.out (below_alloc _)
                    have HE17 : Hid (Env (w16.alloc (.cells #[.string x5, .slice A5 n5 c5] 44))) := HE16.out.below (below_alloc _)
                    have SS4_17 := Lib.hid (SS4_16.out.below (below_alloc (w := w16) (.cells #[.string x5, .slice A5 n5 c5] 44)))
                    have T4_17 := Lib.hid (T4_16.out.below (below_alloc (w := w16) (.cells #[.string x5, .slice A5 n5 c5] 44)))
                    have SV5_17 := Lib.hid (SV5_16.out.below (below_alloc (w := w16) (.cells #[.string x5, .slice A5 n5 c5] 44)))
                    have T5_17 := Lib.hid (T5_16.out.below (below_alloc (w := w16) (.cells #[.string x5, .slice A5 n5 c5] 44)))
                    clear SS4_16 T4_16 SV5_16 T5_16
                    have H5_17 : Hid (Hs (w16.alloc (.cells #[.string x5, .slice A5 n5 c5] 44)) (some ⟨w16.heap.size, 0, none⟩) 1 1 [hh]) := hl5
                    clear hl5
                    go_wp2_with fail
                    (refine (env_any none 0 0 none 0 0 (some ⟨w16.heap.size, 0, none⟩) 1 1 ⟨[], [], [hh]⟩ (w16.alloc (.cells #[.string x5, .slice A5 n5 c5] 44)) HE17.out (fits_hole HLI.out HHH.out) (Vs.nil _) (Ys.nil _) H5_17.out).mono ?_); rintro e w18 ⟨rfl, hb⟩
                    have HB18 := Lib.hid (nbelow_on HB17.out hb)
                    have HE18 := Lib.hid (HE17.out.below hb)
                    have SS4_18 := Lib.hid (SS4_17.out.below hb)
                    have T4_18 := Lib.hid (T4_17.out.below hb)
                    have SV5_18 := Lib.hid (SV5_17.out.below hb)
                    have T5_18 := Lib.hid (T5_17.out.below hb)
                    have H5_18 := Lib.hid (H5_17.out.below hb)
                    clear hb SS4_17 T4_17 SV5_17 T5_17 H5_17 g0 g1
                    rw [(env_hole HEV.out HHH.out).2]
                    go_wp2_with fail
                    (refine (rcore_any s w18).mono ?_); rintro e w19 ⟨rfl, hb⟩
                    have HB19 := Lib.hid (nbelow_on HB18.out hb)
                    have HE19 := Lib.hid (HE18.out.below hb)
                    have SS4_19 := Lib.hid (SS4_18.out.below hb)
                    have T4_19 := Lib.hid (T4_18.out.below hb)
                    have SV5_19 := Lib.hid (SV5_18.out.below hb)
                    have T5_19 := Lib.hid (T5_18.out.below hb)
                    have H5_19 := Lib.hid (H5_18.out.below hb)
                    clear hb SS4_18 T4_18 SV5_18 T5_18 H5_18
                    rw [(env_hole HEV.out HHH.out).1, show errI true = 0 from rfl]
                    go_wp2_with fail
                    go_ret
                    exact ⟨rfl, HB19.out⟩
                | true =>
                  cases ht : decide (s.data.toList = tTag) with
                  | true =>
                    have TB0 : (s.toList == [116, 97, 103]) = true := txt_eq_lit ht
                    clear ht bf
                    cases bh : RH.isSome with
                    | false =>
                      clear bh
                      go_wp2_with fail
                      (refine (check_any y2 (w14.alloc (.cells #[.string x5, .slice A5 n5 c5] 44)) HE15.out).mono ?_); rintro e w16 ⟨rfl, hb⟩
                      have HB16 := Lib.hid (nbelow_on HB15.out hb)
                      have HE16 := Lib.hid (HE15.out.below hb)
                      have SS4_16 := Lib.hid (SS4_15.out.below hb)
                      have T4_16 := Lib.hid (T4_15.out.below hb)
                      have SV5_16 := Lib.hid (SV5_15.out.below hb)
                      have T5_16 := Lib.hid (T5_15.out.below hb)
                      clear hb SS4_15 T4_15 SV5_15 T5_15
                      rw [sortI_yes HSO.out]
                      go_wp2_with fail
                      go_ret
                      exact ⟨rfl, HB16.out⟩
                    | true =>
                      obtain ⟨hh, hhh⟩ := some_of bh
                      clear bh
                      have HHH := Lib.hid (HRH.out.trans hhh)
                      have HHR := Lib.hid hhh
                      clear hhh
                      go_wp2_with fail
                      (refine (check_any y2 (w14.alloc (.cells #[.string x5, .slice A5 n5 c5] 44)) HE15.out).mono ?_); rintro e w16 ⟨rfl, hb⟩
                      have HB16 := Lib.hid (nbelow_on HB15.out hb)
                      have HE16 := Lib.hid (HE15.out.below hb)
                      have SS4_16 := Lib.hid (SS4_15.out.below hb)
                      have T4_16 := Lib.hid (T4_15.out.below hb)
                      have SV5_16 := Lib.hid (SV5_15.out.below hb)
                      have T5_16 := Lib.hid (T5_15.out.below hb)
                      clear hb SS4_15 T4_15 SV5_15 T5_15
                      rw [sortI_yes HSO.out]
                      have g0 := T5_16.out.c 0 (v := .string x5) rfl
                      have g1 := T5_16.out.c 1 (v := .slice A5 n5 c5) rfl
                      have hl5 : Hs (w16.alloc (.cells #[.string x5, .slice A5 n5 c5] 44)) (some ⟨w16.heap.size, 0, none⟩) 1 1 [hh] := by
                        have h := hs_lit (t := 44) (x := x5) SV5_16.out (b := w16.heap.size) (by simp)
                        rw [HX5.out, HHR.out] at h
                        exact h
                      have HB17 : Hid (Below w.heap.size w (w16.alloc (.cells #[.string x5, .slice A5 n5 c5] 44))) := nbelow_on HB16.out (below_alloc _)
                      have HE17 : Hid (Env (w16.alloc (.cells #[.string x5, .slice A5 n5 c5] 44))) := HE16.out.below (below_alloc _)
                      have SS4_17 := Lib.hid (SS4_16.out.below (below_alloc (w := w16) (.cells #[.string x5, .slice A5 n5 c5] 44)))
                      have T4_17 := Lib.hid (T4_16.out.below (below_alloc (w := w16) (.cells #[.string x5, .slice A5 n5 c5] 44)))
                      have SV5_17 := Lib.hid (SV5_16.out.below (below_alloc (w := w16) (.cells #[.string x5, .slice A5 n5 c5] 44)))
                      have T5_17 := Lib.hid (T5_16.out.below (below_alloc (w := w16) (.cells #[.string x5, .slice A5 n5 c5] 44)))
                      clear SS4_16 T4_16 SV5_16 T5_16
                      have H5_17 : Hid (Hs (w16.alloc (.cells #[.string x5, .slice A5 n5 c5] 44)) (some ⟨w16.heap.size, 0, none⟩) 1 1 [hh]) := hl5
                      clear hl5
                      go_wp2_with fail
                      (refine (env_any none 0 0 none 0 0 (some ⟨w16.heap.size, 0, none⟩) 1 1 ⟨[], [], [hh]⟩ (w16.alloc (.cells #[.string x5, .slice A5 n5 c5] 44)) HE17.out (fits_hole HLI.out HHH.out) (Vs.nil _) (Ys.nil _) H5_17.out).mono ?_); rintro e w18 ⟨rfl, hb⟩
                      have HB18 := Lib.hid (nbelow_on HB17.out hb)
                      have HE18 := Lib.hid (HE17.out.below hb)
                      have SS4_18 := Lib.hid (SS4_17.out.below hb)
                      have T4_18 := Lib.hid (T4_17.out.below hb)
                      have SV5_18 := Lib.hid (SV5_17.out.below hb)
                      have T5_18 := Lib.hid (T5_17.out.below hb)
                      have H5_18 := Lib.hid (H5_17.out.below hb)
                      clear hb SS4_17 T4_17 SV5_17 T5_17 H5_17 g0 g1
                      rw [(env_hole HEV.out HHH.out).2]
                      go_wp2_with fail
                      (refine (rcore_any s w18).mono ?_); rintro e w19 ⟨rfl, hb⟩
                      have HB19 := Lib.hid (nbelow_on HB18.out hb)
                      have HE19 := Lib.hid (HE18.out.below hb)
                      have SS4_19 := Lib.hid (SS4_18.out.below hb)
                      have T4_19 := Lib.hid (T4_18.out.below hb)
                      have SV5_19 := Lib.hid (SV5_18.out.below hb)
                      have T5_19 := Lib.hid (T5_18.out.below hb)
                      have H5_19 := Lib.hid (H5_18.out.below hb)
                      clear hb SS4_18 T4_18 SV5_18 T5_18 H5_18
                      rw [(env_hole HEV.out HHH.out).1, show errI true = 0 from rfl]
                      go_wp2_with fail
                      go_ret
                      exact ⟨rfl, HB19.out⟩
                  | false =>
                    have TB0 : (s.toList == [116, 97, 103]) = false := txt_eq_lit ht
                    cases hv : decide (s.data.toList = tVal) with
                    | true =>
                      have TB1 : (s.toList == [118, 97, 108]) = true := txt_eq_lit hv
                      clear ht hv bf
                      cases bh : RH.isSome with
                      | false =>
                        clear bh
                        go_wp2_with fail
                        (refine (check_any y2 (w14.alloc (.cells #[.string x5, .slice A5 n5 c5] 44)) HE15.out).mono ?_); rintro e w16 ⟨rfl, hb⟩
                        have HB16 := Lib.hid (nbelow_on HB15.out hb)
                        have HE16 := Lib.hid (HE15.out.below hb)
                        have SS4_16 := Lib.hid (SS4_15.out.below hb)
                        have T4_16 := Lib.hid (T4_15.out.below hb)
                        have SV5_16 := Lib.hid (SV5_15.out.below hb)
                        have T5_16 := Lib.hid (T5_15.out.below hb)
                        clear hb SS4_15 T4_15 SV5_15 T5_15
                        rw [sortI_yes HSO.out]
                        go_wp2_with fail
                        go_ret
                        exact ⟨rfl, HB16.out⟩
                      | true =>
                        obtain ⟨hh, hhh⟩ := some_of bh
                        clear bh
                        have HHH := Lib.hid (HRH.out.trans hhh)
                        have HHR := Lib.hid hhh
                        clear hhh
                        go_wp2_with fail
                        (refine (check_any y2 (w14.alloc (.cells #[.string x5, .slice A5 n5 c5] 44)) HE15.out).mono ?_); rintro e w16 ⟨rfl, hb⟩
                        have HB16 := Lib.hid (nbelow_on HB15.out hb)
                        have HE16 := Lib.hid (HE15.out.below hb)
                        have SS4_16 := Lib.hid (SS4_15.out.below hb)
                        have T4_16 := Lib.hid (T4_15.out.below hb)
                        have SV5_16 := Lib.hid (SV5_15.out.below hb)
                        have T5_16 := Lib.hid (T5_15.out.below hb)
                        clear hb SS4_15 T4_15 SV5_15 T5_15
                        rw [sortI_yes HSO.out]
                        have g0 := T5_16.out.c 0 (v := .string x5) rfl
                        have g1 := T5_16.out.c 1 (v := .slice A5 n5 c5) rfl
                        have hl5 : Hs (w16.alloc (.cells #[.string x5, .slice A5 n5 c5] 44)) (some ⟨w16.heap.size, 0, none⟩) 1 1 [hh] := by
                          have h := hs_lit (t := 44) (x := x5) SV5_16.out (b := w16.heap.size) (by simp)
                          rw [HX5.out, HHR.out] at h
                          exact h
                        have HB17 : Hid (Below w.heap.size w (w16.alloc (.cells #[.string x5, .slice A5 n5 c5] 44))) := nbelow_on HB16.out (below_alloc _)
                        have HE17 : Hid (Env (w16.alloc (.cells #[.string x5, .slice A5 n5 c5] 44))) := HE16.out.below (below_alloc _)
                        have SS4_17 := Lib.hid (SS4_16.out.below (below_alloc (w := w16) (.cells #[.string x5, .slice A5 n5 c5] 44)))
                        have T4_17 := Lib.hid (T4_16.out.below (below_alloc (w := w16) (.cells #[.string x5, .slice A5 n5 c5] 44)))
                        have SV5_17 := Lib.hid (SV5_16.out.below (below_alloc (w := w16) (.cells #[.string x5, .slice A5 n5 c5] 44)))
                        have T5_17 := Lib.hid (T5_16.out.below (below_alloc (w := w16) (.cells #[.string x5, .slice A5 n5 c5] 44)))
                        clear SS4_16 T4_16 SV5_16 T5_16
                        have H5_17 : Hid (Hs (w16.alloc (.cells #[.string x5, .slice A5 n5 c5] 44)) (some ⟨w16.heap.size, 0, none⟩) 1 1 [hh]) := hl5
                        clear hl5
                        go_wp2_with fail
                        (refine (env_any none 0 0 none 0 0 (some ⟨w16.heap.size, 0, none⟩) 1 1 ⟨[], [], [hh]⟩ (w16.alloc (.cells #[.string x5, .slice A5 n5 c5] 44)) HE17.out (fits_hole HLI.out HHH.out) (Vs.nil _) (Ys.nil _) H5_17.out).mono ?_); rintro e w18 ⟨rfl, hb⟩
                        have HB18 := Lib.hid (nbelow_on HB17.out hb)
                        have HE18 := Lib.hid (HE17.out.below hb)
                        have SS4_18 := Lib.hid (SS4_17.out.below hb)
                        have T4_18 := Lib.hid (T4_17.out.below hb)
                        have SV5_18 := Lib.hid (SV5_17.out.below hb)
                        have T5_18 := Lib.hid (T5_17.out.below hb)
                        have H5_18 := Lib.hid (H5_17.out.below hb)
                        clear hb SS4_17 T4_17 SV5_17 T5_17 H5_17 g0 g1
                        rw [(env_hole HEV.out HHH.out).2]
                        go_wp2_with fail
                        (refine (rcore_any s w18).mono ?_); rintro e w19 ⟨rfl, hb⟩
                        have HB19 := Lib.hid (nbelow_on HB18.out hb)
                        have HE19 := Lib.hid (HE18.out.below hb)
                        have SS4_19 := Lib.hid (SS4_18.out.below hb)
                        have T4_19 := Lib.hid (T4_18.out.below hb)
                        have SV5_19 := Lib.hid (SV5_18.out.below hb)
                        have T5_19 := Lib.hid (T5_18.out.below hb)
                        have H5_19 := Lib.hid (H5_18.out.below hb)
                        clear hb SS4_18 T4_18 SV5_18 T5_18 H5_18
                        rw [(env_hole HEV.out HHH.out).1, show errI true = 0 from rfl]
                        go_wp2_with fail
                        go_ret
                        exact ⟨rfl, HB19.out⟩
                    | false =>
                      have TB1 : (s.toList == [118, 97, 108]) = false := txt_eq_lit hv
                      obtain ⟨yy, hyy⟩ := some_of bf
                      have HSY : Hid (symI ⟨x4.data.toList, (RF.getD sy0).args, y4.data.toList⟩ = 0) := by
                        rw [HX4.out, HYY4.out, hyy]
                        exact env_sym HEV.out ((findF_sym (of_decide_eq_false ht) (of_decide_eq_false hv)).symm.trans (HRF.out.trans hyy))
                      clear ht hv bf hyy
                      cases bh : RH.isSome with
                      | false =>
                        clear bh
                        go_wp2_with fail
                        (refine (check_any y2 (w14.alloc (.cells #[.string x5, .slice A5 n5 c5] 44)) HE15.out).mono ?_); rintro e w16 ⟨rfl, hb⟩
                        have HB16 := Lib.hid (nbelow_on HB15.out hb)
                        have HE16 := Lib.hid (HE15.out.below hb)
                        have SS4_16 := Lib.hid (SS4_15.out.below hb)
                        have T4_16 := Lib.hid (T4_15.out.below hb)
                        have SV5_16 := Lib.hid (SV5_15.out.below hb)
                        have T5_16 := Lib.hid (T5_15.out.below hb)
                        clear hb SS4_15 T4_15 SV5_15 T5_15
                        rw [sortI_yes HSO.out]
                        have e0 := T4_16.out.c 0 (v := .string x4) rfl
                        have e1 := T4_16.out.c 1 (v := .slice A4 n4 c4) rfl
                        have e2 := T4_16.out.c 2 (v := .string y4) rfl
                        go_wp2_with fail
                        (refine (sym_any x4 y4 A4 n4 c4 _ w16 HE16.out SS4_16.out).mono ?_); rintro e w17 ⟨rfl, hb⟩
                        have HB17 := Lib.hid (nbelow_on HB16.out hb)
                        have HE17 := Lib.hid (HE16.out.below hb)
                        have SS4_17 := Lib.hid (SS4_16.out.below hb)
                        have T4_17 := Lib.hid (T4_16.out.below hb)
                        have SV5_17 := Lib.hid (SV5_16.out.below hb)
                        have T5_17 := Lib.hid (T5_16.out.below hb)
                        clear hb SS4_16 T4_16 SV5_16 T5_16 e0 e1 e2
                        rw [HSY.out]
                        go_wp2_with fail
                        go_ret
                        exact ⟨rfl, HB17.out⟩
                      | true =>
                        obtain ⟨hh, hhh⟩ := some_of bh
                        clear bh
                        have HHH := Lib.hid (HRH.out.trans hhh)
                        have HHR := Lib.hid hhh
                        clear hhh
                        go_wp2_with fail
                        (refine (check_any y2 (w14.alloc (.cells #[.string x5, .slice A5 n5 c5] 44)) HE15.out).mono ?_); rintro e w16 ⟨rfl, hb⟩
                        have HB16 := Lib.hid (nbelow_on HB15.out hb)
                        have HE16 := Lib.hid (HE15.out.below hb)
                        have SS4_16 := Lib.hid (SS4_15.out.below hb)
                        have T4_16 := Lib.hid (T4_15.out.below hb)
                        have SV5_16 := Lib.hid (SV5_15.out.below hb)
                        have T5_16 := Lib.hid (T5_15.out.below hb)
                        clear hb SS4_15 T4_15 SV5_15 T5_15
                        rw [sortI_yes HSO.out]
                        have e0 := T4_16.out.c 0 (v := .string x4) rfl
                        have e1 := T4_16.out.c 1 (v := .slice A4 n4 c4) rfl
                        have e2 := T4_16.out.c 2 (v := .string y4) rfl
                        go_wp2_with fail
                        (refine (sym_any x4 y4 A4 n4 c4 _ w16 HE16.out SS4_16.out).mono ?_); rintro e w17 ⟨rfl, hb⟩
                        have HB17 := Lib.hid (nbelow_on HB16.out hb)
                        have HE17 := Lib.hid (HE16.out.below hb)
                        have SS4_17 := Lib.hid (SS4_16.out.below hb)
                        have T4_17 := Lib.hid (T4_16.out.below hb)
                        have SV5_17 := Lib.hid (SV5_16.out.below hb)
                        have T5_17 := Lib.hid (T5_16.out.below hb)
                        clear hb SS4_16 T4_16 SV5_16 T5_16 e0 e1 e2
                        rw [HSY.out]
                        have g0 := T5_17.out.c 0 (v := .string x5) rfl
                        have g1 := T5_17.out.c 1 (v := .slice A5 n5 c5) rfl
                        have hl5 : Hs (w17.alloc (.cells #[.string x5, .slice A5 n5 c5] 44)) (some ⟨w17.heap.size, 0, none⟩) 1 1 [hh] := by
                          have h := hs_lit (t := 44) (x := x5) SV5_17.out (b := w17.heap.size) (by simp)
                          rw [HX5.out, HHR.out] at h
                          exact h
                        have HB18 : Hid (Below w.heap.size w (w17.alloc (.cells #[.string x5, .slice A5 n5 c5] 44))) := nbelow_on HB17.out (below_alloc _)
                        have HE18 : Hid (Env (w17.alloc (.cells #[.string x5, .slice A5 n5 c5] 44))) := HE17.out.below (below_alloc _)
                        have SS4_18 := Lib.hid (SS4_17.out.below (below_alloc (w := w17) (.cells #[.string x5, .slice A5 n5 c5] 44)))
                        have T4_18 := Lib.hid (T4_17.out.below (below_alloc (w := w17) (.cells #[.string x5, .slice A5 n5 c5] 44)))
                        have SV5_18 := Lib.hid (SV5_17.out.below (below_alloc (w := w17) (.cells #[.string x5, .slice A5 n5 c5] 44)))
                        have T5_18 := Lib.hid (T5_17.out.below (below_alloc (w := w17) (.cells #[.string x5, .slice A5 n5 c5] 44)))
                        clear SS4_17 T4_17 SV5_17 T5_17
                        have H5_18 : Hid (Hs (w17.alloc (.cells #[.string x5, .slice A5 n5 c5] 44)) (some ⟨w17.heap.size, 0, none⟩) 1 1 [hh]) := hl5
                        clear hl5
                        go_wp2_with fail
                        (refine (env_any none 0 0 none 0 0 (some ⟨w17.heap.size, 0, none⟩) 1 1 ⟨[], [], [hh]⟩ (w17.alloc (.cells #[.string x5, .slice A5 n5 c5] 44)) HE18.out (fits_hole HLI.out HHH.out) (Vs.nil _) (Ys.nil _) H5_18.out).mono ?_); rintro e w19 ⟨rfl, hb⟩
                        have HB19 := Lib.hid (nbelow_on HB18.out hb)
                        have HE19 := Lib.hid (HE18.out.below hb)
                        have SS4_19 := Lib.hid (SS4_18.out.below hb)
                        have T4_19 := Lib.hid (T4_18.out.below hb)
                        have SV5_19 := Lib.hid (SV5_18.out.below hb)
                        have T5_19 := Lib.hid (T5_18.out.below hb)
                        have H5_19 := Lib.hid (H5_18.out.below hb)
                        clear hb SS4_18 T4_18 SV5_18 T5_18 H5_18 g0 g1
                        rw [(env_hole HEV.out HHH.out).2]
                        go_wp2_with fail
                        (refine (rcore_any s w19).mono ?_); rintro e w20 ⟨rfl, hb⟩
                        have HB20 := Lib.hid (nbelow_on HB19.out hb)
                        have HE20 := Lib.hid (HE19.out.below hb)
                        have SS4_20 := Lib.hid (SS4_19.out.below hb)
                        have T4_20 := Lib.hid (T4_19.out.below hb)
                        have SV5_20 := Lib.hid (SV5_19.out.below hb)
                        have T5_20 := Lib.hid (T5_19.out.below hb)
                        have H5_20 := Lib.hid (H5_19.out.below hb)
                        clear hb SS4_19 T4_19 SV5_19 T5_19 H5_19
                        rw [(env_hole HEV.out HHH.out).1, show errI true = 0 from rfl]
                        go_wp2_with fail
                        go_ret
                        exact ⟨rfl, HB20.out⟩
          · skip
            obtain ⟨r, hr⟩ : ∃ r, envI v = r := ⟨_, rfl⟩
            have HR := Lib.hid hr
            rw [hr] at he
            have z0 := zero_eq he
            have z1 := zero_ne he
            clear he hr
            go_wp2_with fail
            (refine (env_any A n c B m d C p q v w10 HE10.out HLI.out.fits HV_10.out HY_10.out HH_10.out).mono ?_); rintro e w11 ⟨rfl, hb⟩
            have HB11 := Lib.hid (nbelow_on HB10.out hb)
            have HE11 := Lib.hid (HE10.out.below hb)
            have HV_11 := Lib.hid (HV_10.out.below hb)
            have HY_11 := Lib.hid (HY_10.out.below hb)
            have HH_11 := Lib.hid (HH_10.out.below hb)
            have K0_11 := Lib.hid (K0_10.out.below hb)
            have K1_11 := Lib.hid (K1_10.out.below hb)
            clear hb HV_10 HY_10 HH_10 K0_10 K1_10 k0 k1 k2
            rw [HR.out]
            go_wp2_with fail
            go_ret
            exact ⟨rfl, HB11.out⟩
      · skip
        have q3 : (300 : Int) < (s.size : Int) := by omega
        clear h3
        go_enter Tryd.func8, Tryd.ntmps8
        go_wp2_with fail
        (refine (CL).mono ?_); rintro e w3 ⟨rfl, hb⟩
        have HB3 := Lib.hid (nbelow_on HB2.out hb)
        have HE3 := Lib.hid (HE2.out.below hb)
        have HV_3 := Lib.hid (HV_2.out.below hb)
        have HY_3 := Lib.hid (HY_2.out.below hb)
        have HH_3 := Lib.hid (HH_2.out.below hb)
        have K0_3 := Lib.hid (K0_2.out.below hb)
        have K1_3 := Lib.hid (K1_2.out.below hb)
        clear hb HV_2 HY_2 HH_2 K0_2 K1_2 CL
        have a0 := K1_3.out.c 0 (v := .string x) rfl
        have a1 := K1_3.out.c 1 (v := .string y) rfl
        have CS := short_any (some ⟨w3.heap.size, 0, none⟩) 1 1 _ _ (one_vs w3 x y rfl)
        rw [hs] at CS
        have HB4 : Hid (Below w.heap.size w (w3.alloc (.cells #[.string x, .string y] 62))) := nbelow_on HB3.out (below_alloc _)
        have HE4 : Hid (Env (w3.alloc (.cells #[.string x, .string y] 62))) := HE3.out.below (below_alloc _)
        have HV_4 := Lib.hid (HV_3.out.below (below_alloc (w := w3) (.cells #[.string x, .string y] 62)))
        have HY_4 := Lib.hid (HY_3.out.below (below_alloc (w := w3) (.cells #[.string x, .string y] 62)))
        have HH_4 := Lib.hid (HH_3.out.below (below_alloc (w := w3) (.cells #[.string x, .string y] 62)))
        have K0_4 := Lib.hid (K0_3.out.below (below_alloc (w := w3) (.cells #[.string x, .string y] 62)))
        have K1_4 := Lib.hid (K1_3.out.below (below_alloc (w := w3) (.cells #[.string x, .string y] 62)))
        clear HV_3 HY_3 HH_3 K0_3 K1_3
        clear hs
        go_wp2_with fail
        (refine (CS).mono ?_); rintro e wx ⟨rfl, rfl⟩
        clear CS a0 a1
        go_wp2_with fail
        (refine (awake_any (w3.alloc (.cells #[.string x, .string y] 62)) HE4.out).mono ?_); rintro e w5 ⟨rfl, hb⟩
        have HB5 := Lib.hid (nbelow_on HB4.out hb)
        have HE5 := Lib.hid (HE4.out.below hb)
        have HV_5 := Lib.hid (HV_4.out.below hb)
        have HY_5 := Lib.hid (HY_4.out.below hb)
        have HH_5 := Lib.hid (HH_4.out.below hb)
        have K0_5 := Lib.hid (K0_4.out.below hb)
        have K1_5 := Lib.hid (K1_4.out.below hb)
        clear hb HV_4 HY_4 HH_4 K0_4 K1_4
        go_wp2_with fail
        go_ret
        exact ⟨rfl, HB5.out⟩

set_option maxRecDepth 100000 in
theorem contract (H : Type) (enc : TypeId × Value → H) (W : World) (base : Nat) (args : Array Value) (ds gs : List (DataW H)) (before : List MemPlace)
    (hval : ∀ (j : Nat) t v, Tryd.f8.params[j]? = some t → args[j]? = some v → Value.okWide Tryd.prog W .any base t v)
    (hW : DataW.Whole enc Tryd.prog Tryd.f8.params.toList Rows.sortLooksSpec.vars false W args.toList ds gs before) (hL : laidMetH Tryd.prog Rows.sortLooksRow.laid W) (hSh : W.ShapedOpen Tryd.prog) :
    Calls Tryd.prog 8 args W fun e W' => ∃ v, e = .returned v ∧ Rows.sortLooksSpec.post enc Tryd.prog Tryd.f8 false true false false W args v W' := by
  have hW' := hW
  obtain ⟨p, q, hA0, hV, rfl, hfz, hnd⟩ := hW
  have hA : DataW.TrodAll enc Tryd.prog W 0 (fun _ => true) true Tryd.f8.params.toList args.toList ds p := hA0
  have hlt : ∀ x ∈ p, x.block < W.heap.size := fun x hx => hW'.lt x (by simp [hx])
  have hAll := hA
  rw [Tryd.params8] at hA hval
  obtain ⟨v0, vs0, d0, ds0, p0, q0, hargs, rfl, rfl, h0, r0⟩ := trodAll_cons hA
  obtain ⟨v1, vs1, d1, ds1, p1, q1, rfl, rfl, rfl, h1, r1⟩ := trodAll_cons r0
  obtain ⟨v2, vs2, d2, ds2, p2, q2, rfl, rfl, rfl, h2, r2⟩ := trodAll_cons r1
  obtain ⟨rfl, rfl, rfl⟩ := trodAll_nil r2
  obtain rfl : args = #[v0, v1, v2] := by cases args; simp_all
  obtain ⟨rfl, rfl⟩ := trodVars_none hV
  obtain ⟨A1, n1, c1, B1, m1, d1', C1, p1', q1', e1, rfl, ga1, gb1, gc1⟩ := open_env (hval 0 36 v0 rfl rfl) h0
  obtain ⟨x2, y2, rfl⟩ := open_varv (hval 1 62 v1 rfl rfl) h1
  obtain ⟨t3, rfl, _, _, g3⟩ := open_string Tryd.underlying9 (hval 2 9 v2 rfl rfl) h2
  refine (walk A1 n1 c1 B1 m1 d1' C1 p1' q1' e1 x2 y2 t3 W (env_of_laid hL hSh) ga1 gb1 gc1).mono fun e W' ⟨he, hg⟩ => ?_
  subst he
  refine ⟨_, rfl, _, _, _, [], _, [], hW', trodAll_mk1 (shut_bool Tryd.underlying4 _), trodAll_below hg (fun t ht => ?_) hAll hlt, rfl, hg.frame _, fun h => by cases h⟩
  rw [Tryd.params8] at ht
  simp only [List.mem_cons, List.not_mem_nil, or_false] at ht
  rcases ht with rfl | rfl | rfl
  · exact read_env
  · exact read_var
  · exact read_string

set_option maxRecDepth 100000 in
theorem reads (os : Os) {H : Type} (enc : TypeId × Value → H) : ∃ places, DataW.whole enc Tryd.prog ((World.laidAll Tryd.prog os laidNames).forCall (fun _ _ => 0) ⟨#[], #[Value.agg #[.slice none 0 0, .slice none 0 0, .slice none 0 0], Value.agg #[.string ByteArray.empty, .string ByteArray.empty], Value.string ByteArray.empty], []⟩).memory Tryd.f8.params.toList Rows.sortLooksSpec.vars false #[Value.agg #[.slice none 0 0, .slice none 0 0, .slice none 0 0], Value.agg #[.string ByteArray.empty, .string ByteArray.empty], Value.string ByteArray.empty].toList 8 = some ([.agg [.nil, .nil, .nil], .agg [.lit (.string []), .lit (.string [])], .lit (.string [])], [], places) :=
  ⟨[], by kernel_rfl⟩

set_option maxRecDepth 100000 in
theorem lifted (os : Os) (started : os.Started) (H : Type) (enc : TypeId × Value → H) (F : Stop.Interp) :
    ReturnsInHanded {} Tryd.checked os 8 .any ((OpenSpec.ofChange Rows.sortLooksSpec).preRow enc Tryd.prog Tryd.f8 Rows.sortLooksRow.domain false Rows.sortLooksRow.laid) (((OpenSpec.ofChange Rows.sortLooksSpec).at F).post enc Tryd.prog Tryd.f8 false true false false) := by
  obtain ⟨places, hx⟩ := reads os enc
  refine returnsInHanded_of_row (C := Tryd.checked) (s := OpenSpec.ofChange Rows.sortLooksSpec) own started (by kernel_rfl) Tryd.func8
    (witness_row_at (enc := enc) (C := Tryd.checked) false (World.laidAll Tryd.prog os laidNames) #[Value.agg #[.slice none 0 0, .slice none 0 0, .slice none 0 0], Value.agg #[.string ByteArray.empty, .string ByteArray.empty], Value.string ByteArray.empty] rfl (by kernel_rfl) (by kernel_rfl) (by kernel_rfl)
      (OpenSpec.preRow_of_cond 8 hx (by kernel_rfl) (fun k hk => by cases hk) (by kernel_rfl) (laid_met os _))) ?_
  intro W base args ds gs before hval hW _ _ _ hL hSh _
  exact contract H enc W base args ds gs before hval hW hL hSh

theorem said : Rows.SortLooksSaid :=
  OpenClaim.holds_of_cond 8 Tryd.f8 rfl rfl rfl rfl rfl rfl rfl ⟨rfl, rfl, rfl, rfl, rfl⟩ rfl rfl rfl rfl rfl (by kernel_rfl) Tryd.func8 (by kernel_rfl)
    (of_decide_eq_true (by kernel_rfl)) (by unfold Func.isWrapper; first | (rw [if_pos (by decide +kernel)]; kernel_rfl) | (rw [if_neg (by decide +kernel)]; exact ⟨rfl, rfl⟩))
    (fun os started H enc _ F => by rw [OpenClaim.pre_eq_preRow]; exact lifted os started H enc F)

theorem plain (f : FuncId) (fn : Func) (hf : Tryd.pinned.checked.prog.funcNamed "liquidcheck/liquidchecklaw06.SortLooks" = some f) (hfn : Tryd.pinned.checked.prog.funcs[f]? = some fn) :
    false = Tryd.pinned.checked.prog.looks [] ∧ ∀ (j : Nat) t, fn.params[j]? = some t → Tryd.pinned.checked.prog.wantsStandIn t = false := by
  obtain rfl : f = 8 := Option.some.inj ((show Tryd.prog.funcNamed "liquidcheck/liquidchecklaw06.SortLooks" = some 8 by kernel_rfl).symm.trans hf) |>.symm
  obtain rfl : fn = Tryd.f8 := (Option.some.inj (Tryd.func8.symm.trans hfn)).symm
  refine ⟨by kernel_rfl, fun j t ht => ?_⟩
  rw [Tryd.params8] at ht
  have hm := Array.mem_of_getElem? ht
  simp only [List.mem_toArray, List.mem_cons, List.not_mem_nil, or_false] at hm
  rcases hm with rfl | rfl | rfl
  · exact (show Tryd.prog.wantsStandIn 36 = false by kernel_rfl)
  · exact (show Tryd.prog.wantsStandIn 62 = false by kernel_rfl)
  · exact (show Tryd.prog.wantsStandIn 9 = false by kernel_rfl)

theorem card : Rows.SortLooksCardSaid :=
  Claim7.holds_tied_plain_at .later [] _ _ _ _ said (fun _ h => by cases h) (by kernel_rfl) (fun _ h => by cases h) sortLooks_row_tie rfl ⟨rfl, rfl⟩ (by kernel_rfl) rfl plain (by kernel_rfl)
end Go.Proofs.YtegognbnphpigaaDoor.sortLooks
