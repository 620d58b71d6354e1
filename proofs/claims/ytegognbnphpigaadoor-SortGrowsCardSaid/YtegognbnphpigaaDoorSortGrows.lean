/-
  THE STATEMENT SortGrows IS PROVED: for every environment and every variable (the listed tables holding what the program's text lays, tied by the card), the law returns true and its arguments read as before.
-/
import Derived.Test.YtegognbnphpigaaDoorCards
import Derived.Test.YtegognbnphpigaaDoorTie
import Derived.Test.YtegognbnphpigaaDoorSoLaid
import Derived.Test.YtegognbnphpigaaDoorSoS
namespace Go.Proofs.YtegognbnphpigaaDoor.sortGrows
open Go.ChangeShapes Go.WideShapes Go.ChangeAt Go.RowKit
open Go.ChangeMaps (open_string shut_string)

theorem fits_with {v : En} {x : Vr} (h : Li v) (hx : x.name.length ≤ 300) : Fits ⟨withV v.vars x, v.syms, v.holes⟩ :=
  ⟨fun y hy => by
    rcases List.mem_append.1 hy with hy | hy
    · exact h.fits.vars y (List.mem_filter.1 hy).1
    · rw [List.mem_singleton.1 hy]; exact Nat.le_trans hx (by decide), h.fits.syms, h.fits.holes⟩
set_option maxRecDepth 100000 in
set_option maxHeartbeats 8000000 in
theorem walk (A : Option Addr) (n c : Nat) (B : Option Addr) (m d : Nat) (C : Option Addr) (p q : Nat) (v : En) (x y : ByteArray) (w : World) (henv : Env w) (ha : Vs w A n c v.vars) (hb : Ys w B m d v.syms) (hc : Hs w C p q v.holes) : Calls Tryd.prog 9 #[.agg #[.slice A n c, .slice B m d, .slice C p q], .agg #[.string x, .string y]] w fun e w' => e = .returned (.bool true) ∧ Below w.heap.size w w' := by
  have HB0 : Hid (Below w.heap.size w w) := Below.refl _ _
  have HE0 := Lib.hid henv
  have HV_0 := Lib.hid ha
  have HY_0 := Lib.hid hb
  have HH_0 := Lib.hid hc
  clear henv ha hb hc
  have HB1 : Hid (Below w.heap.size w (w.alloc (.cells #[.slice A n c, .slice B m d, .slice C p q] 36))) := nbelow_on HB0.out (below_alloc _)
  have HE1 : Hid (Env (w.alloc (.cells #[.slice A n c, .slice B m d, .slice C p q] 36))) := HE0.out.below (below_alloc _)
  have HV_1 := Lib.hid (HV_0.out.below (below_alloc (w := w) (.cells #[.slice A n c, .slice B m d, .slice C p q] 36)))
  have HY_1 := Lib.hid (HY_0.out.below (below_alloc (w := w) (.cells #[.slice A n c, .slice B m d, .slice C p q] 36)))
  have HH_1 := Lib.hid (HH_0.out.below (below_alloc (w := w) (.cells #[.slice A n c, .slice B m d, .slice C p q] 36)))
  clear HV_0 HY_0 HH_0
  have K0_1 : Hid (Bk 36 (w.alloc (.cells #[.slice A n c, .slice B m d, .slice C p q] 36)) (w.heap.size) #[.slice A n c, .slice B m d, .slice C p q]) := Bk.at _ (by simp)
  have HB2 : Hid (Below w.heap.size w ((w.alloc (.cells #[.slice A n c, .slice B m d, .slice C p q] 36)).alloc (.cells #[.string x, .string y] 62))) := nbelow_on HB1.out (below_alloc _)
  have HE2 : Hid (Env ((w.alloc (.cells #[.slice A n c, .slice B m d, .slice C p q] 36)).alloc (.cells #[.string x, .string y] 62))) := HE1.out.below (below_alloc _)
  have HV_2 := Lib.hid (HV_1.out.below (below_alloc (w := (w.alloc (.cells #[.slice A n c, .slice B m d, .slice C p q] 36))) (.cells #[.string x, .string y] 62)))
  have HY_2 := Lib.hid (HY_1.out.below (below_alloc (w := (w.alloc (.cells #[.slice A n c, .slice B m d, .slice C p q] 36))) (.cells #[.string x, .string y] 62)))
  have HH_2 := Lib.hid (HH_1.out.below (below_alloc (w := (w.alloc (.cells #[.slice A n c, .slice B m d, .slice C p q] 36))) (.cells #[.string x, .string y] 62)))
  have K0_2 := Lib.hid (K0_1.out.below (below_alloc (w := (w.alloc (.cells #[.slice A n c, .slice B m d, .slice C p q] 36))) (.cells #[.string x, .string y] 62)))
  clear HV_1 HY_1 HH_1 K0_1
  have K1_2 : Hid (Bk 62 ((w.alloc (.cells #[.slice A n c, .slice B m d, .slice C p q] 36)).alloc (.cells #[.string x, .string y] 62)) (w.heap.size + 1) #[.string x, .string y]) := Bk.at _ (by simp)
  have CL := light_any A n c B m d C p q v ((w.alloc (.cells #[.slice A n c, .slice B m d, .slice C p q] 36)).alloc (.cells #[.string x, .string y] 62)) HV_2.out HY_2.out HH_2.out
  cases hl : liB v with
  | false =>
    rw [hl] at CL
    clear hl
    go_enter Tryd.func9, Tryd.ntmps9
    go_wp2_with fail
    (refine (CL).mono ?_); rintro e w3 ⟨rfl, hb⟩
    have HB3 := Lib.hid (nbelow_on HB2.out hb)
    have HE3 := Lib.hid (HE2.out.below hb)
    have HV_3 := Lib.hid (HV_2.out.below hb)
    have HY_3 := Lib.hid (HY_2.out.below hb)
    have HH_3 := Lib.hid (HH_2.out.below hb)
    have K0_3 := Lib.hid (K0_2.out.below hb)
    have K1_3 := Lib.hid (K1_2.out.below hb)
    clear hb HV_2 HY_2 HH_2 K0_2 K1_2 CL
    go_wp2_with fail
    (refine (awake_any w3 HE3.out).mono ?_); rintro e w4 ⟨rfl, hb⟩
    have HB4 := Lib.hid (nbelow_on HB3.out hb)
    have HE4 := Lib.hid (HE3.out.below hb)
    have HV_4 := Lib.hid (HV_3.out.below hb)
    have HY_4 := Lib.hid (HY_3.out.below hb)
    have HH_4 := Lib.hid (HH_3.out.below hb)
    have K0_4 := Lib.hid (K0_3.out.below hb)
    have K1_4 := Lib.hid (K1_3.out.below hb)
    clear hb HV_3 HY_3 HH_3 K0_3 K1_3
    go_wp2_with fail
    go_ret
    exact ⟨rfl, HB4.out⟩
  | true =>
    have HLI := Lib.hid (li_of hl)
    rw [hl] at CL
    clear hl
    cases hs : shB [⟨x.data.toList, y.data.toList⟩] with
    | false =>
      go_enter Tryd.func9, Tryd.ntmps9
      go_wp2_with fail
      (refine (CL).mono ?_); rintro e w3 ⟨rfl, hb⟩
      have HB3 := Lib.hid (nbelow_on HB2.out hb)
      have HE3 := Lib.hid (HE2.out.below hb)
      have HV_3 := Lib.hid (HV_2.out.below hb)
      have HY_3 := Lib.hid (HY_2.out.below hb)
      have HH_3 := Lib.hid (HH_2.out.below hb)
      have K0_3 := Lib.hid (K0_2.out.below hb)
      have K1_3 := Lib.hid (K1_2.out.below hb)
      clear hb HV_2 HY_2 HH_2 K0_2 K1_2 CL
      have a0 := K1_3.out.c 0 (v := .string x) rfl
      have a1 := K1_3.out.c 1 (v := .string y) rfl
      have CS := short_any (some ⟨w3.heap.size, 0, none⟩) 1 1 _ _ (one_vs w3 x y rfl)
      rw [hs] at CS
      have HB4 : Hid (Below w.heap.size w (w3.alloc (.cells #[.string x, .string y] 62))) := nbelow_on HB3.out (below_alloc _)
      have HE4 : Hid (Env (w3.alloc (.cells #[.string x, .string y] 62))) := HE3.out.below (below_alloc _)
      have HV_4 := Lib.hid (HV_3.out.below (below_alloc (w := w3) (.cells #[.string x, .string y] 62)))
      have HY_4 := Lib.hid (HY_3.out.below (below_alloc (w := w3) (.cells #[.string x, .string y] 62)))
      have HH_4 := Lib.hid (HH_3.out.below (below_alloc (w := w3) (.cells #[.string x, .string y] 62)))
      have K0_4 := Lib.hid (K0_3.out.below (below_alloc (w := w3) (.cells #[.string x, .string y] 62)))
      have K1_4 := Lib.hid (K1_3.out.below (below_alloc (w := w3) (.cells #[.string x, .string y] 62)))
      clear HV_3 HY_3 HH_3 K0_3 K1_3
      clear hs
      go_wp2_with fail
      (refine (CS).mono ?_); rintro e wx ⟨rfl, rfl⟩
      clear CS a0 a1
      go_wp2_with fail
      (refine (awake_any (w3.alloc (.cells #[.string x, .string y] 62)) HE4.out).mono ?_); rintro e w5 ⟨rfl, hb⟩
      have HB5 := Lib.hid (nbelow_on HB4.out hb)
      have HE5 := Lib.hid (HE4.out.below hb)
      have HV_5 := Lib.hid (HV_4.out.below hb)
      have HY_5 := Lib.hid (HY_4.out.below hb)
      have HH_5 := Lib.hid (HH_4.out.below hb)
      have K0_5 := Lib.hid (K0_4.out.below hb)
      have K1_5 := Lib.hid (K1_4.out.below hb)
      clear hb HV_4 HY_4 HH_4 K0_4 K1_4
      go_wp2_with fail
      go_ret
      exact ⟨rfl, HB5.out⟩
    | true =>
      have HX3 : Hid (x.size ≤ 300) := by rw [size_list]; exact (shB_at hs (List.mem_singleton.2 rfl)).1
      by_cases he : envI v = 0
      · skip
        have HEV := Lib.hid he
        clear he
        cases hv1 : decide (x.data.toList = [118]) with
        | true =>
          have TB : (x.toList == [118]) = true := txt_eq_lit hv1
          have HNV : Hid (nameV x.data.toList = true) := by show nameV _ = _; unfold nameV; rw [of_decide_eq_true hv1]; rfl
          clear hv1
          cases hso : sortB y.data.toList with
          | false =>
            have HSO := Lib.hid hso
            clear hso
            go_enter Tryd.func9, Tryd.ntmps9
            go_wp2_with fail
            (refine (CL).mono ?_); rintro e w3 ⟨rfl, hb⟩
            have HB3 := Lib.hid (nbelow_on HB2.out hb)
            have HE3 := Lib.hid (HE2.out.below hb)
            have HV_3 := Lib.hid (HV_2.out.below hb)
            have HY_3 := Lib.hid (HY_2.out.below hb)
            have HH_3 := Lib.hid (HH_2.out.below hb)
            have K0_3 := Lib.hid (K0_2.out.below hb)
            have K1_3 := Lib.hid (K1_2.out.below hb)
            clear hb HV_2 HY_2 HH_2 K0_2 K1_2 CL
            have a0 := K1_3.out.c 0 (v := .string x) rfl
            have a1 := K1_3.out.c 1 (v := .string y) rfl
            have CS := short_any (some ⟨w3.heap.size, 0, none⟩) 1 1 _ _ (one_vs w3 x y rfl)
            rw [hs] at CS
            have HB4 : Hid (Below w.heap.size w (w3.alloc (.cells #[.string x, .string y] 62))) := nbelow_on HB3.out (below_alloc _)
            have HE4 : Hid (Env (w3.alloc (.cells #[.string x, .string y] 62))) := HE3.out.below (below_alloc _)
            have HV_4 := Lib.hid (HV_3.out.below (below_alloc (w := w3) (.cells #[.string x, .string y] 62)))
            have HY_4 := Lib.hid (HY_3.out.below (below_alloc (w := w3) (.cells #[.string x, .string y] 62)))
            have HH_4 := Lib.hid (HH_3.out.below (below_alloc (w := w3) (.cells #[.string x, .string y] 62)))
            have K0_4 := Lib.hid (K0_3.out.below (below_alloc (w := w3) (.cells #[.string x, .string y] 62)))
            have K1_4 := Lib.hid (K1_3.out.below (below_alloc (w := w3) (.cells #[.string x, .string y] 62)))
            clear HV_3 HY_3 HH_3 K0_3 K1_3
            clear hs
            have k0 := K0_4.out.c 0 (v := .slice A n c) rfl
            have k1 := K0_4.out.c 1 (v := .slice B m d) rfl
            have k2 := K0_4.out.c 2 (v := .slice C p q) rfl
            go_wp2_with fail
            (refine (CS).mono ?_); rintro e wx ⟨rfl, rfl⟩
            clear CS a0 a1
            go_wp2_with fail
            (refine (env_any A n c B m d C p q v (w3.alloc (.cells #[.string x, .string y] 62)) HE4.out HLI.out.fits HV_4.out HY_4.out HH_4.out).mono ?_); rintro e w5 ⟨rfl, hb⟩
            have HB5 := Lib.hid (nbelow_on HB4.out hb)
            have HE5 := Lib.hid (HE4.out.below hb)
            have HV_5 := Lib.hid (HV_4.out.below hb)
            have HY_5 := Lib.hid (HY_4.out.below hb)
            have HH_5 := Lib.hid (HH_4.out.below hb)
            have K0_5 := Lib.hid (K0_4.out.below hb)
            have K1_5 := Lib.hid (K1_4.out.below hb)
            clear hb HV_4 HY_4 HH_4 K0_4 K1_4 k0 k1 k2
            rw [HEV.out]
            have a0 := K1_5.out.c 0 (v := .string x) rfl
            have a1 := K1_5.out.c 1 (v := .string y) rfl
            go_wp2_with fail
            (refine (check_any y w5 HE5.out).mono ?_); rintro e w6 ⟨rfl, hb⟩
            have HB6 := Lib.hid (nbelow_on HB5.out hb)
            have HE6 := Lib.hid (HE5.out.below hb)
            have HV_6 := Lib.hid (HV_5.out.below hb)
            have HY_6 := Lib.hid (HY_5.out.below hb)
            have HH_6 := Lib.hid (HH_5.out.below hb)
            have K0_6 := Lib.hid (K0_5.out.below hb)
            have K1_6 := Lib.hid (K1_5.out.below hb)
            clear hb HV_5 HY_5 HH_5 K0_5 K1_5 a0 a1
            rw [sortI_no HSO.out]
            go_wp2_with fail
            (refine (awake_any w6 HE6.out).mono ?_); rintro e w7 ⟨rfl, hb⟩
            have HB7 := Lib.hid (nbelow_on HB6.out hb)
            have HE7 := Lib.hid (HE6.out.below hb)
            have HV_7 := Lib.hid (HV_6.out.below hb)
            have HY_7 := Lib.hid (HY_6.out.below hb)
            have HH_7 := Lib.hid (HH_6.out.below hb)
            have K0_7 := Lib.hid (K0_6.out.below hb)
            have K1_7 := Lib.hid (K1_6.out.below hb)
            clear hb HV_6 HY_6 HH_6 K0_6 K1_6
            go_wp2_with fail
            go_ret
            exact ⟨rfl, HB7.out⟩
          | true =>
            have HW : Hid (envI (⟨withV v.vars ⟨x.data.toList, y.data.toList⟩, v.syms, v.holes⟩ : En) = if (⟨withV v.vars ⟨x.data.toList, y.data.toList⟩, v.syms, v.holes⟩ : En).vars.length ≤ 24 then 0 else 7) := with_env HEV.out HNV.out hso
            have HSO := Lib.hid hso
            clear hso
            go_enter Tryd.func9, Tryd.ntmps9
            go_wp2_with fail
            (refine (CL).mono ?_); rintro e w3 ⟨rfl, hb⟩
            have HB3 := Lib.hid (nbelow_on HB2.out hb)
            have HE3 := Lib.hid (HE2.out.below hb)
            have HV_3 := Lib.hid (HV_2.out.below hb)
            have HY_3 := Lib.hid (HY_2.out.below hb)
            have HH_3 := Lib.hid (HH_2.out.below hb)
            have K0_3 := Lib.hid (K0_2.out.below hb)
            have K1_3 := Lib.hid (K1_2.out.below hb)
            clear hb HV_2 HY_2 HH_2 K0_2 K1_2 CL
            have a0 := K1_3.out.c 0 (v := .string x) rfl
            have a1 := K1_3.out.c 1 (v := .string y) rfl
            have CS := short_any (some ⟨w3.heap.size, 0, none⟩) 1 1 _ _ (one_vs w3 x y rfl)
            rw [hs] at CS
            have HB4 : Hid (Below w.heap.size w (w3.alloc (.cells #[.string x, .string y] 62))) := nbelow_on HB3.out (below_alloc _)
            have HE4 : Hid (Env (w3.alloc (.cells #[.string x, .string y] 62))) := HE3.out.below (below_alloc _)
            have HV_4 := Lib.hid (HV_3.out.below (below_alloc (w := w3) (.cells #[.string x, .string y] 62)))
            have HY_4 := Lib.hid (HY_3.out.below (below_alloc (w := w3) (.cells #[.string x, .string y] 62)))
            have HH_4 := Lib.hid (HH_3.out.below (below_alloc (w := w3) (.cells #[.string x, .string y] 62)))
            have K0_4 := Lib.hid (K0_3.out.below (below_alloc (w := w3) (.cells #[.string x, .string y] 62)))
            have K1_4 := Lib.hid (K1_3.out.below (below_alloc (w := w3) (.cells #[.string x, .string y] 62)))
            clear HV_3 HY_3 HH_3 K0_3 K1_3
            clear hs
            have k0 := K0_4.out.c 0 (v := .slice A n c) rfl
            have k1 := K0_4.out.c 1 (v := .slice B m d) rfl
            have k2 := K0_4.out.c 2 (v := .slice C p q) rfl
            go_wp2_with fail
            (refine (CS).mono ?_); rintro e wx ⟨rfl, rfl⟩
            clear CS a0 a1
            go_wp2_with fail
            (refine (env_any A n c B m d C p q v (w3.alloc (.cells #[.string x, .string y] 62)) HE4.out HLI.out.fits HV_4.out HY_4.out HH_4.out).mono ?_); rintro e w5 ⟨rfl, hb⟩
            have HB5 := Lib.hid (nbelow_on HB4.out hb)
            have HE5 := Lib.hid (HE4.out.below hb)
            have HV_5 := Lib.hid (HV_4.out.below hb)
            have HY_5 := Lib.hid (HY_4.out.below hb)
            have HH_5 := Lib.hid (HH_4.out.below hb)
            have K0_5 := Lib.hid (K0_4.out.below hb)
            have K1_5 := Lib.hid (K1_4.out.below hb)
            clear hb HV_4 HY_4 HH_4 K0_4 K1_4 k0 k1 k2
            rw [HEV.out]
            have a0 := K1_5.out.c 0 (v := .string x) rfl
            have a1 := K1_5.out.c 1 (v := .string y) rfl
            go_wp2_with fail
            (refine (check_any y w5 HE5.out).mono ?_); rintro e w6 ⟨rfl, hb⟩
            have HB6 := Lib.hid (nbelow_on HB5.out hb)
            have HE6 := Lib.hid (HE5.out.below hb)
            have HV_6 := Lib.hid (HV_5.out.below hb)
            have HY_6 := Lib.hid (HY_5.out.below hb)
            have HH_6 := Lib.hid (HH_5.out.below hb)
            have K0_6 := Lib.hid (K0_5.out.below hb)
            have K1_6 := Lib.hid (K1_5.out.below hb)
            clear hb HV_5 HY_5 HH_5 K0_5 K1_5 a0 a1
            rw [sortI_yes HSO.out]
            have k0 := K0_6.out.c 0 (v := .slice A n c) rfl
            have k1 := K0_6.out.c 1 (v := .slice B m d) rfl
            have k2 := K0_6.out.c 2 (v := .slice C p q) rfl
            have a0 := K1_6.out.c 0 (v := .string x) rfl
            have a1 := K1_6.out.c 1 (v := .string y) rfl
            go_wp2_with fail
            (refine (with_at w6 _ (Below.refl _ _) A n c B m d C p q v x y HV_6.out HY_6.out HH_6.out HLI.out HX3.out).mono ?_); rintro e w7 ⟨A1, n1, c1, B1, m1, d1, C1, p1, q1, rfl, u1, u2, u3, hb⟩
            have HB7 := Lib.hid (nbelow_on HB6.out hb)
            have HE7 := Lib.hid (HE6.out.below hb)
            have HV_7 := Lib.hid (HV_6.out.below hb)
            have HY_7 := Lib.hid (HY_6.out.below hb)
            have HH_7 := Lib.hid (HH_6.out.below hb)
            have K0_7 := Lib.hid (K0_6.out.below hb)
            have K1_7 := Lib.hid (K1_6.out.below hb)
            clear hb HV_6 HY_6 HH_6 K0_6 K1_6 k0 k1 k2 a0 a1
            have U1_7 : Hid (Vs w7 A1 n1 c1 (⟨withV v.vars ⟨x.data.toList, y.data.toList⟩, v.syms, v.holes⟩ : En).vars) := u1.out
            have U2_7 : Hid (Ys w7 B1 m1 d1 (⟨withV v.vars ⟨x.data.toList, y.data.toList⟩, v.syms, v.holes⟩ : En).syms) := u2.out
            have U3_7 : Hid (Hs w7 C1 p1 q1 (⟨withV v.vars ⟨x.data.toList, y.data.toList⟩, v.syms, v.holes⟩ : En).holes) := u3.out
            clear u1 u2 u3
            have HB8 : Hid (Below w.heap.size w (w7.alloc (.cells #[.slice A1 n1 c1, .slice B1 m1 d1, .slice C1 p1 q1] 36))) := nbelow_on HB7.out (below_alloc _)
            have HE8 : Hid (Env (w7.alloc (.cells #[.slice A1 n1 c1, .slice B1 m1 d1, .slice C1 p1 q1] 36))) := HE7.out.below (below_alloc _)
            have U1_8 := Lib.hid (U1_7.out.below (below_alloc (w := w7) (.cells #[.slice A1 n1 c1, .slice B1 m1 d1, .slice C1 p1 q1] 36)))
            have U2_8 := Lib.hid (U2_7.out.below (below_alloc (w := w7) (.cells #[.slice A1 n1 c1, .slice B1 m1 d1, .slice C1 p1 q1] 36)))
            have U3_8 := Lib.hid (U3_7.out.below (below_alloc (w := w7) (.cells #[.slice A1 n1 c1, .slice B1 m1 d1, .slice C1 p1 q1] 36)))
            clear U1_7 U2_7 U3_7
            have K2_8 : Hid (Bk 36 (w7.alloc (.cells #[.slice A1 n1 c1, .slice B1 m1 d1, .slice C1 p1 q1] 36)) (w7.heap.size) #[.slice A1 n1 c1, .slice B1 m1 d1, .slice C1 p1 q1]) := Bk.at _ (by simp)
            have k0 := K2_8.out.c 0 (v := .slice A1 n1 c1) rfl
            have k1 := K2_8.out.c 1 (v := .slice B1 m1 d1) rfl
            have k2 := K2_8.out.c 2 (v := .slice C1 p1 q1) rfl
            have HLN : Hid ((⟨withV v.vars ⟨x.data.toList, y.data.toList⟩, v.syms, v.holes⟩ : En).vars.length = n1) := U1_8.out.len
            rw [HLN.out] at HW
            go_wp2_with fail
            (refine (env_any A1 n1 c1 B1 m1 d1 C1 p1 q1 (⟨withV v.vars ⟨x.data.toList, y.data.toList⟩, v.syms, v.holes⟩ : En) (w7.alloc (.cells #[.slice A1 n1 c1, .slice B1 m1 d1, .slice C1 p1 q1] 36)) HE8.out (fits_with HLI.out (by show x.data.toList.length ≤ 300; rw [← size_list]; exact HX3.out)) U1_8.out U2_8.out U3_8.out).mono ?_); rintro e w9 ⟨rfl, hb⟩
            have HB9 := Lib.hid (nbelow_on HB8.out hb)
            have HE9 := Lib.hid (HE8.out.below hb)
            have U1_9 := Lib.hid (U1_8.out.below hb)
            have U2_9 := Lib.hid (U2_8.out.below hb)
            have U3_9 := Lib.hid (U3_8.out.below hb)
            have K2_9 := Lib.hid (K2_8.out.below hb)
            clear hb U1_8 U2_8 U3_8 K2_8 k0 k1 k2
            rw [HW.out]
            have k0 := K2_9.out.c 0 (v := .slice A1 n1 c1) rfl
            by_cases h24 : n1 ≤ 24
            · skip
              have q24 : (n1 : Int) ≤ 24 := by omega
              rw [if_pos h24]
              clear h24
              go_wp2_with fail
              (refine (awake_any w9 HE9.out).mono ?_); rintro e w10 ⟨rfl, hb⟩
              have HB10 := Lib.hid (nbelow_on HB9.out hb)
              have HE10 := Lib.hid (HE9.out.below hb)
              have U1_10 := Lib.hid (U1_9.out.below hb)
              have U2_10 := Lib.hid (U2_9.out.below hb)
              have U3_10 := Lib.hid (U3_9.out.below hb)
              have K2_10 := Lib.hid (K2_9.out.below hb)
              clear hb U1_9 U2_9 U3_9 K2_9
              go_wp2_with fail
              go_ret
              exact ⟨rfl, HB10.out⟩
            · skip
              have q24 : ¬ (n1 : Int) ≤ 24 := by omega
              have q25 : decide ((n1 : Int) ≤ 24) = false := decide_eq_false q24
              rw [if_neg h24]
              clear h24
              go_wp2_with fail
              (refine (awake_any w9 HE9.out).mono ?_); rintro e w10 ⟨rfl, hb⟩
              have HB10 := Lib.hid (nbelow_on HB9.out hb)
              have HE10 := Lib.hid (HE9.out.below hb)
              have U1_10 := Lib.hid (U1_9.out.below hb)
              have U2_10 := Lib.hid (U2_9.out.below hb)
              have U3_10 := Lib.hid (U3_9.out.below hb)
              have K2_10 := Lib.hid (K2_9.out.below hb)
              clear hb U1_9 U2_9 U3_9 K2_9
              go_wp2_with fail
              go_ret
              exact ⟨rfl, HB10.out⟩
        | false =>
          have TB : (x.toList == [118]) = false := txt_eq_lit hv1
          cases hco : coreB x.data.toList with
          | false =>
            have HCO := Lib.hid hco
            clear hco hv1
            go_enter Tryd.func9, Tryd.ntmps9
            go_wp2_with fail
            (refine (CL).mono ?_); rintro e w3 ⟨rfl, hb⟩
            have HB3 := Lib.hid (nbelow_on HB2.out hb)
            have HE3 := Lib.hid (HE2.out.below hb)
            have HV_3 := Lib.hid (HV_2.out.below hb)
            have HY_3 := Lib.hid (HY_2.out.below hb)
            have HH_3 := Lib.hid (HH_2.out.below hb)
            have K0_3 := Lib.hid (K0_2.out.below hb)
            have K1_3 := Lib.hid (K1_2.out.below hb)
            clear hb HV_2 HY_2 HH_2 K0_2 K1_2 CL
            have a0 := K1_3.out.c 0 (v := .string x) rfl
            have a1 := K1_3.out.c 1 (v := .string y) rfl
            have CS := short_any (some ⟨w3.heap.size, 0, none⟩) 1 1 _ _ (one_vs w3 x y rfl)
            rw [hs] at CS
            have HB4 : Hid (Below w.heap.size w (w3.alloc (.cells #[.string x, .string y] 62))) := nbelow_on HB3.out (below_alloc _)
            have HE4 : Hid (Env (w3.alloc (.cells #[.string x, .string y] 62))) := HE3.out.below (below_alloc _)
            have HV_4 := Lib.hid (HV_3.out.below (below_alloc (w := w3) (.cells #[.string x, .string y] 62)))
            have HY_4 := Lib.hid (HY_3.out.below (below_alloc (w := w3) (.cells #[.string x, .string y] 62)))
            have HH_4 := Lib.hid (HH_3.out.below (below_alloc (w := w3) (.cells #[.string x, .string y] 62)))
            have K0_4 := Lib.hid (K0_3.out.below (below_alloc (w := w3) (.cells #[.string x, .string y] 62)))
            have K1_4 := Lib.hid (K1_3.out.below (below_alloc (w := w3) (.cells #[.string x, .string y] 62)))
            clear HV_3 HY_3 HH_3 K0_3 K1_3
            clear hs
            have k0 := K0_4.out.c 0 (v := .slice A n c) rfl
            have k1 := K0_4.out.c 1 (v := .slice B m d) rfl
            have k2 := K0_4.out.c 2 (v := .slice C p q) rfl
            go_wp2_with fail
            (refine (CS).mono ?_); rintro e wx ⟨rfl, rfl⟩
            clear CS a0 a1
            go_wp2_with fail
            (refine (env_any A n c B m d C p q v (w3.alloc (.cells #[.string x, .string y] 62)) HE4.out HLI.out.fits HV_4.out HY_4.out HH_4.out).mono ?_); rintro e w5 ⟨rfl, hb⟩
            have HB5 := Lib.hid (nbelow_on HB4.out hb)
            have HE5 := Lib.hid (HE4.out.below hb)
            have HV_5 := Lib.hid (HV_4.out.below hb)
            have HY_5 := Lib.hid (HY_4.out.below hb)
            have HH_5 := Lib.hid (HH_4.out.below hb)
            have K0_5 := Lib.hid (K0_4.out.below hb)
            have K1_5 := Lib.hid (K1_4.out.below hb)
            clear hb HV_4 HY_4 HH_4 K0_4 K1_4 k0 k1 k2
            rw [HEV.out]
            have a0 := K1_5.out.c 0 (v := .string x) rfl
            have a1 := K1_5.out.c 1 (v := .string y) rfl
            go_wp2_with fail
            (refine (rcore_any x w5).mono ?_); rintro e w6 ⟨rfl, hb⟩
            have HB6 := Lib.hid (nbelow_on HB5.out hb)
            have HE6 := Lib.hid (HE5.out.below hb)
            have HV_6 := Lib.hid (HV_5.out.below hb)
            have HY_6 := Lib.hid (HY_5.out.below hb)
            have HH_6 := Lib.hid (HH_5.out.below hb)
            have K0_6 := Lib.hid (K0_5.out.below hb)
            have K1_6 := Lib.hid (K1_5.out.below hb)
            clear hb HV_5 HY_5 HH_5 K0_5 K1_5 a0 a1
            rw [HCO.out, show errI false = 3 from rfl]
            go_wp2_with fail
            (refine (awake_any w6 HE6.out).mono ?_); rintro e w7 ⟨rfl, hb⟩
            have HB7 := Lib.hid (nbelow_on HB6.out hb)
            have HE7 := Lib.hid (HE6.out.below hb)
            have HV_7 := Lib.hid (HV_6.out.below hb)
            have HY_7 := Lib.hid (HY_6.out.below hb)
            have HH_7 := Lib.hid (HH_6.out.below hb)
            have K0_7 := Lib.hid (K0_6.out.below hb)
            have K1_7 := Lib.hid (K1_6.out.below hb)
            clear hb HV_6 HY_6 HH_6 K0_6 K1_6
            go_wp2_with fail
            go_ret
            exact ⟨rfl, HB7.out⟩
          | true =>
            have HNV : Hid (nameV x.data.toList = true) := by show nameV _ = _; unfold nameV; rw [hco, Bool.or_true]
            have HCO := Lib.hid hco
            clear hco hv1
            cases hso : sortB y.data.toList with
            | false =>
              have HSO := Lib.hid hso
              clear hso
              go_enter Tryd.func9, Tryd.ntmps9
              go_wp2_with fail
              (refine (CL).mono ?_); rintro e w3 ⟨rfl, hb⟩
              have HB3 := Lib.hid (nbelow_on HB2.out hb)
              have HE3 := Lib.hid (HE2.out.below hb)
              have HV_3 := Lib.hid (HV_2.out.below hb)
              have HY_3 := Lib.hid (HY_2.out.below hb)
              have HH_3 := Lib.hid (HH_2.out.below hb)
              have K0_3 := Lib.hid (K0_2.out.below hb)
              have K1_3 := Lib.hid (K1_2.out.below hb)
              clear hb HV_2 HY_2 HH_2 K0_2 K1_2 CL
              have a0 := K1_3.out.c 0 (v := .string x) rfl
              have a1 := K1_3.out.c 1 (v := .string y) rfl
              have CS := short_any (some ⟨w3.heap.size, 0, none⟩) 1 1 _ _ (one_vs w3 x y rfl)
              rw [hs] at CS
              have HB4 : Hid (Below w.heap.size w (w3.alloc (.cells #[.string x, .string y] 62))) := nbelow_on HB3.out (below_alloc _)
              have HE4 : Hid (Env (w3.alloc (.cells #[.string x, .string y] 62))) := HE3.out.below (below_alloc _)
              have HV_4 := Lib.hid (HV_3.out.below (below_alloc (w := w3) (.cells #[.string x, .string y] 62)))
              have HY_4 := Lib.hid (HY_3.out.below (below_alloc (w := w3) (.cells #[.string x, .string y] 62)))
              have HH_4 := Lib.hid (HH_3.out.below (below_alloc (w := w3) (.cells #[.string x, .string y] 62)))
              have K0_4 := Lib.hid (K0_3.out.below (below_alloc (w := w3) (.cells #[.string x, .string y] 62)))
              have K1_4 := Lib.hid (K1_3.out.below (below_alloc (w := w3) (.cells #[.string x, .string y] 62)))
              clear HV_3 HY_3 HH_3 K0_3 K1_3
              clear hs
              have k0 := K0_4.out.c 0 (v := .slice A n c) rfl
              have k1 := K0_4.out.c 1 (v := .slice B m d) rfl
              have k2 := K0_4.out.c 2 (v := .slice C p q) rfl
              go_wp2_with fail
              (refine (CS).mono ?_); rintro e wx ⟨rfl, rfl⟩
              clear CS a0 a1
              go_wp2_with fail
              (refine (env_any A n c B m d C p q v (w3.alloc (.cells #[.string x, .string y] 62)) HE4.out HLI.out.fits HV_4.out HY_4.out HH_4.out).mono ?_); rintro e w5 ⟨rfl, hb⟩
              have HB5 := Lib.hid (nbelow_on HB4.out hb)
              have HE5 := Lib.hid (HE4.out.below hb)
              have HV_5 := Lib.hid (HV_4.out.below hb)
              have HY_5 := Lib.hid (HY_4.out.below hb)
              have HH_5 := Lib.hid (HH_4.out.below hb)
              have K0_5 := Lib.hid (K0_4.out.below hb)
              have K1_5 := Lib.hid (K1_4.out.below hb)
              clear hb HV_4 HY_4 HH_4 K0_4 K1_4 k0 k1 k2
              rw [HEV.out]
              have a0 := K1_5.out.c 0 (v := .string x) rfl
              have a1 := K1_5.out.c 1 (v := .string y) rfl
              go_wp2_with fail
              (refine (rcore_any x w5).mono ?_); rintro e w6 ⟨rfl, hb⟩
              have HB6 := Lib.hid (nbelow_on HB5.out hb)
              have HE6 := Lib.hid (HE5.out.below hb)
              have HV_6 := Lib.hid (HV_5.out.below hb)
              have HY_6 := Lib.hid (HY_5.out.below hb)
              have HH_6 := Lib.hid (HH_5.out.below hb)
              have K0_6 := Lib.hid (K0_5.out.below hb)
              have K1_6 := Lib.hid (K1_5.out.below hb)
              clear hb HV_5 HY_5 HH_5 K0_5 K1_5 a0 a1
              rw [HCO.out, show errI true = 0 from rfl]
              have a0 := K1_6.out.c 0 (v := .string x) rfl
              have a1 := K1_6.out.c 1 (v := .string y) rfl
              go_wp2_with fail
              (refine (check_any y w6 HE6.out).mono ?_); rintro e w7 ⟨rfl, hb⟩
              have HB7 := Lib.hid (nbelow_on HB6.out hb)
              have HE7 := Lib.hid (HE6.out.below hb)
              have HV_7 := Lib.hid (HV_6.out.below hb)
              have HY_7 := Lib.hid (HY_6.out.below hb)
              have HH_7 := Lib.hid (HH_6.out.below hb)
              have K0_7 := Lib.hid (K0_6.out.below hb)
              have K1_7 := Lib.hid (K1_6.out.below hb)
              clear hb HV_6 HY_6 HH_6 K0_6 K1_6 a0 a1
              rw [sortI_no HSO.out]
              go_wp2_with fail
              (refine (awake_any w7 HE7.out).mono ?_); rintro e w8 ⟨rfl, hb⟩
              have HB8 := Lib.hid (nbelow_on HB7.out hb)
              have HE8 := Lib.hid (HE7.out.below hb)
              have HV_8 := Lib.hid (HV_7.out.below hb)
              have HY_8 := Lib.hid (HY_7.out.below hb)
              have HH_8 := Lib.hid (HH_7.out.below hb)
              have K0_8 := Lib.hid (K0_7.out.below hb)
              have K1_8 := Lib.hid (K1_7.out.below hb)
              clear hb HV_7 HY_7 HH_7 K0_7 K1_7
              go_wp2_with fail
              go_ret
              exact ⟨rfl, HB8.out⟩
            | true =>
              have HW : Hid (envI (⟨withV v.vars ⟨x.data.toList, y.data.toList⟩, v.syms, v.holes⟩ : En) = if (⟨withV v.vars ⟨x.data.toList, y.data.toList⟩, v.syms, v.holes⟩ : En).vars.length ≤ 24 then 0 else 7) := with_env HEV.out HNV.out hso
              have HSO := Lib.hid hso
              clear hso
              go_enter Tryd.func9, Tryd.ntmps9
              go_wp2_with fail
              (refine (CL).mono ?_); rintro e w3 ⟨rfl, hb⟩
              have HB3 := Lib.hid (nbelow_on HB2.out hb)
              have HE3 := Lib.hid (HE2.out.below hb)
              have HV_3 := Lib.hid (HV_2.out.below hb)
              have HY_3 := Lib.hid (HY_2.out.below hb)
              have HH_3 := Lib.hid (HH_2.out.below hb)
              have K0_3 := Lib.hid (K0_2.out.below hb)
              have K1_3 := Lib.hid (K1_2.out.below hb)
              clear hb HV_2 HY_2 HH_2 K0_2 K1_2 CL
              have a0 := K1_3.out.c 0 (v := .string x) rfl
              have a1 := K1_3.out.c 1 (v := .string y) rfl
              have CS := short_any (some ⟨w3.heap.size, 0, none⟩) 1 1 _ _ (one_vs w3 x y rfl)
              rw [hs] at CS
              have HB4 : Hid (Below w.heap.size w (w3.alloc (.cells #[.string x, .string y] 62))) := nbelow_on HB3.out (below_alloc _)
              have HE4 : Hid (Env (w3.alloc (.cells #[.string x, .string y] 62))) := HE3.out.below (below_alloc _)
              have HV_4 := Lib.hid (HV_3.out.below (below_alloc (w := w3) (.cells #[.string x, .string y] 62)))
              have HY_4 := Lib.hid (HY_3.out.below (below_alloc (w := w3) (.cells #[.string x, .string y] 62)))
              have HH_4 := Lib.hid (HH_3.out.below (below_alloc (w := w3) (.cells #[.string x, .string y] 62)))
              have K0_4 := Lib.hid (K0_3.out.below (below_alloc (w := w3) (.cells #[.string x, .string y] 62)))
              have K1_4 := Lib.hid (K1_3.out.below (below_alloc (w := w3) (.cells #[.string x, .string y] 62)))
              clear HV_3 HY_3 HH_3 K0_3 K1_3
              clear hs
              have k0 := K0_4.out.c 0 (v := .slice A n c) rfl
              have k1 := K0_4.out.c 1 (v := .slice B m d) rfl
              have k2 := K0_4.out.c 2 (v := .slice C p q) rfl
              go_wp2_with fail
              (refine (CS).mono ?_); rintro e wx ⟨rfl, rfl⟩
              clear CS a0 a1
              go_wp2_with fail
              (refine (env_any A n c B m d C p q v (w3.alloc (.cells #[.string x, .string y] 62)) HE4.out HLI.out.fits HV_4.out HY_4.out HH_4.out).mono ?_); rintro e w5 ⟨rfl, hb⟩
              have HB5 := Lib.hid (nbelow_on HB4.out hb)
              have HE5 := Lib.hid (HE4.out.below hb)
              have HV_5 := Lib.hid (HV_4.out.below hb)
              have HY_5 := Lib.hid (HY_4.out.below hb)
              have HH_5 := Lib.hid (HH_4.out.below hb)
              have K0_5 := Lib.hid (K0_4.out.below hb)
              have K1_5 := Lib.hid (K1_4.out.below hb)
              clear hb HV_4 HY_4 HH_4 K0_4 K1_4 k0 k1 k2
              rw [HEV.out]
              have a0 := K1_5.out.c 0 (v := .string x) rfl
              have a1 := K1_5.out.c 1 (v := .string y) rfl
              go_wp2_with fail
              (refine (rcore_any x w5).mono ?_); rintro e w6 ⟨rfl, hb⟩
              have HB6 := Lib.hid (nbelow_on HB5.out hb)
              have HE6 := Lib.hid (HE5.out.below hb)
              have HV_6 := Lib.hid (HV_5.out.below hb)
              have HY_6 := Lib.hid (HY_5.out.below hb)
              have HH_6 := Lib.hid (HH_5.out.below hb)
              have K0_6 := Lib.hid (K0_5.out.below hb)
              have K1_6 := Lib.hid (K1_5.out.below hb)
              clear hb HV_5 HY_5 HH_5 K0_5 K1_5 a0 a1
              rw [HCO.out, show errI true = 0 from rfl]
              have a0 := K1_6.out.c 0 (v := .string x) rfl
              have a1 := K1_6.out.c 1 (v := .string y) rfl
              go_wp2_with fail
              (refine (check_any y w6 HE6.out).mono ?_); rintro e w7 ⟨rfl, hb⟩
              have HB7 := Lib.hid (nbelow_on HB6.out hb)
              have HE7 := Lib.hid (HE6.out.below hb)
              have HV_7 := Lib.hid (HV_6.out.below hb)
              have HY_7 := Lib.hid (HY_6.out.below hb)
              have HH_7 := Lib.hid (HH_6.out.below hb)
              have K0_7 := Lib.hid (K0_6.out.below hb)
              have K1_7 := Lib.hid (K1_6.out.below hb)
              clear hb HV_6 HY_6 HH_6 K0_6 K1_6 a0 a1
              rw [sortI_yes HSO.out]
              have k0 := K0_7.out.c 0 (v := .slice A n c) rfl
              have k1 := K0_7.out.c 1 (v := .slice B m d) rfl
              have k2 := K0_7.out.c 2 (v := .slice C p q) rfl
              have a0 := K1_7.out.c 0 (v := .string x) rfl
              have a1 := K1_7.out.c 1 (v := .string y) rfl
              go_wp2_with fail
              (refine (with_at w7 _ (Below.refl _ _) A n c B m d C p q v x y HV_7.out HY_7.out HH_7.out HLI.out HX3.out).mono ?_); rintro e w8 ⟨A1, n1, c1, B1, m1, d1, C1, p1, q1, rfl, u1, u2, u3, hb⟩
              have HB8 := Lib.hid (nbelow_on HB7.out hb)
              have HE8 := Lib.hid (HE7.out.below hb)
              have HV_8 := Lib.hid (HV_7.out.below hb)
              have HY_8 := Lib.hid (HY_7.out.below hb)
              have HH_8 := Lib.hid (HH_7.out.below hb)
              have K0_8 := Lib.hid (K0_7.out.below hb)
              have K1_8 := Lib.hid (K1_7.out.below hb)
              clear hb HV_7 HY_7 HH_7 K0_7 K1_7 k0 k1 k2 a0 a1
              have U1_8 : Hid (Vs w8 A1 n1 c1 (⟨withV v.vars ⟨x.data.toList, y.data.toList⟩, v.syms, v.holes⟩ : En).vars) := u1.out
              have U2_8 : Hid (Ys w8 B1 m1 d1 (⟨withV v.vars ⟨x.data.toList, y.data.toList⟩, v.syms, v.holes⟩ : En).syms) := u2.out
              have U3_8 : Hid (Hs w8 C1 p1 q1 (⟨withV v.vars ⟨x.data.toList, y.data.toList⟩, v.syms, v.holes⟩ : En).holes) := u3.out
              clear u1 u2 u3
              have HB9 : Hid (Below w.heap.size w (w8.alloc (.cells #[.slice A1 n1 c1, .slice B1 m1 d1, .slice C1 p1 q1] 36))) := nbelow_on HB8.out (below_alloc _)
              have HE9 : Hid (Env (w8.alloc (.cells #[.slice A1 n1 c1, .slice B1 m1 d1, .slice C1 p1 q1] 36))) := HE8.out.below (below_alloc _)
              have U1_9 := Lib.hid (U1_8.out.below (below_alloc (w := w8) (.cells #[.slice A1 n1 c1, .slice B1 m1 d1, .slice C1 p1 q1] 36)))
              have U2_9 := Lib.hid (U2_8.out.below (below_alloc (w := w8) (.cells #[.slice A1 n1 c1, .slice B1 m1 d1, .slice C1 p1 q1] 36)))
              have U3_9 := Lib.hid (U3_8.out.below (below_alloc (w := w8) (.cells #[.slice A1 n1 c1, .slice B1 m1 d1, .slice C1 p1 q1] 36)))
              clear U1_8 U2_8 U3_8
              have K2_9 : Hid (Bk 36 (w8.alloc (.cells #[.slice A1 n1 c1, .slice B1 m1 d1, .slice C1 p1 q1] 36)) (w8.heap.size) #[.slice A1 n1 c1, .slice B1 m1 d1, .slice C1 p1 q1]) := Bk.at _ (by simp)
              have k0 := K2_9.out.c 0 (v := .slice A1 n1 c1) rfl
              have k1 := K2_9.out.c 1 (v := .slice B1 m1 d1) rfl
              have k2 := K2_9.out.c 2 (v := .slice C1 p1 q1) rfl
              have HLN : Hid ((⟨withV v.vars ⟨x.data.toList, y.data.toList⟩, v.syms, v.holes⟩ : En).vars.length = n1) := U1_9.out.len
              rw [HLN.out] at HW
              go_wp2_with fail
              (refine (env_any A1 n1 c1 B1 m1 d1 C1 p1 q1 (⟨withV v.vars ⟨x.data.toList, y.data.toList⟩, v.syms, v.holes⟩ : En) (w8.alloc (.cells #[.slice A1 n1 c1, .slice B1 m1 d1, .slice C1 p1 q1] 36)) HE9.out (fits_with HLI.out (by show x.data.toList.length ≤ 300; rw [← size_list]; exact HX3.out)) U1_9.out U2_9.out U3_9.out).mono ?_); rintro e w10 ⟨rfl, hb⟩
              have HB10 := Lib.hid (nbelow_on HB9.out hb)
              have HE10 := Lib.hid (HE9.out.below hb)
              have U1_10 := Lib.hid (U1_9.out.below hb)
              have U2_10 := Lib.hid (U2_9.out.below hb)
              have U3_10 := Lib.hid (U3_9.out.below hb)
              have K2_10 := Lib.hid (K2_9.out.below hb)
              clear hb U1_9 U2_9 U3_9 K2_9 k0 k1 k2
              rw [HW.out]
              have k0 := K2_10.out.c 0 (v := .slice A1 n1 c1) rfl
              by_cases h24 : n1 ≤ 24
              · skip
                have q24 : (n1 : Int) ≤ 24 := by omega
                rw [if_pos h24]
                clear h24
                go_wp2_with fail
                (refine (awake_any w10 HE10.out).mono ?_); rintro e w11 ⟨rfl, hb⟩
                have HB11 := Lib.hid (nbelow_on HB10.out hb)
                have HE11 := Lib.hid (HE10.out.below hb)
                have U1_11 := Lib.hid (U1_10.out.below hb)
                have U2_11 := Lib.hid (U2_10.out.below hb)
                have U3_11 := Lib.hid (U3_10.out.below hb)
                have K2_11 := Lib.hid (K2_10.out.below hb)
                clear hb U1_10 U2_10 U3_10 K2_10
                go_wp2_with fail
                go_ret
                exact ⟨rfl, HB11.out⟩
              · skip
                have q24 : ¬ (n1 : Int) ≤ 24 := by omega
                have q25 : decide ((n1 : Int) ≤ 24) = false := decide_eq_false q24
                rw [if_neg h24]
                clear h24
                go_wp2_with fail
                (refine (awake_any w10 HE10.out).mono ?_); rintro e w11 ⟨rfl, hb⟩
                have HB11 := Lib.hid (nbelow_on HB10.out hb)
                have HE11 := Lib.hid (HE10.out.below hb)
                have U1_11 := Lib.hid (U1_10.out.below hb)
                have U2_11 := Lib.hid (U2_10.out.below hb)
                have U3_11 := Lib.hid (U3_10.out.below hb)
                have K2_11 := Lib.hid (K2_10.out.below hb)
                clear hb U1_10 U2_10 U3_10 K2_10
                go_wp2_with fail
                go_ret
                exact ⟨rfl, HB11.out⟩
      · skip
        obtain ⟨r, hr⟩ : ∃ r, envI v = r := ⟨_, rfl⟩
        have HR := Lib.hid hr
        rw [hr] at he
        have z0 := zero_eq he
        have z1 := zero_ne he
        clear he hr
        go_enter Tryd.func9, Tryd.ntmps9
        go_wp2_with fail
        (refine (CL).mono ?_); rintro e w3 ⟨rfl, hb⟩
        have HB3 := Lib.hid (nbelow_on HB2.out hb)
        have HE3 := Lib.hid (HE2.out.below hb)
        have HV_3 := Lib.hid (HV_2.out.below hb)
        have HY_3 := Lib.hid (HY_2.out.below hb)
        have HH_3 := Lib.hid (HH_2.out.below hb)
        have K0_3 := Lib.hid (K0_2.out.below hb)
        have K1_3 := Lib.hid (K1_2.out.below hb)
        clear hb HV_2 HY_2 HH_2 K0_2 K1_2 CL
        have a0 := K1_3.out.c 0 (v := .string x) rfl
        have a1 := K1_3.out.c 1 (v := .string y) rfl
        have CS := short_any (some ⟨w3.heap.size, 0, none⟩) 1 1 _ _ (one_vs w3 x y rfl)
        rw [hs] at CS
        have HB4 : Hid (Below w.heap.size w (w3.alloc (.cells #[.string x, .string y] 62))) := nbelow_on HB3.out (below_alloc _)
        have HE4 : Hid (Env (w3.alloc (.cells #[.string x, .string y] 62))) := HE3.out.below (below_alloc _)
        have HV_4 := Lib.hid (HV_3.out.below (below_alloc (w := w3) (.cells #[.string x, .string y] 62)))
        have HY_4 := Lib.hid (HY_3.out.below (below_alloc (w := w3) (.cells #[.string x, .string y] 62)))
        have HH_4 := Lib.hid (HH_3.out.below (below_alloc (w := w3) (.cells #[.string x, .string y] 62)))
        have K0_4 := Lib.hid (K0_3.out.below (below_alloc (w := w3) (.cells #[.string x, .string y] 62)))
        have K1_4 := Lib.hid (K1_3.out.below (below_alloc (w := w3) (.cells #[.string x, .string y] 62)))
        clear HV_3 HY_3 HH_3 K0_3 K1_3
        clear hs
        have k0 := K0_4.out.c 0 (v := .slice A n c) rfl
        have k1 := K0_4.out.c 1 (v := .slice B m d) rfl
        have k2 := K0_4.out.c 2 (v := .slice C p q) rfl
        go_wp2_with fail
        (refine (CS).mono ?_); rintro e wx ⟨rfl, rfl⟩
        clear CS a0 a1
        go_wp2_with fail
        (refine (env_any A n c B m d C p q v (w3.alloc (.cells #[.string x, .string y] 62)) HE4.out HLI.out.fits HV_4.out HY_4.out HH_4.out).mono ?_); rintro e w5 ⟨rfl, hb⟩
        have HB5 := Lib.hid (nbelow_on HB4.out hb)
        have HE5 := Lib.hid (HE4.out.below hb)
        have HV_5 := Lib.hid (HV_4.out.below hb)
        have HY_5 := Lib.hid (HY_4.out.below hb)
        have HH_5 := Lib.hid (HH_4.out.below hb)
        have K0_5 := Lib.hid (K0_4.out.below hb)
        have K1_5 := Lib.hid (K1_4.out.below hb)
        clear hb HV_4 HY_4 HH_4 K0_4 K1_4 k0 k1 k2
        rw [HR.out]
        go_wp2_with fail
        (refine (awake_any w5 HE5.out).mono ?_); rintro e w6 ⟨rfl, hb⟩
        have HB6 := Lib.hid (nbelow_on HB5.out hb)
        have HE6 := Lib.hid (HE5.out.below hb)
        have HV_6 := Lib.hid (HV_5.out.below hb)
        have HY_6 := Lib.hid (HY_5.out.below hb)
        have HH_6 := Lib.hid (HH_5.out.below hb)
        have K0_6 := Lib.hid (K0_5.out.below hb)
        have K1_6 := Lib.hid (K1_5.out.below hb)
        clear hb HV_5 HY_5 HH_5 K0_5 K1_5
        go_wp2_with fail
        go_ret
        exact ⟨rfl, HB6.out⟩

set_option maxRecDepth 100000 in
theorem contract (H : Type) (enc : TypeId × Value → H) (W : World) (base : Nat) (args : Array Value) (ds gs : List (DataW H)) (before : List MemPlace)
    (hval : ∀ (j : Nat) t v, Tryd.f9.params[j]? = some t → args[j]? = some v → Value.okWide Tryd.prog W .any base t v)
    (hW : DataW.Whole enc Tryd.prog Tryd.f9.params.toList Rows.sortGrowsSpec.vars false W args.toList ds gs before) (hL : laidMetH Tryd.prog Rows.sortGrowsRow.laid W) (hSh : W.ShapedOpen Tryd.prog) :
    Calls Tryd.prog 9 args W fun e W' => ∃ v, e = .returned v ∧ Rows.sortGrowsSpec.post enc Tryd.prog Tryd.f9 false true false false W args v W' := by
  have hW' := hW
  obtain ⟨p, q, hA0, hV, rfl, hfz, hnd⟩ := hW
  have hA : DataW.TrodAll enc Tryd.prog W 0 (fun _ => true) true Tryd.f9.params.toList args.toList ds p := hA0
  have hlt : ∀ x ∈ p, x.block < W.heap.size := fun x hx => hW'.lt x (by simp [hx])
  have hAll := hA
  rw [Tryd.params9] at hA hval
  obtain ⟨v0, vs0, d0, ds0, p0, q0, hargs, rfl, rfl, h0, r0⟩ := trodAll_cons hA
  obtain ⟨v1, vs1, d1, ds1, p1, q1, rfl, rfl, rfl, h1, r1⟩ := trodAll_cons r0
  obtain ⟨rfl, rfl, rfl⟩ := trodAll_nil r1
  obtain rfl : args = #[v0, v1] := by cases args; simp_all
  obtain ⟨rfl, rfl⟩ := trodVars_none hV
  obtain ⟨A1, n1, c1, B1, m1, d1', C1, p1', q1', e1, rfl, ga1, gb1, gc1⟩ := open_env (hval 0 36 v0 rfl rfl) h0
  obtain ⟨x2, y2, rfl⟩ := open_varv (hval 1 62 v1 rfl rfl) h1
  refine (walk A1 n1 c1 B1 m1 d1' C1 p1' q1' e1 x2 y2 W (env_of_laid hL hSh) ga1 gb1 gc1).mono fun e W' ⟨he, hg⟩ => ?_
  subst he
  refine ⟨_, rfl, _, _, _, [], _, [], hW', trodAll_mk1 (shut_bool Tryd.underlying4 _), trodAll_below hg (fun t ht => ?_) hAll hlt, rfl, hg.frame _, fun h => by cases h⟩
  rw [Tryd.params9] at ht
  simp only [List.mem_cons, List.not_mem_nil, or_false] at ht
  rcases ht with rfl | rfl
  · exact read_env
  · exact read_var

set_option maxRecDepth 100000 in
theorem reads (os : Os) {H : Type} (enc : TypeId × Value → H) : ∃ places, DataW.whole enc Tryd.prog ((World.laidAll Tryd.prog os laidNames).forCall (fun _ _ => 0) ⟨#[], #[Value.agg #[.slice none 0 0, .slice none 0 0, .slice none 0 0], Value.agg #[.string ByteArray.empty, .string ByteArray.empty]], []⟩).memory Tryd.f9.params.toList Rows.sortGrowsSpec.vars false #[Value.agg #[.slice none 0 0, .slice none 0 0, .slice none 0 0], Value.agg #[.string ByteArray.empty, .string ByteArray.empty]].toList 8 = some ([.agg [.nil, .nil, .nil], .agg [.lit (.string []), .lit (.string [])]], [], places) :=
  ⟨[], by kernel_rfl⟩

set_option maxRecDepth 100000 in
theorem lifted (os : Os) (started : os.Started) (H : Type) (enc : TypeId × Value → H) (F : Stop.Interp) :
    ReturnsInHanded {} Tryd.checked os 9 .any ((OpenSpec.ofChange Rows.sortGrowsSpec).preRow enc Tryd.prog Tryd.f9 Rows.sortGrowsRow.domain false Rows.sortGrowsRow.laid) (((OpenSpec.ofChange Rows.sortGrowsSpec).at F).post enc Tryd.prog Tryd.f9 false true false false) := by
  obtain ⟨places, hx⟩ := reads os enc
  refine returnsInHanded_of_row (C := Tryd.checked) (s := OpenSpec.ofChange Rows.sortGrowsSpec) own started (by kernel_rfl) Tryd.func9
    (witness_row_at (enc := enc) (C := Tryd.checked) false (World.laidAll Tryd.prog os laidNames) #[Value.agg #[.slice none 0 0, .slice none 0 0, .slice none 0 0], Value.agg #[.string ByteArray.empty, .string ByteArray.empty]] rfl (by kernel_rfl) (by kernel_rfl) (by kernel_rfl)
      (OpenSpec.preRow_of_cond 8 hx (by kernel_rfl) (fun k hk => by cases hk) (by kernel_rfl) (laid_met os _))) ?_
  intro W base args ds gs before hval hW _ _ _ hL hSh _
  exact contract H enc W base args ds gs before hval hW hL hSh

theorem said : Rows.SortGrowsSaid :=
  OpenClaim.holds_of_cond 9 Tryd.f9 rfl rfl rfl rfl rfl rfl rfl ⟨rfl, rfl, rfl, rfl, rfl⟩ rfl rfl rfl rfl rfl (by kernel_rfl) Tryd.func9 (by kernel_rfl)
    (of_decide_eq_true (by kernel_rfl)) (by unfold Func.isWrapper; first | (rw [if_pos (by decide +kernel)]; kernel_rfl) | (rw [if_neg (by decide +kernel)]; exact ⟨rfl, rfl⟩))
    (fun os started H enc _ F => by rw [OpenClaim.pre_eq_preRow]; exact lifted os started H enc F)

theorem plain (f : FuncId) (fn : Func) (hf : Tryd.pinned.checked.prog.funcNamed "liquidcheck/liquidchecklaw06.SortGrows" = some f) (hfn : Tryd.pinned.checked.prog.funcs[f]? = some fn) :
    false = Tryd.pinned.checked.prog.looks [] ∧ ∀ (j : Nat) t, fn.params[j]? = some t → Tryd.pinned.checked.prog.wantsStandIn t = false := by
  obtain rfl : f = 9 := Option.some.inj ((show Tryd.prog.funcNamed "liquidcheck/liquidchecklaw06.SortGrows" = some 9 by kernel_rfl).symm.trans hf) |>.symm
  obtain rfl : fn = Tryd.f9 := (Option.some.inj (Tryd.func9.symm.trans hfn)).symm
  refine ⟨by kernel_rfl, fun j t ht => ?_⟩
  rw [Tryd.params9] at ht
  have hm := Array.mem_of_getElem? ht
  simp only [List.mem_toArray, List.mem_cons, List.not_mem_nil, or_false] at hm
  rcases hm with rfl | rfl
  · exact (show Tryd.prog.wantsStandIn 36 = false by kernel_rfl)
  · exact (show Tryd.prog.wantsStandIn 62 = false by kernel_rfl)

theorem card : Rows.SortGrowsCardSaid :=
  Claim7.holds_tied_plain_at .later [] _ _ _ _ said (fun _ h => by cases h) (by kernel_rfl) (fun _ h => by cases h) sortGrows_row_tie rfl ⟨rfl, rfl⟩ (by kernel_rfl) rfl plain (by kernel_rfl)
end Go.Proofs.YtegognbnphpigaaDoor.sortGrows
