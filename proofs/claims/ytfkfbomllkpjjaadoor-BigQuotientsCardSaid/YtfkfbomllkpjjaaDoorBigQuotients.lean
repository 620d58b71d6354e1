/-
  THE STATEMENT BigQuotients IS PROVED: for every two numbers (the listed library tables holding what the program's text lays, tied by the card), the law returns true and its arguments read as before.
-/
import Derived.Test.YtfkfbomllkpjjaaDoorCards
import Derived.Test.YtfkfbomllkpjjaaDoorTie
import Derived.Test.YtfkfbomllkpjjaaDoorBigLaid
import Derived.Test.YtfkfbomllkpjjaaDoorBigZ
import Derived.Deep.DeepCutAuto
namespace Go.Proofs.YtfkfbomllkpjjaaDoor.bigQuotients
open Go.ChangeShapes Go.WideShapes Go.ChangeAt Go.RowKit
open Go.ChangeMaps (open_string shut_string)

set_option maxRecDepth 100000 in
set_option maxHeartbeats 8000000 in
theorem walk (s1 s2 : Bool) (A1 A2 : Option Addr) (n1 c1 n2 c2 : Nat) (x1 x2 : List Int) (w : World) (h1 : Sl w A1 n1 c1 x1) (h2 : Sl w A2 n2 c2 x2) (htab : Tab w) :
    Calls Tryd.prog 10 #[.agg #[.bool s1, .slice A1 n1 c1], .agg #[.bool s2, .slice A2 n2 c2]] w fun e w' => e = .returned (.bool true) ∧ Below w.heap.size w w' := by
  have TB := Lib.hid htab
  have BW := Lib.hid (Below.refl w.heap.size w)
  have S1 := Lib.hid h1
  have S2 := Lib.hid h2
  have l1 := Lib.hid h1.len
  have l2 := Lib.hid h2.len
  clear htab h1 h2
  go_enter Tryd.func10, Tryd.ntmps10
  go_upto_region 1 with fail
  have S1 := Lib.hid (S1.out.alloc (.cells #[.bool s1, .slice A1 n1 c1] 24))
  have S2 := Lib.hid (S2.out.alloc (.cells #[.bool s1, .slice A1 n1 c1] 24))
  have X1 := Lib.hid (Bx.new w (.bool s1) (.slice A1 n1 c1))
  have TB : Hid (Tab (w.alloc (.cells #[.bool s1, .slice A1 n1 c1] 24))) := tab_on TB.out ((Below.refl _ _).alloc (Nat.le_refl _) _)
  have BW := Lib.hid (BW.out.alloc BW.out.size (.cells #[.bool s1, .slice A1 n1 c1] 24))
  have S1 := Lib.hid (S1.out.alloc (.cells #[.bool s2, .slice A2 n2 c2] 24))
  have S2 := Lib.hid (S2.out.alloc (.cells #[.bool s2, .slice A2 n2 c2] 24))
  have X1 := Lib.hid (X1.out.alloc (.cells #[.bool s2, .slice A2 n2 c2] 24))
  have X2 := Lib.hid (Bx.new (w.alloc (.cells #[.bool s1, .slice A1 n1 c1] 24)) (.bool s2) (.slice A2 n2 c2))
  rw [alloc_sz] at X2
  have TB : Hid (Tab ((w.alloc (.cells #[.bool s1, .slice A1 n1 c1] 24)).alloc (.cells #[.bool s2, .slice A2 n2 c2] 24))) := tab_on TB.out ((Below.refl _ _).alloc (Nat.le_refl _) _)
  have BW := Lib.hid (BW.out.alloc BW.out.size (.cells #[.bool s2, .slice A2 n2 c2] 24))
  generalize hWW : ((w.alloc (.cells #[.bool s1, .slice A1 n1 c1] 24)).alloc (.cells #[.bool s2, .slice A2 n2 c2] 24)) = W0 at *
  clear hWW
  by_cases g1 : 100 < n1
  · have b1 : decide ((100 : Int) < (n1 : Int)) = true := decide_eq_true (by omega)
    have e0 := X1.out.c0
    have e1 := X1.out.c1
    go_wp2_with fail
    (refine (long_any s1 A1 n1 c1 100 _).mono ?_; rintro e v1 ⟨rfl, hb⟩)
    rw [b1]
    clear e0 e1
    have S1 := Lib.hid (S1.out.below hb)
    have S2 := Lib.hid (S2.out.below hb)
    have X1 := Lib.hid (X1.out.below hb)
    have X2 := Lib.hid (X2.out.below hb)
    have TB := Lib.hid (tab_on TB.out hb)
    have BW := Lib.hid (below_on BW.out hb)
    clear hb
    go_wp2_with fail
    (refine (awake_any _ TB.out).mono ?_; rintro e vv ⟨rfl, hb⟩)
    have S1 := Lib.hid (S1.out.below hb)
    have S2 := Lib.hid (S2.out.below hb)
    have X1 := Lib.hid (X1.out.below hb)
    have X2 := Lib.hid (X2.out.below hb)
    have TB := Lib.hid (tab_on TB.out hb)
    have BW := Lib.hid (below_on BW.out hb)
    clear hb
    go_wp2_with fail
    go_ret
    exact ⟨rfl, BW.out⟩
  by_cases g2 : 100 < n2
  · have b1 : decide ((100 : Int) < (n1 : Int)) = false := decide_eq_false (by omega)
    have b2 : decide ((100 : Int) < (n2 : Int)) = true := decide_eq_true (by omega)
    have e0 := X1.out.c0
    have e1 := X1.out.c1
    go_wp2_with fail
    (refine (long_any s1 A1 n1 c1 100 _).mono ?_; rintro e v1 ⟨rfl, hb⟩)
    rw [b1]
    clear e0 e1
    have S1 := Lib.hid (S1.out.below hb)
    have S2 := Lib.hid (S2.out.below hb)
    have X1 := Lib.hid (X1.out.below hb)
    have X2 := Lib.hid (X2.out.below hb)
    have TB := Lib.hid (tab_on TB.out hb)
    have BW := Lib.hid (below_on BW.out hb)
    clear hb
    have e0 := X2.out.c0
    have e1 := X2.out.c1
    go_wp2_with fail
    (refine (long_any s2 A2 n2 c2 100 _).mono ?_; rintro e v2 ⟨rfl, hb⟩)
    rw [b2]
    clear e0 e1
    have S1 := Lib.hid (S1.out.below hb)
    have S2 := Lib.hid (S2.out.below hb)
    have X1 := Lib.hid (X1.out.below hb)
    have X2 := Lib.hid (X2.out.below hb)
    have TB := Lib.hid (tab_on TB.out hb)
    have BW := Lib.hid (below_on BW.out hb)
    clear hb
    go_wp2_with fail
    (refine (awake_any _ TB.out).mono ?_; rintro e vv ⟨rfl, hb⟩)
    have S1 := Lib.hid (S1.out.below hb)
    have S2 := Lib.hid (S2.out.below hb)
    have X1 := Lib.hid (X1.out.below hb)
    have X2 := Lib.hid (X2.out.below hb)
    have TB := Lib.hid (tab_on TB.out hb)
    have BW := Lib.hid (below_on BW.out hb)
    clear hb
    go_wp2_with fail
    go_ret
    exact ⟨rfl, BW.out⟩
  have z1b := zOf_lt (neg := s1) (xs := x1) (k := 100) (by rw [l1.out]; omega)
  have z2b := zOf_lt (neg := s2) (xs := x2) (k := 100) (by rw [l2.out]; omega)
  obtain ⟨z1, hz1⟩ : ∃ z, zOf s1 x1 = z := ⟨_, rfl⟩
  obtain ⟨z2, hz2⟩ : ∃ z, zOf s2 x2 = z := ⟨_, rfl⟩
  rw [hz1] at z1b
  rw [hz2] at z2b
  have Z1 := Lib.hid hz1
  have Z2 := Lib.hid hz2
  clear hz1 hz2
  have b1 : decide ((100 : Int) < (n1 : Int)) = false := decide_eq_false (by omega)
  have b2 : decide ((100 : Int) < (n2 : Int)) = false := decide_eq_false (by omega)
  have e0 := X1.out.c0
  have e1 := X1.out.c1
  go_wp2_with fail
  (refine (long_any s1 A1 n1 c1 100 _).mono ?_; rintro e v1 ⟨rfl, hb⟩)
  rw [b1]
  clear e0 e1
  have S1 := Lib.hid (S1.out.below hb)
  have S2 := Lib.hid (S2.out.below hb)
  have X1 := Lib.hid (X1.out.below hb)
  have X2 := Lib.hid (X2.out.below hb)
  have TB := Lib.hid (tab_on TB.out hb)
  have BW := Lib.hid (below_on BW.out hb)
  clear hb
  have e0 := X2.out.c0
  have e1 := X2.out.c1
  go_wp2_with fail
  (refine (long_any s2 A2 n2 c2 100 _).mono ?_; rintro e v2 ⟨rfl, hb⟩)
  rw [b2]
  clear e0 e1
  have S1 := Lib.hid (S1.out.below hb)
  have S2 := Lib.hid (S2.out.below hb)
  have X1 := Lib.hid (X1.out.below hb)
  have X2 := Lib.hid (X2.out.below hb)
  have TB := Lib.hid (tab_on TB.out hb)
  have BW := Lib.hid (below_on BW.out hb)
  clear hb
  go_upto_region 4 with fail
  have S1 := Lib.hid (S1.out.alloc (.cells #[.bool false, .slice none 0 0] 24))
  have S2 := Lib.hid (S2.out.alloc (.cells #[.bool false, .slice none 0 0] 24))
  have X1 := Lib.hid (X1.out.alloc (.cells #[.bool false, .slice none 0 0] 24))
  have X2 := Lib.hid (X2.out.alloc (.cells #[.bool false, .slice none 0 0] 24))
  have X0 := Lib.hid (Bx.new v2 (.bool false) (.slice none 0 0))
  have TB : Hid (Tab (v2.alloc (.cells #[.bool false, .slice none 0 0] 24))) := tab_on TB.out ((Below.refl _ _).alloc (Nat.le_refl _) _)
  have BW := Lib.hid (BW.out.alloc BW.out.size (.cells #[.bool false, .slice none 0 0] 24))
  generalize hWW : (v2.alloc (.cells #[.bool false, .slice none 0 0] 24)) = V0 at *
  clear hWW
  by_cases h0 : z2 = 0
  · have e0 := X1.out.c0
    have e1 := X1.out.c1
    have e2 := X2.out.c0
    have e3 := X2.out.c1
    go_wp2_with fail
    (refine (zero_ok _ _ _ _ _ _ _ _ x1 x2 z1 z2 _ S1.out S2.out Z1.out Z2.out h0).mono ?_; rintro e u1 ⟨T1, r1, U1, q1, rfl, hs, hs', hb⟩)
    clear e0 e1 e2 e3
    have S1 := Lib.hid (S1.out.below hb)
    have S2 := Lib.hid (S2.out.below hb)
    have X1 := Lib.hid (X1.out.below hb)
    have X2 := Lib.hid (X2.out.below hb)
    have X0 := Lib.hid (X0.out.below hb)
    have TB := Lib.hid (tab_on TB.out hb)
    have BW := Lib.hid (below_on BW.out hb)
    clear hb
    clear hs hs'
    go_upto_region 5 with fail
    have S1 := Lib.hid (S1.out.alloc (.cells #[.bool false, .slice T1 0 r1] 24))
    have S2 := Lib.hid (S2.out.alloc (.cells #[.bool false, .slice T1 0 r1] 24))
    have X1 := Lib.hid (X1.out.alloc (.cells #[.bool false, .slice T1 0 r1] 24))
    have X2 := Lib.hid (X2.out.alloc (.cells #[.bool false, .slice T1 0 r1] 24))
    have X0 := Lib.hid (X0.out.alloc (.cells #[.bool false, .slice T1 0 r1] 24))
    have Y1 := Lib.hid (Bx.new u1 (.bool false) (.slice T1 0 r1))
    have TB : Hid (Tab (u1.alloc (.cells #[.bool false, .slice T1 0 r1] 24))) := tab_on TB.out ((Below.refl _ _).alloc (Nat.le_refl _) _)
    have BW := Lib.hid (BW.out.alloc BW.out.size (.cells #[.bool false, .slice T1 0 r1] 24))
    have S1 := Lib.hid (S1.out.alloc (.cells #[.bool false, .slice U1 0 q1] 24))
    have S2 := Lib.hid (S2.out.alloc (.cells #[.bool false, .slice U1 0 q1] 24))
    have X1 := Lib.hid (X1.out.alloc (.cells #[.bool false, .slice U1 0 q1] 24))
    have X2 := Lib.hid (X2.out.alloc (.cells #[.bool false, .slice U1 0 q1] 24))
    have X0 := Lib.hid (X0.out.alloc (.cells #[.bool false, .slice U1 0 q1] 24))
    have Y1 := Lib.hid (Y1.out.alloc (.cells #[.bool false, .slice U1 0 q1] 24))
    have Y2 := Lib.hid (Bx.new (u1.alloc (.cells #[.bool false, .slice T1 0 r1] 24)) (.bool false) (.slice U1 0 q1))
    rw [alloc_sz] at Y2
    have TB : Hid (Tab ((u1.alloc (.cells #[.bool false, .slice T1 0 r1] 24)).alloc (.cells #[.bool false, .slice U1 0 q1] 24))) := tab_on TB.out ((Below.refl _ _).alloc (Nat.le_refl _) _)
    have BW := Lib.hid (BW.out.alloc BW.out.size (.cells #[.bool false, .slice U1 0 q1] 24))
    generalize hWW : ((u1.alloc (.cells #[.bool false, .slice T1 0 r1] 24)).alloc (.cells #[.bool false, .slice U1 0 q1] 24)) = V1 at *
    clear hWW
    have e0 := X2.out.c0
    have e1 := X2.out.c1
    have e2 := X0.out.c0
    have e3 := X0.out.c1
    go_wp2_with fail
    (refine (cmp_ok _ _ _ _ _ _ _ _ x2 [] z2 0 0 _ S2.out (Sl.nil _) Z2.out zOf_zero (cmpI_eq h0)).mono ?_; rintro e u2 ⟨rfl, hb⟩)
    clear e0 e1 e2 e3
    have S1 := Lib.hid (S1.out.below hb)
    have S2 := Lib.hid (S2.out.below hb)
    have X1 := Lib.hid (X1.out.below hb)
    have X2 := Lib.hid (X2.out.below hb)
    have X0 := Lib.hid (X0.out.below hb)
    have Y1 := Lib.hid (Y1.out.below hb)
    have Y2 := Lib.hid (Y2.out.below hb)
    have TB := Lib.hid (tab_on TB.out hb)
    have BW := Lib.hid (below_on BW.out hb)
    clear hb
    have e0 := Y1.out.c0
    have e1 := Y1.out.c1
    have e2 := Y2.out.c0
    have e3 := Y2.out.c1
    go_wp2_with fail
    clear e0 e1 e2 e3
    (refine (awake_any _ TB.out).mono ?_; rintro e vv ⟨rfl, hb⟩)
    have S1 := Lib.hid (S1.out.below hb)
    have S2 := Lib.hid (S2.out.below hb)
    have X1 := Lib.hid (X1.out.below hb)
    have X2 := Lib.hid (X2.out.below hb)
    have X0 := Lib.hid (X0.out.below hb)
    have Y1 := Lib.hid (Y1.out.below hb)
    have Y2 := Lib.hid (Y2.out.below hb)
    have TB := Lib.hid (tab_on TB.out hb)
    have BW := Lib.hid (below_on BW.out hb)
    clear hb
    go_wp2_with fail
    go_ret
    exact ⟨rfl, BW.out⟩
  have HQ0 := Lib.hid (qr_facts z1 z2 h0)
  have hqa := q_abs z1 z2 h0
  have hra := r_abs z1 z2 h0
  have hga := gZ_le (a := z1) h0
  have hgp := gZ_pos (a := z1) h0
  have N2 : Hid ((z2 != 0) = true) := by show (z2 != 0) = true; simpa using h0
  have GX := Lib.hid (rZ_dvd (gZ_dvd z1 z2).1)
  have GY := Lib.hid (rZ_dvd (gZ_dvd z1 z2).2)
  generalize hq : qZ z1 z2 = q at *
  generalize hr : rZ z1 z2 = r at *
  generalize hg : gZ z1 z2 = g at *
  have HQ := Lib.hid hq
  have HR := Lib.hid hr
  have HG := Lib.hid hg
  have FQ := Lib.hid (fit_of (z := q) (k := 100) (by omega) (by omega))
  have FR := Lib.hid (fit_of (z := r) (k := 100) (by omega) (by omega))
  have FG := Lib.hid (fit_of (z := g) (k := 100) (by omega) (by omega))
  have F1 := Lib.hid (fit_of z1b (by omega))
  have FP : Hid (fitB (z2 * q) = true) := by
    have e : z2 * q = z1 + -r := by have := HQ0.out.1; omega
    show fitB _ = true
    rw [e]
    exact fit_of (abs_sub (k := 100) z1b (by omega)) (by omega)
  have HS : Hid (z2 * q + r = z1) := HQ0.out.1.symm
  have NG : Hid (nOf g = false) := nOf_nonneg (Int.le_of_lt hgp)
  have G0 : Hid ((g != 0) = true) := by show (g != 0) = true; simp; omega
  have C0 : (cmpI z2 0 == 0) = false := by
    rcases Int.lt_or_gt_of_ne h0 with h | h
    · rw [cmpI_lt h]; rfl
    · rw [cmpI_gt h]; rfl
  have C1 := Lib.hid C0
  clear hq hr hg hqa hra hga hgp z1b z2b C0
  have e0 := X1.out.c0
  have e1 := X1.out.c1
  have e2 := X2.out.c0
  have e3 := X2.out.c1
  go_wp2_with fail
  (refine (div_ok _ _ _ _ _ _ _ _ x1 x2 z1 z2 q r _ S1.out S2.out Z1.out Z2.out HQ.out HR.out N2.out).mono ?_; rintro e u1 ⟨T1, k1, r1, U1, l1', q1, rfl, hs, hs', hb⟩)
  clear e0 e1 e2 e3
  have S1 := Lib.hid (S1.out.below hb)
  have S2 := Lib.hid (S2.out.below hb)
  have X1 := Lib.hid (X1.out.below hb)
  have X2 := Lib.hid (X2.out.below hb)
  have X0 := Lib.hid (X0.out.below hb)
  have TB := Lib.hid (tab_on TB.out hb)
  have BW := Lib.hid (below_on BW.out hb)
  clear hb
  have R1 := Lib.hid hs
  have R2 := Lib.hid hs'
  clear hs hs'
  go_upto_region 5 with fail
  have S1 := Lib.hid (S1.out.alloc (.cells #[.bool (nOf q), .slice T1 k1 r1] 24))
  have S2 := Lib.hid (S2.out.alloc (.cells #[.bool (nOf q), .slice T1 k1 r1] 24))
  have X1 := Lib.hid (X1.out.alloc (.cells #[.bool (nOf q), .slice T1 k1 r1] 24))
  have X2 := Lib.hid (X2.out.alloc (.cells #[.bool (nOf q), .slice T1 k1 r1] 24))
  have X0 := Lib.hid (X0.out.alloc (.cells #[.bool (nOf q), .slice T1 k1 r1] 24))
  have R1 := Lib.hid (R1.out.alloc (.cells #[.bool (nOf q), .slice T1 k1 r1] 24))
  have R2 := Lib.hid (R2.out.alloc (.cells #[.bool (nOf q), .slice T1 k1 r1] 24))
  have Y1 := Lib.hid (Bx.new u1 (.bool (nOf q)) (.slice T1 k1 r1))
  have TB : Hid (Tab (u1.alloc (.cells #[.bool (nOf q), .slice T1 k1 r1] 24))) := tab_on TB.out ((Below.refl _ _).alloc (Nat.le_refl _) _)
  have BW := Lib.hid (BW.out.alloc BW.out.size (.cells #[.bool (nOf q), .slice T1 k1 r1] 24))
  have S1 := Lib.hid (S1.out.alloc (.cells #[.bool (nOf r), .slice U1 l1' q1] 24))
  have S2 := Lib.hid (S2.out.alloc (.cells #[.bool (nOf r), .slice U1 l1' q1] 24))
  have X1 := Lib.hid (X1.out.alloc (.cells #[.bool (nOf r), .slice U1 l1' q1] 24))
  have X2 := Lib.hid (X2.out.alloc (.cells #[.bool (nOf r), .slice U1 l1' q1] 24))
  have X0 := Lib.hid (X0.out.alloc (.cells #[.bool (nOf r), .slice U1 l1' q1] 24))
  have R1 := Lib.hid (R1.out.alloc (.cells #[.bool (nOf r), .slice U1 l1' q1] 24))
  have R2 := Lib.hid (R2.out.alloc (.cells #[.bool (nOf r), .slice U1 l1' q1] 24))
  have Y1 := Lib.hid (Y1.out.alloc (.cells #[.bool (nOf r), .slice U1 l1' q1] 24))
  have Y2 := Lib.hid (Bx.new (u1.alloc (.cells #[.bool (nOf q), .slice T1 k1 r1] 24)) (.bool (nOf r)) (.slice U1 l1' q1))
  rw [alloc_sz] at Y2
  have TB : Hid (Tab ((u1.alloc (.cells #[.bool (nOf q), .slice T1 k1 r1] 24)).alloc (.cells #[.bool (nOf r), .slice U1 l1' q1] 24))) := tab_on TB.out ((Below.refl _ _).alloc (Nat.le_refl _) _)
  have BW := Lib.hid (BW.out.alloc BW.out.size (.cells #[.bool (nOf r), .slice U1 l1' q1] 24))
  generalize hWW : ((u1.alloc (.cells #[.bool (nOf q), .slice T1 k1 r1] 24)).alloc (.cells #[.bool (nOf r), .slice U1 l1' q1] 24)) = V1 at *
  clear hWW
  have e0 := X2.out.c0
  have e1 := X2.out.c1
  have e2 := X0.out.c0
  have e3 := X0.out.c1
  go_wp2_with fail
  (refine (cmp_ok _ _ _ _ _ _ _ _ x2 [] z2 0 (cmpI z2 0) _ S2.out (Sl.nil _) Z2.out zOf_zero rfl).mono ?_; rintro e u2 ⟨rfl, hb⟩)
  clear e0 e1 e2 e3
  have S1 := Lib.hid (S1.out.below hb)
  have S2 := Lib.hid (S2.out.below hb)
  have X1 := Lib.hid (X1.out.below hb)
  have X2 := Lib.hid (X2.out.below hb)
  have X0 := Lib.hid (X0.out.below hb)
  have R1 := Lib.hid (R1.out.below hb)
  have R2 := Lib.hid (R2.out.below hb)
  have Y1 := Lib.hid (Y1.out.below hb)
  have Y2 := Lib.hid (Y2.out.below hb)
  have TB := Lib.hid (tab_on TB.out hb)
  have BW := Lib.hid (below_on BW.out hb)
  clear hb
  have C0 := C1.out
  have e0 := X2.out.c0
  have e1 := X2.out.c1
  have e2 := Y1.out.c0
  have e3 := Y1.out.c1
  go_wp2_with fail
  (refine (mul_ok _ _ _ _ _ _ _ _ x2 _ z2 q (z2 * q) _ S2.out R1.out Z2.out (zOf_lOf FQ.out) rfl FP.out).mono ?_; rintro e u3 ⟨T3, k3, r3, rfl, hs, hb⟩)
  clear e0 e1 e2 e3
  have S1 := Lib.hid (S1.out.below hb)
  have S2 := Lib.hid (S2.out.below hb)
  have X1 := Lib.hid (X1.out.below hb)
  have X2 := Lib.hid (X2.out.below hb)
  have X0 := Lib.hid (X0.out.below hb)
  have R1 := Lib.hid (R1.out.below hb)
  have R2 := Lib.hid (R2.out.below hb)
  have Y1 := Lib.hid (Y1.out.below hb)
  have Y2 := Lib.hid (Y2.out.below hb)
  have TB := Lib.hid (tab_on TB.out hb)
  have BW := Lib.hid (below_on BW.out hb)
  clear hb
  clear C0
  have R3 := Lib.hid hs
  clear hs
  go_upto_region 8 with fail
  have S1 := Lib.hid (S1.out.alloc (.cells #[.bool (nOf (z2 * q)), .slice T3 k3 r3] 24))
  have S2 := Lib.hid (S2.out.alloc (.cells #[.bool (nOf (z2 * q)), .slice T3 k3 r3] 24))
  have X1 := Lib.hid (X1.out.alloc (.cells #[.bool (nOf (z2 * q)), .slice T3 k3 r3] 24))
  have X2 := Lib.hid (X2.out.alloc (.cells #[.bool (nOf (z2 * q)), .slice T3 k3 r3] 24))
  have X0 := Lib.hid (X0.out.alloc (.cells #[.bool (nOf (z2 * q)), .slice T3 k3 r3] 24))
  have R1 := Lib.hid (R1.out.alloc (.cells #[.bool (nOf (z2 * q)), .slice T3 k3 r3] 24))
  have R2 := Lib.hid (R2.out.alloc (.cells #[.bool (nOf (z2 * q)), .slice T3 k3 r3] 24))
  have Y1 := Lib.hid (Y1.out.alloc (.cells #[.bool (nOf (z2 * q)), .slice T3 k3 r3] 24))
  have Y2 := Lib.hid (Y2.out.alloc (.cells #[.bool (nOf (z2 * q)), .slice T3 k3 r3] 24))
  have R3 := Lib.hid (R3.out.alloc (.cells #[.bool (nOf (z2 * q)), .slice T3 k3 r3] 24))
  have Y3 := Lib.hid (Bx.new u3 (.bool (nOf (z2 * q))) (.slice T3 k3 r3))
  have TB : Hid (Tab (u3.alloc (.cells #[.bool (nOf (z2 * q)), .slice T3 k3 r3] 24))) := tab_on TB.out ((Below.refl _ _).alloc (Nat.le_refl _) _)
  have BW := Lib.hid (BW.out.alloc BW.out.size (.cells #[.bool (nOf (z2 * q)), .slice T3 k3 r3] 24))
  generalize hWW : (u3.alloc (.cells #[.bool (nOf (z2 * q)), .slice T3 k3 r3] 24)) = V3 at *
  clear hWW
  have e0 := Y3.out.c0
  have e1 := Y3.out.c1
  have e2 := Y2.out.c0
  have e3 := Y2.out.c1
  go_wp2_with fail
  (refine (add_ok _ _ _ _ _ _ _ _ _ _ (z2 * q) r z1 _ R3.out R2.out (zOf_lOf FP.out) (zOf_lOf FR.out) HS.out F1.out).mono ?_; rintro e u4 ⟨T4, k4, r4, rfl, hs, hb⟩)
  clear e0 e1 e2 e3
  have S1 := Lib.hid (S1.out.below hb)
  have S2 := Lib.hid (S2.out.below hb)
  have X1 := Lib.hid (X1.out.below hb)
  have X2 := Lib.hid (X2.out.below hb)
  have X0 := Lib.hid (X0.out.below hb)
  have R1 := Lib.hid (R1.out.below hb)
  have R2 := Lib.hid (R2.out.below hb)
  have Y1 := Lib.hid (Y1.out.below hb)
  have Y2 := Lib.hid (Y2.out.below hb)
  have R3 := Lib.hid (R3.out.below hb)
  have Y3 := Lib.hid (Y3.out.below hb)
  have TB := Lib.hid (tab_on TB.out hb)
  have BW := Lib.hid (below_on BW.out hb)
  clear hb
  have R4 := Lib.hid hs
  clear hs
  go_upto_region 9 with fail
  have S1 := Lib.hid (S1.out.alloc (.cells #[.bool (nOf z1), .slice T4 k4 r4] 24))
  have S2 := Lib.hid (S2.out.alloc (.cells #[.bool (nOf z1), .slice T4 k4 r4] 24))
  have X1 := Lib.hid (X1.out.alloc (.cells #[.bool (nOf z1), .slice T4 k4 r4] 24))
  have X2 := Lib.hid (X2.out.alloc (.cells #[.bool (nOf z1), .slice T4 k4 r4] 24))
  have X0 := Lib.hid (X0.out.alloc (.cells #[.bool (nOf z1), .slice T4 k4 r4] 24))
  have R1 := Lib.hid (R1.out.alloc (.cells #[.bool (nOf z1), .slice T4 k4 r4] 24))
  have R2 := Lib.hid (R2.out.alloc (.cells #[.bool (nOf z1), .slice T4 k4 r4] 24))
  have Y1 := Lib.hid (Y1.out.alloc (.cells #[.bool (nOf z1), .slice T4 k4 r4] 24))
  have Y2 := Lib.hid (Y2.out.alloc (.cells #[.bool (nOf z1), .slice T4 k4 r4] 24))
  have R3 := Lib.hid (R3.out.alloc (.cells #[.bool (nOf z1), .slice T4 k4 r4] 24))
  have Y3 := Lib.hid (Y3.out.alloc (.cells #[.bool (nOf z1), .slice T4 k4 r4] 24))
  have R4 := Lib.hid (R4.out.alloc (.cells #[.bool (nOf z1), .slice T4 k4 r4] 24))
  have Y4 := Lib.hid (Bx.new u4 (.bool (nOf z1)) (.slice T4 k4 r4))
  have TB : Hid (Tab (u4.alloc (.cells #[.bool (nOf z1), .slice T4 k4 r4] 24))) := tab_on TB.out ((Below.refl _ _).alloc (Nat.le_refl _) _)
  have BW := Lib.hid (BW.out.alloc BW.out.size (.cells #[.bool (nOf z1), .slice T4 k4 r4] 24))
  generalize hWW : (u4.alloc (.cells #[.bool (nOf z1), .slice T4 k4 r4] 24)) = V4 at *
  clear hWW
  go_cut [108] (fun s wx => s = .bool false ∧ Below V4.heap.size V4 wx)
  case first =>
    have HB := HQ0.out.2
    rcases Int.lt_or_gt_of_ne h0 with hsg | hsg
    · have hrr := HB.2 hsg
      clear HB
      by_cases hrz : r = 0
      · have NR : nOf r = false := nOf_nonneg (by omega)
        rw [NR] at Y2
        have NRH := Lib.hid NR
        clear NR
        have D1 : Hid (cmpI z2 0 = -1) := cmpI_lt (by omega)
        have D2 : Hid (cmpI r z2 = 1) := cmpI_gt (by omega)
        have D3 : Hid (cmpI r 0 = 0) := cmpI_eq (by omega)
        have ZR : Hid (zOf false (lOf r) = r) := by
          have := zOf_lOf FR.out
          rwa [NRH.out] at this
        clear h0 hsg hrz
        have e0 := Y4.out.c0
        have e1 := Y4.out.c1
        have e2 := X1.out.c0
        have e3 := X1.out.c1
        have e4 := X2.out.c0
        have e5 := X2.out.c1
        have e6 := X0.out.c0
        have e7 := X0.out.c1
        have e8 := Y2.out.c0
        have e9 := Y2.out.c1
        refine wp_region_held_drew (S := fun w' => w'.cell? ⟨u4.heap.size, 0, none⟩ = some (.bool (nOf z1)) ∧ w'.cell? ⟨u4.heap.size, 1, none⟩ = some (.slice T4 k4 r4) ∧ w'.cell? ⟨w.heap.size, 0, none⟩ = some (.bool s1) ∧ w'.cell? ⟨w.heap.size, 1, none⟩ = some (.slice A1 n1 c1) ∧ w'.cell? ⟨w.heap.size + 1, 0, none⟩ = some (.bool s2) ∧ w'.cell? ⟨w.heap.size + 1, 1, none⟩ = some (.slice A2 n2 c2) ∧ w'.cell? ⟨v2.heap.size, 0, none⟩ = some (.bool false) ∧ w'.cell? ⟨v2.heap.size, 1, none⟩ = some (.slice none 0 0) ∧ w'.cell? ⟨u1.heap.size + 1, 0, none⟩ = some (.bool false) ∧ w'.cell? ⟨u1.heap.size + 1, 1, none⟩ = some (.slice U1 l1' q1)) (by kernel_rfl) ?_ (fun hHeld => ?_)
        · (try dsimp only)
          go_keep
        refine wpAnyH_take (i := 0) (oi := { dst := some 68, op := Op.move (Operand.tmp 8), type := 4, pos := "law.go:128", after := #[], guard := none }) (v := .bool true) rfl (by kernel_rfl) (by kernel_rfl) (by kernel_rfl) (fun _ _ _ h => h) (Or.inl ⟨by rfl, ?_⟩) (by assumption) ?_
        · intro w' hSw
          (try dsimp only at hSw)
          go_simp
          try (first | rfl | decide)
        simp only [Act.put, List.setIfInBounds_toArray, List.set_cons_zero, List.set_cons_succ]
        refine wpAnyH_take (i := 1) (oi := { dst := some 69, op := Op.unOp UnOp.not 4 (Operand.tmp 68), type := 4, pos := "law.go:128", after := #[{ on := 0, ground := Ground.data }], guard := none }) (v := .bool false) rfl (by kernel_rfl) (by kernel_rfl) (by kernel_rfl) (fun _ _ _ h => h) (Or.inl ⟨by rfl, ?_⟩) (by assumption) ?_
        · intro w' hSw
          (try dsimp only at hSw)
          go_simp
          try (first | rfl | decide)
        simp only [Act.put, List.setIfInBounds_toArray, List.set_cons_zero, List.set_cons_succ]
        refine wpAnyH_take (i := 2) (oi := { dst := some 70, op := Op.move (Operand.tmp 69), type := 4, pos := "law.go:128", after := #[{ on := 1, ground := Ground.data }], guard := none }) (v := .bool false) rfl (by kernel_rfl) (by kernel_rfl) (by kernel_rfl) (fun _ _ _ h => h) (Or.inl ⟨by rfl, ?_⟩) (by assumption) ?_
        · intro w' hSw
          (try dsimp only at hSw)
          go_simp
          try (first | rfl | decide)
        simp only [Act.put, List.setIfInBounds_toArray, List.set_cons_zero, List.set_cons_succ]
        refine wpAnyH_take (i := 3) (oi := { dst := some 71, op := Op.move (Operand.tmp 10), type := 4, pos := "law.go:128", after := #[{ on := 2, ground := Ground.guard }], guard := some (2, false) }) (v := .bool true) rfl (by kernel_rfl) (by kernel_rfl) (by kernel_rfl) (fun _ _ _ h => h) (Or.inl ⟨by rfl, ?_⟩) (by assumption) ?_
        · intro w' hSw
          (try dsimp only at hSw)
          go_simp
          try (first | rfl | decide)
        simp only [Act.put, List.setIfInBounds_toArray, List.set_cons_zero, List.set_cons_succ]
        refine wpAnyH_take (i := 4) (oi := { dst := some 72, op := Op.unOp UnOp.not 4 (Operand.tmp 71), type := 4, pos := "law.go:128", after := #[{ on := 3, ground := Ground.data }, { on := 2, ground := Ground.guard }], guard := some (2, false) }) (v := .bool false) rfl (by kernel_rfl) (by kernel_rfl) (by kernel_rfl) (fun _ _ _ h => h) (Or.inl ⟨by rfl, ?_⟩) (by assumption) ?_
        · intro w' hSw
          (try dsimp only at hSw)
          go_simp
          try (first | rfl | decide)
        simp only [Act.put, List.setIfInBounds_toArray, List.set_cons_zero, List.set_cons_succ]
        refine wpAnyH_take (i := 5) (oi := { dst := some 73, op := Op.pick (Operand.tmp 70) (Operand.const (Value.bool true)) (Operand.tmp 72), type := 4, pos := "law.go:128", after := #[{ on := 2, ground := Ground.data }, { on := 4, ground := Ground.data }], guard := none }) (v := .bool false) rfl (by kernel_rfl) (by kernel_rfl) (by kernel_rfl) (fun _ _ _ h => h) (Or.inl ⟨by rfl, ?_⟩) (by assumption) ?_
        · intro w' hSw
          (try dsimp only at hSw)
          go_simp
          try (first | rfl | decide)
        simp only [Act.put, List.setIfInBounds_toArray, List.set_cons_zero, List.set_cons_succ]
        refine wpAnyH_take (i := 6) (oi := { dst := some 74, op := Op.move (Operand.tmp 73), type := 4, pos := "law.go:128", after := #[{ on := 5, ground := Ground.data }, { on := 2, ground := Ground.chain }], guard := none }) (v := .bool false) rfl (by kernel_rfl) (by kernel_rfl) (by kernel_rfl) (fun _ _ _ h => h) (Or.inl ⟨by rfl, ?_⟩) (by assumption) ?_
        · intro w' hSw
          (try dsimp only at hSw)
          go_simp
          try (first | rfl | decide)
        simp only [Act.put, List.setIfInBounds_toArray, List.set_cons_zero, List.set_cons_succ]
        refine wpAnyH_take (i := 7) (oi := { dst := some 75, op := Op.move (Operand.tmp 12), type := 4, pos := "law.go:128", after := #[{ on := 6, ground := Ground.guard }], guard := some (6, false) }) (v := .bool true) rfl (by kernel_rfl) (by kernel_rfl) (by kernel_rfl) (fun _ _ _ h => h) (Or.inl ⟨by rfl, ?_⟩) (by assumption) ?_
        · intro w' hSw
          (try dsimp only at hSw)
          go_simp
          try (first | rfl | decide)
        simp only [Act.put, List.setIfInBounds_toArray, List.set_cons_zero, List.set_cons_succ]
        refine wpAnyH_take (i := 8) (oi := { dst := some 76, op := Op.unOp UnOp.not 4 (Operand.tmp 75), type := 4, pos := "law.go:128", after := #[{ on := 7, ground := Ground.data }, { on := 6, ground := Ground.guard }], guard := some (6, false) }) (v := .bool false) rfl (by kernel_rfl) (by kernel_rfl) (by kernel_rfl) (fun _ _ _ h => h) (Or.inl ⟨by rfl, ?_⟩) (by assumption) ?_
        · intro w' hSw
          (try dsimp only at hSw)
          go_simp
          try (first | rfl | decide)
        simp only [Act.put, List.setIfInBounds_toArray, List.set_cons_zero, List.set_cons_succ]
        refine wpAnyH_take (i := 9) (oi := { dst := some 77, op := Op.pick (Operand.tmp 74) (Operand.const (Value.bool true)) (Operand.tmp 76), type := 4, pos := "law.go:128", after := #[{ on := 6, ground := Ground.data }, { on := 8, ground := Ground.data }], guard := none }) (v := .bool false) rfl (by kernel_rfl) (by kernel_rfl) (by kernel_rfl) (fun _ _ _ h => h) (Or.inl ⟨by rfl, ?_⟩) (by assumption) ?_
        · intro w' hSw
          (try dsimp only at hSw)
          go_simp
          try (first | rfl | decide)
        simp only [Act.put, List.setIfInBounds_toArray, List.set_cons_zero, List.set_cons_succ]
        refine wpAnyH_take (i := 10) (oi := { dst := some 78, op := Op.move (Operand.tmp 77), type := 4, pos := "law.go:128", after := #[{ on := 9, ground := Ground.data }, { on := 6, ground := Ground.chain }], guard := none }) (v := .bool false) rfl (by kernel_rfl) (by kernel_rfl) (by kernel_rfl) (fun _ _ _ h => h) (Or.inl ⟨by rfl, ?_⟩) (by assumption) ?_
        · intro w' hSw
          (try dsimp only at hSw)
          go_simp
          try (first | rfl | decide)
        simp only [Act.put, List.setIfInBounds_toArray, List.set_cons_zero, List.set_cons_succ]
        refine wpAnyH_take (i := 11) (oi := { dst := some 79, op := Op.load 24 (Operand.tmp 11), type := 24, pos := "law.go:128", after := #[{ on := 10, ground := Ground.guard }], guard := some (10, false) }) (v := .agg #[.bool (nOf z1), .slice T4 k4 r4]) rfl (by kernel_rfl) (by kernel_rfl) (by kernel_rfl) (fun _ _ _ h => h) (Or.inl ⟨by rfl, ?_⟩) (by assumption) ?_
        · intro w' hSw
          (try dsimp only at hSw)
          go_simp
          try (first | rfl | decide)
        simp only [Act.put, List.setIfInBounds_toArray, List.set_cons_zero, List.set_cons_succ]
        refine wpAnyH_take (i := 12) (oi := { dst := some 80, op := Op.load 24 (Operand.tmp 2), type := 24, pos := "law.go:128", after := #[{ on := 10, ground := Ground.guard }], guard := some (10, false) }) (v := .agg #[.bool s1, .slice A1 n1 c1]) rfl (by kernel_rfl) (by kernel_rfl) (by kernel_rfl) (fun _ _ _ h => h) (Or.inl ⟨by rfl, ?_⟩) (by assumption) ?_
        · intro w' hSw
          (try dsimp only at hSw)
          go_simp
          try (first | rfl | decide)
        simp only [Act.put, List.setIfInBounds_toArray, List.set_cons_zero, List.set_cons_succ]
        refine wpAnyH_ready (rs := [13]) (by kernel_rfl) (by simp) ?_
        refine AllReadyH.cons (o := { dst := some 81, op := Op.call { callee := Callee.value (Operand.func 26), args := #[Operand.tmp 79, Operand.tmp 80], argTypes := #[24, 24] }, type := 3, pos := "law.go:128", after := #[{ on := 11, ground := Ground.data }, { on := 12, ground := Ground.data }, { on := 10, ground := Ground.chain }, { on := 10, ground := Ground.guard }], guard := some (10, false) }) rfl (fun K hK => ?_) AllReadyH.nil
        go_simp
        (with_reducible refine (cmp_ok (nOf z1) s1 T4 A1 k4 r4 n1 c1 (lOf z1) x1 z1 z1 0 _ (by first | exact R4.out | exact R4.out.drew) (by first | exact S1.out | exact S1.out.drew) (zOf_lOf F1.out) Z1.out (cmp_self z1)).mono ?_)
        rintro e a1 ⟨rfl, hb⟩
        have BB1 := Lib.hid (show Below V4.heap.size V4 a1 from (by first | exact hb | exact (Below.refl _ _).drew.trans (hb.mono (Nat.le_refl _))))
        have f0 := (Y4.out.below BB1.out).c0
        have f1 := (Y4.out.below BB1.out).c1
        have f2 := (X1.out.below BB1.out).c0
        have f3 := (X1.out.below BB1.out).c1
        have f4 := (X2.out.below BB1.out).c0
        have f5 := (X2.out.below BB1.out).c1
        have f6 := (X0.out.below BB1.out).c0
        have f7 := (X0.out.below BB1.out).c1
        have f8 := (Y2.out.below BB1.out).c0
        have f9 := (Y2.out.below BB1.out).c1
        clear hb
        go_wp2_with fail
        refine hK.out _ _ ?_ (fun hHeld => ?_)
        · (try dsimp only)
          go_keep
        clear hK K
        try simp only [Act.put, List.setIfInBounds_toArray, List.set_cons_zero, List.set_cons_succ]
        refine wpAnyH_take (i := 14) (oi := { dst := some 82, op := Op.binOp BinOp.neq 3 (Operand.tmp 81) (Operand.const (Value.int IntKind.i64 0)) 3, type := 4, pos := "law.go:128", after := #[{ on := 13, ground := Ground.data }, { on := 10, ground := Ground.guard }], guard := some (10, false) }) (v := .bool false) rfl (by kernel_rfl) (by kernel_rfl) (by kernel_rfl) (fun _ _ _ h => h) (Or.inl ⟨by rfl, ?_⟩) (by assumption) ?_
        · intro w' hSw
          (try dsimp only at hSw)
          go_simp
          try (first | rfl | decide)
        simp only [Act.put, List.setIfInBounds_toArray, List.set_cons_zero, List.set_cons_succ]
        refine wpAnyH_take (i := 15) (oi := { dst := some 83, op := Op.pick (Operand.tmp 78) (Operand.const (Value.bool true)) (Operand.tmp 82), type := 4, pos := "law.go:128", after := #[{ on := 10, ground := Ground.data }, { on := 14, ground := Ground.data }], guard := none }) (v := .bool false) rfl (by kernel_rfl) (by kernel_rfl) (by kernel_rfl) (fun _ _ _ h => h) (Or.inl ⟨by rfl, ?_⟩) (by assumption) ?_
        · intro w' hSw
          (try dsimp only at hSw)
          go_simp
          try (first | rfl | decide)
        simp only [Act.put, List.setIfInBounds_toArray, List.set_cons_zero, List.set_cons_succ]
        refine wpAnyH_take (i := 16) (oi := { dst := some 84, op := Op.move (Operand.tmp 83), type := 4, pos := "law.go:128", after := #[{ on := 15, ground := Ground.data }, { on := 13, ground := Ground.chain }], guard := none }) (v := .bool false) rfl (by kernel_rfl) (by kernel_rfl) (by kernel_rfl) (fun _ _ _ h => h) (Or.inl ⟨by rfl, ?_⟩) (by assumption) ?_
        · intro w' hSw
          (try dsimp only at hSw)
          go_simp
          try (first | rfl | decide)
        simp only [Act.put, List.setIfInBounds_toArray, List.set_cons_zero, List.set_cons_succ]
        refine wpAnyH_take (i := 17) (oi := { dst := some 85, op := Op.load 24 (Operand.tmp 7), type := 24, pos := "law.go:128", after := #[{ on := 16, ground := Ground.guard }], guard := some (16, false) }) (v := .agg #[.bool false, .slice U1 l1' q1]) rfl (by kernel_rfl) (by kernel_rfl) (by kernel_rfl) (fun _ _ _ h => h) (Or.inl ⟨by rfl, ?_⟩) (by assumption) ?_
        · intro w' hSw
          (try dsimp only at hSw)
          go_simp
          try (first | rfl | decide)
        simp only [Act.put, List.setIfInBounds_toArray, List.set_cons_zero, List.set_cons_succ]
        refine wpAnyH_take (i := 18) (oi := { dst := some 86, op := Op.load 24 (Operand.tmp 5), type := 24, pos := "law.go:128", after := #[{ on := 16, ground := Ground.guard }], guard := some (16, false) }) (v := .agg #[.bool false, .slice none 0 0]) rfl (by kernel_rfl) (by kernel_rfl) (by kernel_rfl) (fun _ _ _ h => h) (Or.inl ⟨by rfl, ?_⟩) (by assumption) ?_
        · intro w' hSw
          (try dsimp only at hSw)
          go_simp
          try (first | rfl | decide)
        simp only [Act.put, List.setIfInBounds_toArray, List.set_cons_zero, List.set_cons_succ]
        refine wpAnyH_ready (rs := [19]) (by kernel_rfl) (by simp) ?_
        refine AllReadyH.cons (o := { dst := some 87, op := Op.call { callee := Callee.value (Operand.func 26), args := #[Operand.tmp 85, Operand.tmp 86], argTypes := #[24, 24] }, type := 3, pos := "law.go:128", after := #[{ on := 17, ground := Ground.data }, { on := 18, ground := Ground.data }, { on := 16, ground := Ground.chain }, { on := 16, ground := Ground.guard }], guard := some (16, false) }) rfl (fun K hK => ?_) AllReadyH.nil
        go_simp
        (with_reducible refine (cmp_ok false false U1 none l1' q1 0 0 (lOf r) [] r 0 (0) _ (R2.out.below BB1.out) (Sl.nil _) ZR.out zOf_zero D3.out).mono ?_)
        rintro e a2 ⟨rfl, hb⟩
        have BB2 := Lib.hid (below_up BB1.out hb)
        have f0 := (Y4.out.below BB2.out).c0
        have f1 := (Y4.out.below BB2.out).c1
        have f2 := (X1.out.below BB2.out).c0
        have f3 := (X1.out.below BB2.out).c1
        have f4 := (X2.out.below BB2.out).c0
        have f5 := (X2.out.below BB2.out).c1
        have f6 := (X0.out.below BB2.out).c0
        have f7 := (X0.out.below BB2.out).c1
        have f8 := (Y2.out.below BB2.out).c0
        have f9 := (Y2.out.below BB2.out).c1
        clear hb
        go_wp2_with fail
        refine hK.out _ _ ?_ (fun hHeld => ?_)
        · (try dsimp only)
          go_keep
        clear hK K
        try simp only [Act.put, List.setIfInBounds_toArray, List.set_cons_zero, List.set_cons_succ]
        refine wpAnyH_take (i := 20) (oi := { dst := some 88, op := Op.binOp BinOp.neq 3 (Operand.tmp 87) (Operand.const (Value.int IntKind.i64 0)) 3, type := 4, pos := "law.go:128", after := #[{ on := 19, ground := Ground.data }, { on := 16, ground := Ground.guard }], guard := some (16, false) }) (v := .bool false) rfl (by kernel_rfl) (by kernel_rfl) (by kernel_rfl) (fun _ _ _ h => h) (Or.inl ⟨by rfl, ?_⟩) (by assumption) ?_
        · intro w' hSw
          (try dsimp only at hSw)
          go_simp
          try (first | rfl | decide)
        simp only [Act.put, List.setIfInBounds_toArray, List.set_cons_zero, List.set_cons_succ]
        refine wpAnyH_take (i := 21) (oi := { dst := some 89, op := Op.move (Operand.tmp 88), type := 4, pos := "law.go:128", after := #[{ on := 20, ground := Ground.data }, { on := 19, ground := Ground.chain }, { on := 16, ground := Ground.guard }], guard := some (16, false) }) (v := .bool false) rfl (by kernel_rfl) (by kernel_rfl) (by kernel_rfl) (fun _ _ _ h => h) (Or.inl ⟨by rfl, ?_⟩) (by assumption) ?_
        · intro w' hSw
          (try dsimp only at hSw)
          go_simp
          try (first | rfl | decide)
        simp only [Act.put, List.setIfInBounds_toArray, List.set_cons_zero, List.set_cons_succ]
        refine wpAnyH_take (i := 22) (oi := { dst := some 90, op := Op.fieldAddr 24 (Operand.tmp 7) 0, type := 0, pos := "law.go:128", after := #[{ on := 21, ground := Ground.guard }], guard := some (21, true) }) (v := undef) rfl (by kernel_rfl) (by kernel_rfl) (by kernel_rfl) (fun _ _ _ h => h) (Or.inr ⟨by rfl, rfl⟩) (by assumption) ?_
        simp only [Act.put, List.setIfInBounds_toArray, List.set_cons_zero, List.set_cons_succ]
        refine wpAnyH_take (i := 23) (oi := { dst := some 91, op := Op.load 4 (Operand.tmp 90), type := 4, pos := "law.go:128", after := #[{ on := 22, ground := Ground.data }, { on := 21, ground := Ground.guard }], guard := some (21, true) }) (v := undef) rfl (by kernel_rfl) (by kernel_rfl) (by kernel_rfl) (fun _ _ _ h => h) (Or.inr ⟨by rfl, rfl⟩) (by assumption) ?_
        simp only [Act.put, List.setIfInBounds_toArray, List.set_cons_zero, List.set_cons_succ]
        refine wpAnyH_take (i := 24) (oi := { dst := some 92, op := Op.load 24 (Operand.tmp 3), type := 24, pos := "law.go:128", after := #[{ on := 21, ground := Ground.guard }], guard := some (21, true) }) (v := undef) rfl (by kernel_rfl) (by kernel_rfl) (by kernel_rfl) (fun _ _ _ h => h) (Or.inr ⟨by rfl, rfl⟩) (by assumption) ?_
        simp only [Act.put, List.setIfInBounds_toArray, List.set_cons_zero, List.set_cons_succ]
        refine wpAnyH_take (i := 25) (oi := { dst := some 93, op := Op.load 24 (Operand.tmp 5), type := 24, pos := "law.go:128", after := #[{ on := 21, ground := Ground.guard }], guard := some (21, true) }) (v := undef) rfl (by kernel_rfl) (by kernel_rfl) (by kernel_rfl) (fun _ _ _ h => h) (Or.inr ⟨by rfl, rfl⟩) (by assumption) ?_
        simp only [Act.put, List.setIfInBounds_toArray, List.set_cons_zero, List.set_cons_succ]
        refine wpAnyH_take (i := 26) (oi := { dst := some 94, op := Op.call { callee := Callee.value (Operand.func 26), args := #[Operand.tmp 92, Operand.tmp 93], argTypes := #[24, 24] }, type := 3, pos := "law.go:128", after := #[{ on := 24, ground := Ground.data }, { on := 25, ground := Ground.data }, { on := 21, ground := Ground.chain }, { on := 21, ground := Ground.guard }], guard := some (21, true) }) (v := undef) rfl (by kernel_rfl) (by kernel_rfl) (by kernel_rfl) (fun _ _ _ h => h) (Or.inr ⟨by rfl, rfl⟩) (by assumption) ?_
        simp only [Act.put, List.setIfInBounds_toArray, List.set_cons_zero, List.set_cons_succ]
        refine wpAnyH_take (i := 27) (oi := { dst := some 95, op := Op.binOp BinOp.lss 3 (Operand.tmp 94) (Operand.const (Value.int IntKind.i64 0)) 3, type := 4, pos := "law.go:128", after := #[{ on := 26, ground := Ground.data }, { on := 21, ground := Ground.guard }], guard := some (21, true) }) (v := undef) rfl (by kernel_rfl) (by kernel_rfl) (by kernel_rfl) (fun _ _ _ h => h) (Or.inr ⟨by rfl, rfl⟩) (by assumption) ?_
        simp only [Act.put, List.setIfInBounds_toArray, List.set_cons_zero, List.set_cons_succ]
        refine wpAnyH_take (i := 28) (oi := { dst := some 96, op := Op.binOp BinOp.neq 4 (Operand.tmp 91) (Operand.tmp 95) 4, type := 4, pos := "law.go:128", after := #[{ on := 23, ground := Ground.data }, { on := 27, ground := Ground.data }, { on := 21, ground := Ground.guard }], guard := some (21, true) }) (v := undef) rfl (by kernel_rfl) (by kernel_rfl) (by kernel_rfl) (fun _ _ _ h => h) (Or.inr ⟨by rfl, rfl⟩) (by assumption) ?_
        simp only [Act.put, List.setIfInBounds_toArray, List.set_cons_zero, List.set_cons_succ]
        refine wpAnyH_take (i := 29) (oi := { dst := some 97, op := Op.pick (Operand.tmp 89) (Operand.tmp 96) (Operand.const (Value.bool false)), type := 4, pos := "law.go:128", after := #[{ on := 21, ground := Ground.data }, { on := 28, ground := Ground.data }, { on := 16, ground := Ground.guard }], guard := some (16, false) }) (v := .bool false) rfl (by kernel_rfl) (by kernel_rfl) (by kernel_rfl) (fun _ _ _ h => h) (Or.inl ⟨by rfl, ?_⟩) (by assumption) ?_
        · intro w' hSw
          (try dsimp only at hSw)
          go_simp
          try (first | rfl | decide)
        simp only [Act.put, List.setIfInBounds_toArray, List.set_cons_zero, List.set_cons_succ]
        refine wpAnyH_take (i := 30) (oi := { dst := some 98, op := Op.pick (Operand.tmp 84) (Operand.const (Value.bool true)) (Operand.tmp 97), type := 4, pos := "law.go:128", after := #[{ on := 16, ground := Ground.data }, { on := 29, ground := Ground.data }], guard := none }) (v := .bool false) rfl (by kernel_rfl) (by kernel_rfl) (by kernel_rfl) (fun _ _ _ h => h) (Or.inl ⟨by rfl, ?_⟩) (by assumption) ?_
        · intro w' hSw
          (try dsimp only at hSw)
          go_simp
          try (first | rfl | decide)
        simp only [Act.put, List.setIfInBounds_toArray, List.set_cons_zero, List.set_cons_succ]
        refine wpAnyH_take (i := 31) (oi := { dst := some 99, op := Op.move (Operand.tmp 98), type := 4, pos := "law.go:128", after := #[{ on := 30, ground := Ground.data }, { on := 26, ground := Ground.chain }], guard := none }) (v := .bool false) rfl (by kernel_rfl) (by kernel_rfl) (by kernel_rfl) (fun _ _ _ h => h) (Or.inl ⟨by rfl, ?_⟩) (by assumption) ?_
        · intro w' hSw
          (try dsimp only at hSw)
          go_simp
          try (first | rfl | decide)
        simp only [Act.put, List.setIfInBounds_toArray, List.set_cons_zero, List.set_cons_succ]
        refine wpAnyH_take (i := 32) (oi := { dst := some 100, op := Op.load 24 (Operand.tmp 7), type := 24, pos := "law.go:128", after := #[{ on := 31, ground := Ground.guard }], guard := some (31, false) }) (v := .agg #[.bool false, .slice U1 l1' q1]) rfl (by kernel_rfl) (by kernel_rfl) (by kernel_rfl) (fun _ _ _ h => h) (Or.inl ⟨by rfl, ?_⟩) (by assumption) ?_
        · intro w' hSw
          (try dsimp only at hSw)
          go_simp
          try (first | rfl | decide)
        simp only [Act.put, List.setIfInBounds_toArray, List.set_cons_zero, List.set_cons_succ]
        refine wpAnyH_take (i := 33) (oi := { dst := some 101, op := Op.load 24 (Operand.tmp 3), type := 24, pos := "law.go:128", after := #[{ on := 31, ground := Ground.guard }], guard := some (31, false) }) (v := .agg #[.bool s2, .slice A2 n2 c2]) rfl (by kernel_rfl) (by kernel_rfl) (by kernel_rfl) (fun _ _ _ h => h) (Or.inl ⟨by rfl, ?_⟩) (by assumption) ?_
        · intro w' hSw
          (try dsimp only at hSw)
          go_simp
          try (first | rfl | decide)
        simp only [Act.put, List.setIfInBounds_toArray, List.set_cons_zero, List.set_cons_succ]
        refine wpAnyH_take (i := 35) (oi := { dst := some 103, op := Op.load 24 (Operand.tmp 3), type := 24, pos := "law.go:128", after := #[{ on := 31, ground := Ground.guard }], guard := some (31, false) }) (v := .agg #[.bool s2, .slice A2 n2 c2]) rfl (by kernel_rfl) (by kernel_rfl) (by kernel_rfl) (fun _ _ _ h => h) (Or.inl ⟨by rfl, ?_⟩) (by assumption) ?_
        · intro w' hSw
          (try dsimp only at hSw)
          go_simp
          try (first | rfl | decide)
        simp only [Act.put, List.setIfInBounds_toArray, List.set_cons_zero, List.set_cons_succ]
        refine wpAnyH_take (i := 36) (oi := { dst := some 104, op := Op.load 24 (Operand.tmp 5), type := 24, pos := "law.go:128", after := #[{ on := 31, ground := Ground.guard }], guard := some (31, false) }) (v := .agg #[.bool false, .slice none 0 0]) rfl (by kernel_rfl) (by kernel_rfl) (by kernel_rfl) (fun _ _ _ h => h) (Or.inl ⟨by rfl, ?_⟩) (by assumption) ?_
        · intro w' hSw
          (try dsimp only at hSw)
          go_simp
          try (first | rfl | decide)
        simp only [Act.put, List.setIfInBounds_toArray, List.set_cons_zero, List.set_cons_succ]
        refine wpAnyH_ready (rs := [34]) (by kernel_rfl) (by simp) ?_
        refine AllReadyH.cons (o := { dst := some 102, op := Op.call { callee := Callee.value (Operand.func 26), args := #[Operand.tmp 100, Operand.tmp 101], argTypes := #[24, 24] }, type := 3, pos := "law.go:128", after := #[{ on := 32, ground := Ground.data }, { on := 33, ground := Ground.data }, { on := 31, ground := Ground.chain }, { on := 31, ground := Ground.guard }], guard := some (31, false) }) rfl (fun K hK => ?_) AllReadyH.nil
        go_simp
        (with_reducible refine (cmp_ok false s2 U1 A2 l1' q1 n2 c2 (lOf r) x2 r z2 (1) _ (R2.out.below BB2.out) (S2.out.below BB2.out) ZR.out Z2.out D2.out).mono ?_)
        rintro e a3 ⟨rfl, hb⟩
        have BB3 := Lib.hid (below_up BB2.out hb)
        have f0 := (Y4.out.below BB3.out).c0
        have f1 := (Y4.out.below BB3.out).c1
        have f2 := (X1.out.below BB3.out).c0
        have f3 := (X1.out.below BB3.out).c1
        have f4 := (X2.out.below BB3.out).c0
        have f5 := (X2.out.below BB3.out).c1
        have f6 := (X0.out.below BB3.out).c0
        have f7 := (X0.out.below BB3.out).c1
        have f8 := (Y2.out.below BB3.out).c0
        have f9 := (Y2.out.below BB3.out).c1
        clear hb
        go_wp2_with fail
        refine hK.out _ _ ?_ (fun hHeld => ?_)
        · (try dsimp only)
          go_keep
        clear hK K
        try simp only [Act.put, List.setIfInBounds_toArray, List.set_cons_zero, List.set_cons_succ]
        refine wpAnyH_ready (rs := [37]) (by kernel_rfl) (by simp) ?_
        refine AllReadyH.cons (o := { dst := some 105, op := Op.call { callee := Callee.value (Operand.func 26), args := #[Operand.tmp 103, Operand.tmp 104], argTypes := #[24, 24] }, type := 3, pos := "law.go:128", after := #[{ on := 35, ground := Ground.data }, { on := 36, ground := Ground.data }, { on := 34, ground := Ground.chain }, { on := 31, ground := Ground.guard }], guard := some (31, false) }) rfl (fun K hK => ?_) AllReadyH.nil
        go_simp
        (with_reducible refine (cmp_ok s2 false A2 none n2 c2 0 0 x2 [] z2 0 (-1) _ (S2.out.below BB3.out) (Sl.nil _) Z2.out zOf_zero D1.out).mono ?_)
        rintro e a4 ⟨rfl, hb⟩
        have BB4 := Lib.hid (below_up BB3.out hb)
        have f0 := (Y4.out.below BB4.out).c0
        have f1 := (Y4.out.below BB4.out).c1
        have f2 := (X1.out.below BB4.out).c0
        have f3 := (X1.out.below BB4.out).c1
        have f4 := (X2.out.below BB4.out).c0
        have f5 := (X2.out.below BB4.out).c1
        have f6 := (X0.out.below BB4.out).c0
        have f7 := (X0.out.below BB4.out).c1
        have f8 := (Y2.out.below BB4.out).c0
        have f9 := (Y2.out.below BB4.out).c1
        clear hb
        go_wp2_with fail
        refine hK.out _ _ ?_ (fun hHeld => ?_)
        · (try dsimp only)
          go_keep
        clear hK K
        try simp only [Act.put, List.setIfInBounds_toArray, List.set_cons_zero, List.set_cons_succ]
        refine wpAnyH_take (i := 38) (oi := { dst := some 106, op := Op.unOp UnOp.neg 3 (Operand.tmp 105), type := 3, pos := "law.go:128", after := #[{ on := 37, ground := Ground.data }, { on := 31, ground := Ground.guard }], guard := some (31, false) }) (v := .int .i64 (1)) rfl (by kernel_rfl) (by kernel_rfl) (by kernel_rfl) (fun _ _ _ h => h) (Or.inl ⟨by rfl, ?_⟩) (by assumption) ?_
        · intro w' hSw
          (try dsimp only at hSw)
          go_simp
          try (first | rfl | decide)
        simp only [Act.put, List.setIfInBounds_toArray, List.set_cons_zero, List.set_cons_succ]
        refine wpAnyH_take (i := 39) (oi := { dst := some 107, op := Op.binOp BinOp.neq 3 (Operand.tmp 102) (Operand.tmp 106) 3, type := 4, pos := "law.go:128", after := #[{ on := 34, ground := Ground.data }, { on := 38, ground := Ground.data }, { on := 31, ground := Ground.guard }], guard := some (31, false) }) (v := .bool false) rfl (by kernel_rfl) (by kernel_rfl) (by kernel_rfl) (fun _ _ _ h => h) (Or.inl ⟨by rfl, ?_⟩) (by assumption) ?_
        · intro w' hSw
          (try dsimp only at hSw)
          go_simp
          try (first | rfl | decide)
        simp only [Act.put, List.setIfInBounds_toArray, List.set_cons_zero, List.set_cons_succ]
        refine wpAnyH_take (i := 40) (oi := { dst := some 108, op := Op.pick (Operand.tmp 99) (Operand.const (Value.bool true)) (Operand.tmp 107), type := 4, pos := "law.go:128", after := #[{ on := 31, ground := Ground.data }, { on := 39, ground := Ground.data }], guard := none }) (v := .bool false) rfl (by kernel_rfl) (by kernel_rfl) (by kernel_rfl) (fun _ _ _ h => h) (Or.inl ⟨by rfl, ?_⟩) (by assumption) ?_
        · intro w' hSw
          (try dsimp only at hSw)
          go_simp
          try (first | rfl | decide)
        simp only [Act.put, List.setIfInBounds_toArray, List.set_cons_zero, List.set_cons_succ]
        refine wpAnyH_done (by kernel_rfl) ?_ _
        go_wp2_with fail
        go_meet
        exact ⟨rfl, BB4.out⟩
      · have NR : nOf r = true := nOf_neg (by omega)
        rw [NR] at Y2
        have NRH := Lib.hid NR
        clear NR
        have D1 : Hid (cmpI z2 0 = -1) := cmpI_lt (by omega)
        have D2 : Hid (cmpI r z2 = 1) := cmpI_gt (by omega)
        have D3 : Hid (cmpI r 0 = -1) := cmpI_lt (by omega)
        have ZR : Hid (zOf true (lOf r) = r) := by
          have := zOf_lOf FR.out
          rwa [NRH.out] at this
        clear h0 hsg hrz
        have e0 := Y4.out.c0
        have e1 := Y4.out.c1
        have e2 := X1.out.c0
        have e3 := X1.out.c1
        have e4 := X2.out.c0
        have e5 := X2.out.c1
        have e6 := X0.out.c0
        have e7 := X0.out.c1
        have e8 := Y2.out.c0
        have e9 := Y2.out.c1
        go_region_held3 (fun w' => w'.cell? ⟨u4.heap.size, 0, none⟩ = some (.bool (nOf z1)) ∧ w'.cell? ⟨u4.heap.size, 1, none⟩ = some (.slice T4 k4 r4) ∧ w'.cell? ⟨w.heap.size, 0, none⟩ = some (.bool s1) ∧ w'.cell? ⟨w.heap.size, 1, none⟩ = some (.slice A1 n1 c1) ∧ w'.cell? ⟨w.heap.size + 1, 0, none⟩ = some (.bool s2) ∧ w'.cell? ⟨w.heap.size + 1, 1, none⟩ = some (.slice A2 n2 c2) ∧ w'.cell? ⟨v2.heap.size, 0, none⟩ = some (.bool false) ∧ w'.cell? ⟨v2.heap.size, 1, none⟩ = some (.slice none 0 0) ∧ w'.cell? ⟨u1.heap.size + 1, 0, none⟩ = some (.bool true) ∧ w'.cell? ⟨u1.heap.size + 1, 1, none⟩ = some (.slice U1 l1' q1)) (go_keep)
          (first | (go_at_call 26; (with_reducible refine (cmp_ok (nOf z1) s1 T4 A1 k4 r4 n1 c1 (lOf z1) x1 z1 z1 0 _ (by first | exact R4.out | exact R4.out.drew) (by first | exact S1.out | exact S1.out.drew) (zOf_lOf F1.out) Z1.out (cmp_self z1)).mono ?_); rintro e a1 ⟨rfl, hb⟩; have BB1 := Lib.hid (show Below V4.heap.size V4 a1 from (by first | exact hb | exact (Below.refl _ _).drew.trans (hb.mono (Nat.le_refl _)))); have f0 := (Y4.out.below BB1.out).c0; have f1 := (Y4.out.below BB1.out).c1; have f2 := (X1.out.below BB1.out).c0; have f3 := (X1.out.below BB1.out).c1; have f4 := (X2.out.below BB1.out).c0; have f5 := (X2.out.below BB1.out).c1; have f6 := (X0.out.below BB1.out).c0; have f7 := (X0.out.below BB1.out).c1; have f8 := (Y2.out.below BB1.out).c0; have f9 := (Y2.out.below BB1.out).c1; clear hb) | (go_at_call 26; (with_reducible refine (cmp_ok true false U1 none l1' q1 0 0 (lOf r) [] r 0 (-1) _ (R2.out.below BB1.out) (Sl.nil _) ZR.out zOf_zero D3.out).mono ?_); rintro e a2 ⟨rfl, hb⟩; have BB2 := Lib.hid (below_up BB1.out hb); have f0 := (Y4.out.below BB2.out).c0; have f1 := (Y4.out.below BB2.out).c1; have f2 := (X1.out.below BB2.out).c0; have f3 := (X1.out.below BB2.out).c1; have f4 := (X2.out.below BB2.out).c0; have f5 := (X2.out.below BB2.out).c1; have f6 := (X0.out.below BB2.out).c0; have f7 := (X0.out.below BB2.out).c1; have f8 := (Y2.out.below BB2.out).c0; have f9 := (Y2.out.below BB2.out).c1; clear hb) | (go_at_call 26; (with_reducible refine (cmp_ok s2 false A2 none n2 c2 0 0 x2 [] z2 0 (-1) _ (S2.out.below BB2.out) (Sl.nil _) Z2.out zOf_zero D1.out).mono ?_); rintro e a3 ⟨rfl, hb⟩; have BB3 := Lib.hid (below_up BB2.out hb); have f0 := (Y4.out.below BB3.out).c0; have f1 := (Y4.out.below BB3.out).c1; have f2 := (X1.out.below BB3.out).c0; have f3 := (X1.out.below BB3.out).c1; have f4 := (X2.out.below BB3.out).c0; have f5 := (X2.out.below BB3.out).c1; have f6 := (X0.out.below BB3.out).c0; have f7 := (X0.out.below BB3.out).c1; have f8 := (Y2.out.below BB3.out).c0; have f9 := (Y2.out.below BB3.out).c1; clear hb) | (go_at_call 26; (with_reducible refine (cmp_ok true s2 U1 A2 l1' q1 n2 c2 (lOf r) x2 r z2 (1) _ (R2.out.below BB3.out) (S2.out.below BB3.out) ZR.out Z2.out D2.out).mono ?_); rintro e a4 ⟨rfl, hb⟩; have BB4 := Lib.hid (below_up BB3.out hb); have f0 := (Y4.out.below BB4.out).c0; have f1 := (Y4.out.below BB4.out).c1; have f2 := (X1.out.below BB4.out).c0; have f3 := (X1.out.below BB4.out).c1; have f4 := (X2.out.below BB4.out).c0; have f5 := (X2.out.below BB4.out).c1; have f6 := (X0.out.below BB4.out).c0; have f7 := (X0.out.below BB4.out).c1; have f8 := (Y2.out.below BB4.out).c0; have f9 := (Y2.out.below BB4.out).c1; clear hb) | (go_at_call 26; (with_reducible refine (cmp_ok s2 false A2 none n2 c2 0 0 x2 [] z2 0 (-1) _ (S2.out.below BB4.out) (Sl.nil _) Z2.out zOf_zero D1.out).mono ?_); rintro e a5 ⟨rfl, hb⟩; have BB5 := Lib.hid (below_up BB4.out hb); have f0 := (Y4.out.below BB5.out).c0; have f1 := (Y4.out.below BB5.out).c1; have f2 := (X1.out.below BB5.out).c0; have f3 := (X1.out.below BB5.out).c1; have f4 := (X2.out.below BB5.out).c0; have f5 := (X2.out.below BB5.out).c1; have f6 := (X0.out.below BB5.out).c0; have f7 := (X0.out.below BB5.out).c1; have f8 := (Y2.out.below BB5.out).c0; have f9 := (Y2.out.below BB5.out).c1; clear hb))
        all_goals
          go_wp2_with fail
          go_meet
          exact ⟨rfl, BB5.out⟩
    · have hrr := HB.1 hsg
      clear HB
      by_cases hrz : r = 0
      · have NR : nOf r = false := nOf_nonneg (by omega)
        rw [NR] at Y2
        have NRH := Lib.hid NR
        clear NR
        have D1 : Hid (cmpI z2 0 = 1) := cmpI_gt (by omega)
        have D2 : Hid (cmpI r z2 = -1) := cmpI_lt (by omega)
        have D3 : Hid (cmpI r 0 = 0) := cmpI_eq (by omega)
        have ZR : Hid (zOf false (lOf r) = r) := by
          have := zOf_lOf FR.out
          rwa [NRH.out] at this
        clear h0 hsg hrz
        have e0 := Y4.out.c0
        have e1 := Y4.out.c1
        have e2 := X1.out.c0
        have e3 := X1.out.c1
        have e4 := X2.out.c0
        have e5 := X2.out.c1
        have e6 := X0.out.c0
        have e7 := X0.out.c1
        have e8 := Y2.out.c0
        have e9 := Y2.out.c1
        refine wp_region_held_drew (S := fun w' => w'.cell? ⟨u4.heap.size, 0, none⟩ = some (.bool (nOf z1)) ∧ w'.cell? ⟨u4.heap.size, 1, none⟩ = some (.slice T4 k4 r4) ∧ w'.cell? ⟨w.heap.size, 0, none⟩ = some (.bool s1) ∧ w'.cell? ⟨w.heap.size, 1, none⟩ = some (.slice A1 n1 c1) ∧ w'.cell? ⟨w.heap.size + 1, 0, none⟩ = some (.bool s2) ∧ w'.cell? ⟨w.heap.size + 1, 1, none⟩ = some (.slice A2 n2 c2) ∧ w'.cell? ⟨v2.heap.size, 0, none⟩ = some (.bool false) ∧ w'.cell? ⟨v2.heap.size, 1, none⟩ = some (.slice none 0 0) ∧ w'.cell? ⟨u1.heap.size + 1, 0, none⟩ = some (.bool false) ∧ w'.cell? ⟨u1.heap.size + 1, 1, none⟩ = some (.slice U1 l1' q1)) (by kernel_rfl) ?_ (fun hHeld => ?_)
        · (try dsimp only)
          go_keep
        refine wpAnyH_take (i := 0) (oi := { dst := some 68, op := Op.move (Operand.tmp 8), type := 4, pos := "law.go:128", after := #[], guard := none }) (v := .bool true) rfl (by kernel_rfl) (by kernel_rfl) (by kernel_rfl) (fun _ _ _ h => h) (Or.inl ⟨by rfl, ?_⟩) (by assumption) ?_
        · intro w' hSw
          (try dsimp only at hSw)
          go_simp
          try (first | rfl | decide)
        simp only [Act.put, List.setIfInBounds_toArray, List.set_cons_zero, List.set_cons_succ]
        refine wpAnyH_take (i := 1) (oi := { dst := some 69, op := Op.unOp UnOp.not 4 (Operand.tmp 68), type := 4, pos := "law.go:128", after := #[{ on := 0, ground := Ground.data }], guard := none }) (v := .bool false) rfl (by kernel_rfl) (by kernel_rfl) (by kernel_rfl) (fun _ _ _ h => h) (Or.inl ⟨by rfl, ?_⟩) (by assumption) ?_
        · intro w' hSw
          (try dsimp only at hSw)
          go_simp
          try (first | rfl | decide)
        simp only [Act.put, List.setIfInBounds_toArray, List.set_cons_zero, List.set_cons_succ]
        refine wpAnyH_take (i := 2) (oi := { dst := some 70, op := Op.move (Operand.tmp 69), type := 4, pos := "law.go:128", after := #[{ on := 1, ground := Ground.data }], guard := none }) (v := .bool false) rfl (by kernel_rfl) (by kernel_rfl) (by kernel_rfl) (fun _ _ _ h => h) (Or.inl ⟨by rfl, ?_⟩) (by assumption) ?_
        · intro w' hSw
          (try dsimp only at hSw)
          go_simp
          try (first | rfl | decide)
        simp only [Act.put, List.setIfInBounds_toArray, List.set_cons_zero, List.set_cons_succ]
        refine wpAnyH_take (i := 3) (oi := { dst := some 71, op := Op.move (Operand.tmp 10), type := 4, pos := "law.go:128", after := #[{ on := 2, ground := Ground.guard }], guard := some (2, false) }) (v := .bool true) rfl (by kernel_rfl) (by kernel_rfl) (by kernel_rfl) (fun _ _ _ h => h) (Or.inl ⟨by rfl, ?_⟩) (by assumption) ?_
        · intro w' hSw
          (try dsimp only at hSw)
          go_simp
          try (first | rfl | decide)
        simp only [Act.put, List.setIfInBounds_toArray, List.set_cons_zero, List.set_cons_succ]
        refine wpAnyH_take (i := 4) (oi := { dst := some 72, op := Op.unOp UnOp.not 4 (Operand.tmp 71), type := 4, pos := "law.go:128", after := #[{ on := 3, ground := Ground.data }, { on := 2, ground := Ground.guard }], guard := some (2, false) }) (v := .bool false) rfl (by kernel_rfl) (by kernel_rfl) (by kernel_rfl) (fun _ _ _ h => h) (Or.inl ⟨by rfl, ?_⟩) (by assumption) ?_
        · intro w' hSw
          (try dsimp only at hSw)
          go_simp
          try (first | rfl | decide)
        simp only [Act.put, List.setIfInBounds_toArray, List.set_cons_zero, List.set_cons_succ]
        refine wpAnyH_take (i := 5) (oi := { dst := some 73, op := Op.pick (Operand.tmp 70) (Operand.const (Value.bool true)) (Operand.tmp 72), type := 4, pos := "law.go:128", after := #[{ on := 2, ground := Ground.data }, { on := 4, ground := Ground.data }], guard := none }) (v := .bool false) rfl (by kernel_rfl) (by kernel_rfl) (by kernel_rfl) (fun _ _ _ h => h) (Or.inl ⟨by rfl, ?_⟩) (by assumption) ?_
        · intro w' hSw
          (try dsimp only at hSw)
          go_simp
          try (first | rfl | decide)
        simp only [Act.put, List.setIfInBounds_toArray, List.set_cons_zero, List.set_cons_succ]
        refine wpAnyH_take (i := 6) (oi := { dst := some 74, op := Op.move (Operand.tmp 73), type := 4, pos := "law.go:128", after := #[{ on := 5, ground := Ground.data }, { on := 2, ground := Ground.chain }], guard := none }) (v := .bool false) rfl (by kernel_rfl) (by kernel_rfl) (by kernel_rfl) (fun _ _ _ h => h) (Or.inl ⟨by rfl, ?_⟩) (by assumption) ?_
        · intro w' hSw
          (try dsimp only at hSw)
          go_simp
          try (first | rfl | decide)
        simp only [Act.put, List.setIfInBounds_toArray, List.set_cons_zero, List.set_cons_succ]
        refine wpAnyH_take (i := 7) (oi := { dst := some 75, op := Op.move (Operand.tmp 12), type := 4, pos := "law.go:128", after := #[{ on := 6, ground := Ground.guard }], guard := some (6, false) }) (v := .bool true) rfl (by kernel_rfl) (by kernel_rfl) (by kernel_rfl) (fun _ _ _ h => h) (Or.inl ⟨by rfl, ?_⟩) (by assumption) ?_
        · intro w' hSw
          (try dsimp only at hSw)
          go_simp
          try (first | rfl | decide)
        simp only [Act.put, List.setIfInBounds_toArray, List.set_cons_zero, List.set_cons_succ]
        refine wpAnyH_take (i := 8) (oi := { dst := some 76, op := Op.unOp UnOp.not 4 (Operand.tmp 75), type := 4, pos := "law.go:128", after := #[{ on := 7, ground := Ground.data }, { on := 6, ground := Ground.guard }], guard := some (6, false) }) (v := .bool false) rfl (by kernel_rfl) (by kernel_rfl) (by kernel_rfl) (fun _ _ _ h => h) (Or.inl ⟨by rfl, ?_⟩) (by assumption) ?_
        · intro w' hSw
          (try dsimp only at hSw)
          go_simp
          try (first | rfl | decide)
        simp only [Act.put, List.setIfInBounds_toArray, List.set_cons_zero, List.set_cons_succ]
        refine wpAnyH_take (i := 9) (oi := { dst := some 77, op := Op.pick (Operand.tmp 74) (Operand.const (Value.bool true)) (Operand.tmp 76), type := 4, pos := "law.go:128", after := #[{ on := 6, ground := Ground.data }, { on := 8, ground := Ground.data }], guard := none }) (v := .bool false) rfl (by kernel_rfl) (by kernel_rfl) (by kernel_rfl) (fun _ _ _ h => h) (Or.inl ⟨by rfl, ?_⟩) (by assumption) ?_
        · intro w' hSw
          (try dsimp only at hSw)
          go_simp
          try (first | rfl | decide)
        simp only [Act.put, List.setIfInBounds_toArray, List.set_cons_zero, List.set_cons_succ]
        refine wpAnyH_take (i := 10) (oi := { dst := some 78, op := Op.move (Operand.tmp 77), type := 4, pos := "law.go:128", after := #[{ on := 9, ground := Ground.data }, { on := 6, ground := Ground.chain }], guard := none }) (v := .bool false) rfl (by kernel_rfl) (by kernel_rfl) (by kernel_rfl) (fun _ _ _ h => h) (Or.inl ⟨by rfl, ?_⟩) (by assumption) ?_
        · intro w' hSw
          (try dsimp only at hSw)
          go_simp
          try (first | rfl | decide)
        simp only [Act.put, List.setIfInBounds_toArray, List.set_cons_zero, List.set_cons_succ]
        refine wpAnyH_take (i := 11) (oi := { dst := some 79, op := Op.load 24 (Operand.tmp 11), type := 24, pos := "law.go:128", after := #[{ on := 10, ground := Ground.guard }], guard := some (10, false) }) (v := .agg #[.bool (nOf z1), .slice T4 k4 r4]) rfl (by kernel_rfl) (by kernel_rfl) (by kernel_rfl) (fun _ _ _ h => h) (Or.inl ⟨by rfl, ?_⟩) (by assumption) ?_
        · intro w' hSw
          (try dsimp only at hSw)
          go_simp
          try (first | rfl | decide)
        simp only [Act.put, List.setIfInBounds_toArray, List.set_cons_zero, List.set_cons_succ]
        refine wpAnyH_take (i := 12) (oi := { dst := some 80, op := Op.load 24 (Operand.tmp 2), type := 24, pos := "law.go:128", after := #[{ on := 10, ground := Ground.guard }], guard := some (10, false) }) (v := .agg #[.bool s1, .slice A1 n1 c1]) rfl (by kernel_rfl) (by kernel_rfl) (by kernel_rfl) (fun _ _ _ h => h) (Or.inl ⟨by rfl, ?_⟩) (by assumption) ?_
        · intro w' hSw
          (try dsimp only at hSw)
          go_simp
          try (first | rfl | decide)
        simp only [Act.put, List.setIfInBounds_toArray, List.set_cons_zero, List.set_cons_succ]
        refine wpAnyH_ready (rs := [13]) (by kernel_rfl) (by simp) ?_
        refine AllReadyH.cons (o := { dst := some 81, op := Op.call { callee := Callee.value (Operand.func 26), args := #[Operand.tmp 79, Operand.tmp 80], argTypes := #[24, 24] }, type := 3, pos := "law.go:128", after := #[{ on := 11, ground := Ground.data }, { on := 12, ground := Ground.data }, { on := 10, ground := Ground.chain }, { on := 10, ground := Ground.guard }], guard := some (10, false) }) rfl (fun K hK => ?_) AllReadyH.nil
        go_simp
        (with_reducible refine (cmp_ok (nOf z1) s1 T4 A1 k4 r4 n1 c1 (lOf z1) x1 z1 z1 0 _ (by first | exact R4.out | exact R4.out.drew) (by first | exact S1.out | exact S1.out.drew) (zOf_lOf F1.out) Z1.out (cmp_self z1)).mono ?_)
        rintro e a1 ⟨rfl, hb⟩
        have BB1 := Lib.hid (show Below V4.heap.size V4 a1 from (by first | exact hb | exact (Below.refl _ _).drew.trans (hb.mono (Nat.le_refl _))))
        have f0 := (Y4.out.below BB1.out).c0
        have f1 := (Y4.out.below BB1.out).c1
        have f2 := (X1.out.below BB1.out).c0
        have f3 := (X1.out.below BB1.out).c1
        have f4 := (X2.out.below BB1.out).c0
        have f5 := (X2.out.below BB1.out).c1
        have f6 := (X0.out.below BB1.out).c0
        have f7 := (X0.out.below BB1.out).c1
        have f8 := (Y2.out.below BB1.out).c0
        have f9 := (Y2.out.below BB1.out).c1
        clear hb
        go_wp2_with fail
        refine hK.out _ _ ?_ (fun hHeld => ?_)
        · (try dsimp only)
          go_keep
        clear hK K
        try simp only [Act.put, List.setIfInBounds_toArray, List.set_cons_zero, List.set_cons_succ]
        refine wpAnyH_take (i := 14) (oi := { dst := some 82, op := Op.binOp BinOp.neq 3 (Operand.tmp 81) (Operand.const (Value.int IntKind.i64 0)) 3, type := 4, pos := "law.go:128", after := #[{ on := 13, ground := Ground.data }, { on := 10, ground := Ground.guard }], guard := some (10, false) }) (v := .bool false) rfl (by kernel_rfl) (by kernel_rfl) (by kernel_rfl) (fun _ _ _ h => h) (Or.inl ⟨by rfl, ?_⟩) (by assumption) ?_
        · intro w' hSw
          (try dsimp only at hSw)
          go_simp
          try (first | rfl | decide)
        simp only [Act.put, List.setIfInBounds_toArray, List.set_cons_zero, List.set_cons_succ]
        refine wpAnyH_take (i := 15) (oi := { dst := some 83, op := Op.pick (Operand.tmp 78) (Operand.const (Value.bool true)) (Operand.tmp 82), type := 4, pos := "law.go:128", after := #[{ on := 10, ground := Ground.data }, { on := 14, ground := Ground.data }], guard := none }) (v := .bool false) rfl (by kernel_rfl) (by kernel_rfl) (by kernel_rfl) (fun _ _ _ h => h) (Or.inl ⟨by rfl, ?_⟩) (by assumption) ?_
        · intro w' hSw
          (try dsimp only at hSw)
          go_simp
          try (first | rfl | decide)
        simp only [Act.put, List.setIfInBounds_toArray, List.set_cons_zero, List.set_cons_succ]
        refine wpAnyH_take (i := 16) (oi := { dst := some 84, op := Op.move (Operand.tmp 83), type := 4, pos := "law.go:128", after := #[{ on := 15, ground := Ground.data }, { on := 13, ground := Ground.chain }], guard := none }) (v := .bool false) rfl (by kernel_rfl) (by kernel_rfl) (by kernel_rfl) (fun _ _ _ h => h) (Or.inl ⟨by rfl, ?_⟩) (by assumption) ?_
        · intro w' hSw
          (try dsimp only at hSw)
          go_simp
          try (first | rfl | decide)
        simp only [Act.put, List.setIfInBounds_toArray, List.set_cons_zero, List.set_cons_succ]
        refine wpAnyH_take (i := 17) (oi := { dst := some 85, op := Op.load 24 (Operand.tmp 7), type := 24, pos := "law.go:128", after := #[{ on := 16, ground := Ground.guard }], guard := some (16, false) }) (v := .agg #[.bool false, .slice U1 l1' q1]) rfl (by kernel_rfl) (by kernel_rfl) (by kernel_rfl) (fun _ _ _ h => h) (Or.inl ⟨by rfl, ?_⟩) (by assumption) ?_
        · intro w' hSw
          (try dsimp only at hSw)
          go_simp
          try (first | rfl | decide)
        simp only [Act.put, List.setIfInBounds_toArray, List.set_cons_zero, List.set_cons_succ]
        refine wpAnyH_take (i := 18) (oi := { dst := some 86, op := Op.load 24 (Operand.tmp 5), type := 24, pos := "law.go:128", after := #[{ on := 16, ground := Ground.guard }], guard := some (16, false) }) (v := .agg #[.bool false, .slice none 0 0]) rfl (by kernel_rfl) (by kernel_rfl) (by kernel_rfl) (fun _ _ _ h => h) (Or.inl ⟨by rfl, ?_⟩) (by assumption) ?_
        · intro w' hSw
          (try dsimp only at hSw)
          go_simp
          try (first | rfl | decide)
        simp only [Act.put, List.setIfInBounds_toArray, List.set_cons_zero, List.set_cons_succ]
        refine wpAnyH_ready (rs := [19]) (by kernel_rfl) (by simp) ?_
        refine AllReadyH.cons (o := { dst := some 87, op := Op.call { callee := Callee.value (Operand.func 26), args := #[Operand.tmp 85, Operand.tmp 86], argTypes := #[24, 24] }, type := 3, pos := "law.go:128", after := #[{ on := 17, ground := Ground.data }, { on := 18, ground := Ground.data }, { on := 16, ground := Ground.chain }, { on := 16, ground := Ground.guard }], guard := some (16, false) }) rfl (fun K hK => ?_) AllReadyH.nil
        go_simp
        (with_reducible refine (cmp_ok false false U1 none l1' q1 0 0 (lOf r) [] r 0 (0) _ (R2.out.below BB1.out) (Sl.nil _) ZR.out zOf_zero D3.out).mono ?_)
        rintro e a2 ⟨rfl, hb⟩
        have BB2 := Lib.hid (below_up BB1.out hb)
        have f0 := (Y4.out.below BB2.out).c0
        have f1 := (Y4.out.below BB2.out).c1
        have f2 := (X1.out.below BB2.out).c0
        have f3 := (X1.out.below BB2.out).c1
        have f4 := (X2.out.below BB2.out).c0
        have f5 := (X2.out.below BB2.out).c1
        have f6 := (X0.out.below BB2.out).c0
        have f7 := (X0.out.below BB2.out).c1
        have f8 := (Y2.out.below BB2.out).c0
        have f9 := (Y2.out.below BB2.out).c1
        clear hb
        go_wp2_with fail
        refine hK.out _ _ ?_ (fun hHeld => ?_)
        · (try dsimp only)
          go_keep
        clear hK K
        try simp only [Act.put, List.setIfInBounds_toArray, List.set_cons_zero, List.set_cons_succ]
        refine wpAnyH_take (i := 20) (oi := { dst := some 88, op := Op.binOp BinOp.neq 3 (Operand.tmp 87) (Operand.const (Value.int IntKind.i64 0)) 3, type := 4, pos := "law.go:128", after := #[{ on := 19, ground := Ground.data }, { on := 16, ground := Ground.guard }], guard := some (16, false) }) (v := .bool false) rfl (by kernel_rfl) (by kernel_rfl) (by kernel_rfl) (fun _ _ _ h => h) (Or.inl ⟨by rfl, ?_⟩) (by assumption) ?_
        · intro w' hSw
          (try dsimp only at hSw)
          go_simp
          try (first | rfl | decide)
        simp only [Act.put, List.setIfInBounds_toArray, List.set_cons_zero, List.set_cons_succ]
        refine wpAnyH_take (i := 21) (oi := { dst := some 89, op := Op.move (Operand.tmp 88), type := 4, pos := "law.go:128", after := #[{ on := 20, ground := Ground.data }, { on := 19, ground := Ground.chain }, { on := 16, ground := Ground.guard }], guard := some (16, false) }) (v := .bool false) rfl (by kernel_rfl) (by kernel_rfl) (by kernel_rfl) (fun _ _ _ h => h) (Or.inl ⟨by rfl, ?_⟩) (by assumption) ?_
        · intro w' hSw
          (try dsimp only at hSw)
          go_simp
          try (first | rfl | decide)
        simp only [Act.put, List.setIfInBounds_toArray, List.set_cons_zero, List.set_cons_succ]
        refine wpAnyH_take (i := 22) (oi := { dst := some 90, op := Op.fieldAddr 24 (Operand.tmp 7) 0, type := 0, pos := "law.go:128", after := #[{ on := 21, ground := Ground.guard }], guard := some (21, true) }) (v := undef) rfl (by kernel_rfl) (by kernel_rfl) (by kernel_rfl) (fun _ _ _ h => h) (Or.inr ⟨by rfl, rfl⟩) (by assumption) ?_
        simp only [Act.put, List.setIfInBounds_toArray, List.set_cons_zero, List.set_cons_succ]
        refine wpAnyH_take (i := 23) (oi := { dst := some 91, op := Op.load 4 (Operand.tmp 90), type := 4, pos := "law.go:128", after := #[{ on := 22, ground := Ground.data }, { on := 21, ground := Ground.guard }], guard := some (21, true) }) (v := undef) rfl (by kernel_rfl) (by kernel_rfl) (by kernel_rfl) (fun _ _ _ h => h) (Or.inr ⟨by rfl, rfl⟩) (by assumption) ?_
        simp only [Act.put, List.setIfInBounds_toArray, List.set_cons_zero, List.set_cons_succ]
        refine wpAnyH_take (i := 24) (oi := { dst := some 92, op := Op.load 24 (Operand.tmp 3), type := 24, pos := "law.go:128", after := #[{ on := 21, ground := Ground.guard }], guard := some (21, true) }) (v := undef) rfl (by kernel_rfl) (by kernel_rfl) (by kernel_rfl) (fun _ _ _ h => h) (Or.inr ⟨by rfl, rfl⟩) (by assumption) ?_
        simp only [Act.put, List.setIfInBounds_toArray, List.set_cons_zero, List.set_cons_succ]
        refine wpAnyH_take (i := 25) (oi := { dst := some 93, op := Op.load 24 (Operand.tmp 5), type := 24, pos := "law.go:128", after := #[{ on := 21, ground := Ground.guard }], guard := some (21, true) }) (v := undef) rfl (by kernel_rfl) (by kernel_rfl) (by kernel_rfl) (fun _ _ _ h => h) (Or.inr ⟨by rfl, rfl⟩) (by assumption) ?_
        simp only [Act.put, List.setIfInBounds_toArray, List.set_cons_zero, List.set_cons_succ]
        refine wpAnyH_take (i := 26) (oi := { dst := some 94, op := Op.call { callee := Callee.value (Operand.func 26), args := #[Operand.tmp 92, Operand.tmp 93], argTypes := #[24, 24] }, type := 3, pos := "law.go:128", after := #[{ on := 24, ground := Ground.data }, { on := 25, ground := Ground.data }, { on := 21, ground := Ground.chain }, { on := 21, ground := Ground.guard }], guard := some (21, true) }) (v := undef) rfl (by kernel_rfl) (by kernel_rfl) (by kernel_rfl) (fun _ _ _ h => h) (Or.inr ⟨by rfl, rfl⟩) (by assumption) ?_
        simp only [Act.put, List.setIfInBounds_toArray, List.set_cons_zero, List.set_cons_succ]
        refine wpAnyH_take (i := 27) (oi := { dst := some 95, op := Op.binOp BinOp.lss 3 (Operand.tmp 94) (Operand.const (Value.int IntKind.i64 0)) 3, type := 4, pos := "law.go:128", after := #[{ on := 26, ground := Ground.data }, { on := 21, ground := Ground.guard }], guard := some (21, true) }) (v := undef) rfl (by kernel_rfl) (by kernel_rfl) (by kernel_rfl) (fun _ _ _ h => h) (Or.inr ⟨by rfl, rfl⟩) (by assumption) ?_
        simp only [Act.put, List.setIfInBounds_toArray, List.set_cons_zero, List.set_cons_succ]
        refine wpAnyH_take (i := 28) (oi := { dst := some 96, op := Op.binOp BinOp.neq 4 (Operand.tmp 91) (Operand.tmp 95) 4, type := 4, pos := "law.go:128", after := #[{ on := 23, ground := Ground.data }, { on := 27, ground := Ground.data }, { on := 21, ground := Ground.guard }], guard := some (21, true) }) (v := undef) rfl (by kernel_rfl) (by kernel_rfl) (by kernel_rfl) (fun _ _ _ h => h) (Or.inr ⟨by rfl, rfl⟩) (by assumption) ?_
        simp only [Act.put, List.setIfInBounds_toArray, List.set_cons_zero, List.set_cons_succ]
        refine wpAnyH_take (i := 29) (oi := { dst := some 97, op := Op.pick (Operand.tmp 89) (Operand.tmp 96) (Operand.const (Value.bool false)), type := 4, pos := "law.go:128", after := #[{ on := 21, ground := Ground.data }, { on := 28, ground := Ground.data }, { on := 16, ground := Ground.guard }], guard := some (16, false) }) (v := .bool false) rfl (by kernel_rfl) (by kernel_rfl) (by kernel_rfl) (fun _ _ _ h => h) (Or.inl ⟨by rfl, ?_⟩) (by assumption) ?_
        · intro w' hSw
          (try dsimp only at hSw)
          go_simp
          try (first | rfl | decide)
        simp only [Act.put, List.setIfInBounds_toArray, List.set_cons_zero, List.set_cons_succ]
        refine wpAnyH_take (i := 30) (oi := { dst := some 98, op := Op.pick (Operand.tmp 84) (Operand.const (Value.bool true)) (Operand.tmp 97), type := 4, pos := "law.go:128", after := #[{ on := 16, ground := Ground.data }, { on := 29, ground := Ground.data }], guard := none }) (v := .bool false) rfl (by kernel_rfl) (by kernel_rfl) (by kernel_rfl) (fun _ _ _ h => h) (Or.inl ⟨by rfl, ?_⟩) (by assumption) ?_
        · intro w' hSw
          (try dsimp only at hSw)
          go_simp
          try (first | rfl | decide)
        simp only [Act.put, List.setIfInBounds_toArray, List.set_cons_zero, List.set_cons_succ]
        refine wpAnyH_take (i := 31) (oi := { dst := some 99, op := Op.move (Operand.tmp 98), type := 4, pos := "law.go:128", after := #[{ on := 30, ground := Ground.data }, { on := 26, ground := Ground.chain }], guard := none }) (v := .bool false) rfl (by kernel_rfl) (by kernel_rfl) (by kernel_rfl) (fun _ _ _ h => h) (Or.inl ⟨by rfl, ?_⟩) (by assumption) ?_
        · intro w' hSw
          (try dsimp only at hSw)
          go_simp
          try (first | rfl | decide)
        simp only [Act.put, List.setIfInBounds_toArray, List.set_cons_zero, List.set_cons_succ]
        refine wpAnyH_take (i := 32) (oi := { dst := some 100, op := Op.load 24 (Operand.tmp 7), type := 24, pos := "law.go:128", after := #[{ on := 31, ground := Ground.guard }], guard := some (31, false) }) (v := .agg #[.bool false, .slice U1 l1' q1]) rfl (by kernel_rfl) (by kernel_rfl) (by kernel_rfl) (fun _ _ _ h => h) (Or.inl ⟨by rfl, ?_⟩) (by assumption) ?_
        · intro w' hSw
          (try dsimp only at hSw)
          go_simp
          try (first | rfl | decide)
        simp only [Act.put, List.setIfInBounds_toArray, List.set_cons_zero, List.set_cons_succ]
        refine wpAnyH_take (i := 33) (oi := { dst := some 101, op := Op.load 24 (Operand.tmp 3), type := 24, pos := "law.go:128", after := #[{ on := 31, ground := Ground.guard }], guard := some (31, false) }) (v := .agg #[.bool s2, .slice A2 n2 c2]) rfl (by kernel_rfl) (by kernel_rfl) (by kernel_rfl) (fun _ _ _ h => h) (Or.inl ⟨by rfl, ?_⟩) (by assumption) ?_
        · intro w' hSw
          (try dsimp only at hSw)
          go_simp
          try (first | rfl | decide)
        simp only [Act.put, List.setIfInBounds_toArray, List.set_cons_zero, List.set_cons_succ]
        refine wpAnyH_take (i := 35) (oi := { dst := some 103, op := Op.load 24 (Operand.tmp 3), type := 24, pos := "law.go:128", after := #[{ on := 31, ground := Ground.guard }], guard := some (31, false) }) (v := .agg #[.bool s2, .slice A2 n2 c2]) rfl (by kernel_rfl) (by kernel_rfl) (by kernel_rfl) (fun _ _ _ h => h) (Or.inl ⟨by rfl, ?_⟩) (by assumption) ?_
        · intro w' hSw
          (try dsimp only at hSw)
          go_simp
          try (first | rfl | decide)
        simp only [Act.put, List.setIfInBounds_toArray, List.set_cons_zero, List.set_cons_succ]
        refine wpAnyH_take (i := 36) (oi := { dst := some 104, op := Op.load 24 (Operand.tmp 5), type := 24, pos := "law.go:128", after := #[{ on := 31, ground := Ground.guard }], guard := some (31, false) }) (v := .agg #[.bool false, .slice none 0 0]) rfl (by kernel_rfl) (by kernel_rfl) (by kernel_rfl) (fun _ _ _ h => h) (Or.inl ⟨by rfl, ?_⟩) (by assumption) ?_
        · intro w' hSw
          (try dsimp only at hSw)
          go_simp
          try (first | rfl | decide)
        simp only [Act.put, List.setIfInBounds_toArray, List.set_cons_zero, List.set_cons_succ]
        refine wpAnyH_ready (rs := [34]) (by kernel_rfl) (by simp) ?_
        refine AllReadyH.cons (o := { dst := some 102, op := Op.call { callee := Callee.value (Operand.func 26), args := #[Operand.tmp 100, Operand.tmp 101], argTypes := #[24, 24] }, type := 3, pos := "law.go:128", after := #[{ on := 32, ground := Ground.data }, { on := 33, ground := Ground.data }, { on := 31, ground := Ground.chain }, { on := 31, ground := Ground.guard }], guard := some (31, false) }) rfl (fun K hK => ?_) AllReadyH.nil
        go_simp
        (with_reducible refine (cmp_ok false s2 U1 A2 l1' q1 n2 c2 (lOf r) x2 r z2 (-1) _ (R2.out.below BB2.out) (S2.out.below BB2.out) ZR.out Z2.out D2.out).mono ?_)
        rintro e a3 ⟨rfl, hb⟩
        have BB3 := Lib.hid (below_up BB2.out hb)
        have f0 := (Y4.out.below BB3.out).c0
        have f1 := (Y4.out.below BB3.out).c1
        have f2 := (X1.out.below BB3.out).c0
        have f3 := (X1.out.below BB3.out).c1
        have f4 := (X2.out.below BB3.out).c0
        have f5 := (X2.out.below BB3.out).c1
        have f6 := (X0.out.below BB3.out).c0
        have f7 := (X0.out.below BB3.out).c1
        have f8 := (Y2.out.below BB3.out).c0
        have f9 := (Y2.out.below BB3.out).c1
        clear hb
        go_wp2_with fail
        refine hK.out _ _ ?_ (fun hHeld => ?_)
        · (try dsimp only)
          go_keep
        clear hK K
        try simp only [Act.put, List.setIfInBounds_toArray, List.set_cons_zero, List.set_cons_succ]
        refine wpAnyH_ready (rs := [37]) (by kernel_rfl) (by simp) ?_
        refine AllReadyH.cons (o := { dst := some 105, op := Op.call { callee := Callee.value (Operand.func 26), args := #[Operand.tmp 103, Operand.tmp 104], argTypes := #[24, 24] }, type := 3, pos := "law.go:128", after := #[{ on := 35, ground := Ground.data }, { on := 36, ground := Ground.data }, { on := 34, ground := Ground.chain }, { on := 31, ground := Ground.guard }], guard := some (31, false) }) rfl (fun K hK => ?_) AllReadyH.nil
        go_simp
        (with_reducible refine (cmp_ok s2 false A2 none n2 c2 0 0 x2 [] z2 0 (1) _ (S2.out.below BB3.out) (Sl.nil _) Z2.out zOf_zero D1.out).mono ?_)
        rintro e a4 ⟨rfl, hb⟩
        have BB4 := Lib.hid (below_up BB3.out hb)
        have f0 := (Y4.out.below BB4.out).c0
        have f1 := (Y4.out.below BB4.out).c1
        have f2 := (X1.out.below BB4.out).c0
        have f3 := (X1.out.below BB4.out).c1
        have f4 := (X2.out.below BB4.out).c0
        have f5 := (X2.out.below BB4.out).c1
        have f6 := (X0.out.below BB4.out).c0
        have f7 := (X0.out.below BB4.out).c1
        have f8 := (Y2.out.below BB4.out).c0
        have f9 := (Y2.out.below BB4.out).c1
        clear hb
        go_wp2_with fail
        refine hK.out _ _ ?_ (fun hHeld => ?_)
        · (try dsimp only)
          go_keep
        clear hK K
        try simp only [Act.put, List.setIfInBounds_toArray, List.set_cons_zero, List.set_cons_succ]
        refine wpAnyH_take (i := 38) (oi := { dst := some 106, op := Op.unOp UnOp.neg 3 (Operand.tmp 105), type := 3, pos := "law.go:128", after := #[{ on := 37, ground := Ground.data }, { on := 31, ground := Ground.guard }], guard := some (31, false) }) (v := .int .i64 (-1)) rfl (by kernel_rfl) (by kernel_rfl) (by kernel_rfl) (fun _ _ _ h => h) (Or.inl ⟨by rfl, ?_⟩) (by assumption) ?_
        · intro w' hSw
          (try dsimp only at hSw)
          go_simp
          try (first | rfl | decide)
        simp only [Act.put, List.setIfInBounds_toArray, List.set_cons_zero, List.set_cons_succ]
        refine wpAnyH_take (i := 39) (oi := { dst := some 107, op := Op.binOp BinOp.neq 3 (Operand.tmp 102) (Operand.tmp 106) 3, type := 4, pos := "law.go:128", after := #[{ on := 34, ground := Ground.data }, { on := 38, ground := Ground.data }, { on := 31, ground := Ground.guard }], guard := some (31, false) }) (v := .bool false) rfl (by kernel_rfl) (by kernel_rfl) (by kernel_rfl) (fun _ _ _ h => h) (Or.inl ⟨by rfl, ?_⟩) (by assumption) ?_
        · intro w' hSw
          (try dsimp only at hSw)
          go_simp
          try (first | rfl | decide)
        simp only [Act.put, List.setIfInBounds_toArray, List.set_cons_zero, List.set_cons_succ]
        refine wpAnyH_take (i := 40) (oi := { dst := some 108, op := Op.pick (Operand.tmp 99) (Operand.const (Value.bool true)) (Operand.tmp 107), type := 4, pos := "law.go:128", after := #[{ on := 31, ground := Ground.data }, { on := 39, ground := Ground.data }], guard := none }) (v := .bool false) rfl (by kernel_rfl) (by kernel_rfl) (by kernel_rfl) (fun _ _ _ h => h) (Or.inl ⟨by rfl, ?_⟩) (by assumption) ?_
        · intro w' hSw
          (try dsimp only at hSw)
          go_simp
          try (first | rfl | decide)
        simp only [Act.put, List.setIfInBounds_toArray, List.set_cons_zero, List.set_cons_succ]
        refine wpAnyH_done (by kernel_rfl) ?_ _
        go_wp2_with fail
        go_meet
        exact ⟨rfl, BB4.out⟩
      · have NR : nOf r = false := nOf_nonneg (by omega)
        rw [NR] at Y2
        have NRH := Lib.hid NR
        clear NR
        have D1 : Hid (cmpI z2 0 = 1) := cmpI_gt (by omega)
        have D2 : Hid (cmpI r z2 = -1) := cmpI_lt (by omega)
        have D3 : Hid (cmpI r 0 = 1) := cmpI_gt (by omega)
        have ZR : Hid (zOf false (lOf r) = r) := by
          have := zOf_lOf FR.out
          rwa [NRH.out] at this
        clear h0 hsg hrz
        have e0 := Y4.out.c0
        have e1 := Y4.out.c1
        have e2 := X1.out.c0
        have e3 := X1.out.c1
        have e4 := X2.out.c0
        have e5 := X2.out.c1
        have e6 := X0.out.c0
        have e7 := X0.out.c1
        have e8 := Y2.out.c0
        have e9 := Y2.out.c1
        go_region_held3 (fun w' => w'.cell? ⟨u4.heap.size, 0, none⟩ = some (.bool (nOf z1)) ∧ w'.cell? ⟨u4.heap.size, 1, none⟩ = some (.slice T4 k4 r4) ∧ w'.cell? ⟨w.heap.size, 0, none⟩ = some (.bool s1) ∧ w'.cell? ⟨w.heap.size, 1, none⟩ = some (.slice A1 n1 c1) ∧ w'.cell? ⟨w.heap.size + 1, 0, none⟩ = some (.bool s2) ∧ w'.cell? ⟨w.heap.size + 1, 1, none⟩ = some (.slice A2 n2 c2) ∧ w'.cell? ⟨v2.heap.size, 0, none⟩ = some (.bool false) ∧ w'.cell? ⟨v2.heap.size, 1, none⟩ = some (.slice none 0 0) ∧ w'.cell? ⟨u1.heap.size + 1, 0, none⟩ = some (.bool false) ∧ w'.cell? ⟨u1.heap.size + 1, 1, none⟩ = some (.slice U1 l1' q1)) (go_keep)
          (first | (go_at_call 26; (with_reducible refine (cmp_ok (nOf z1) s1 T4 A1 k4 r4 n1 c1 (lOf z1) x1 z1 z1 0 _ (by first | exact R4.out | exact R4.out.drew) (by first | exact S1.out | exact S1.out.drew) (zOf_lOf F1.out) Z1.out (cmp_self z1)).mono ?_); rintro e a1 ⟨rfl, hb⟩; have BB1 := Lib.hid (show Below V4.heap.size V4 a1 from (by first | exact hb | exact (Below.refl _ _).drew.trans (hb.mono (Nat.le_refl _)))); have f0 := (Y4.out.below BB1.out).c0; have f1 := (Y4.out.below BB1.out).c1; have f2 := (X1.out.below BB1.out).c0; have f3 := (X1.out.below BB1.out).c1; have f4 := (X2.out.below BB1.out).c0; have f5 := (X2.out.below BB1.out).c1; have f6 := (X0.out.below BB1.out).c0; have f7 := (X0.out.below BB1.out).c1; have f8 := (Y2.out.below BB1.out).c0; have f9 := (Y2.out.below BB1.out).c1; clear hb) | (go_at_call 26; (with_reducible refine (cmp_ok false false U1 none l1' q1 0 0 (lOf r) [] r 0 (1) _ (R2.out.below BB1.out) (Sl.nil _) ZR.out zOf_zero D3.out).mono ?_); rintro e a2 ⟨rfl, hb⟩; have BB2 := Lib.hid (below_up BB1.out hb); have f0 := (Y4.out.below BB2.out).c0; have f1 := (Y4.out.below BB2.out).c1; have f2 := (X1.out.below BB2.out).c0; have f3 := (X1.out.below BB2.out).c1; have f4 := (X2.out.below BB2.out).c0; have f5 := (X2.out.below BB2.out).c1; have f6 := (X0.out.below BB2.out).c0; have f7 := (X0.out.below BB2.out).c1; have f8 := (Y2.out.below BB2.out).c0; have f9 := (Y2.out.below BB2.out).c1; clear hb) | (go_at_call 26; (with_reducible refine (cmp_ok s2 false A2 none n2 c2 0 0 x2 [] z2 0 (1) _ (S2.out.below BB2.out) (Sl.nil _) Z2.out zOf_zero D1.out).mono ?_); rintro e a3 ⟨rfl, hb⟩; have BB3 := Lib.hid (below_up BB2.out hb); have f0 := (Y4.out.below BB3.out).c0; have f1 := (Y4.out.below BB3.out).c1; have f2 := (X1.out.below BB3.out).c0; have f3 := (X1.out.below BB3.out).c1; have f4 := (X2.out.below BB3.out).c0; have f5 := (X2.out.below BB3.out).c1; have f6 := (X0.out.below BB3.out).c0; have f7 := (X0.out.below BB3.out).c1; have f8 := (Y2.out.below BB3.out).c0; have f9 := (Y2.out.below BB3.out).c1; clear hb) | (go_at_call 26; (with_reducible refine (cmp_ok false s2 U1 A2 l1' q1 n2 c2 (lOf r) x2 r z2 (-1) _ (R2.out.below BB3.out) (S2.out.below BB3.out) ZR.out Z2.out D2.out).mono ?_); rintro e a4 ⟨rfl, hb⟩; have BB4 := Lib.hid (below_up BB3.out hb); have f0 := (Y4.out.below BB4.out).c0; have f1 := (Y4.out.below BB4.out).c1; have f2 := (X1.out.below BB4.out).c0; have f3 := (X1.out.below BB4.out).c1; have f4 := (X2.out.below BB4.out).c0; have f5 := (X2.out.below BB4.out).c1; have f6 := (X0.out.below BB4.out).c0; have f7 := (X0.out.below BB4.out).c1; have f8 := (Y2.out.below BB4.out).c0; have f9 := (Y2.out.below BB4.out).c1; clear hb) | (go_at_call 26; (with_reducible refine (cmp_ok s2 false A2 none n2 c2 0 0 x2 [] z2 0 (1) _ (S2.out.below BB4.out) (Sl.nil _) Z2.out zOf_zero D1.out).mono ?_); rintro e a5 ⟨rfl, hb⟩; have BB5 := Lib.hid (below_up BB4.out hb); have f0 := (Y4.out.below BB5.out).c0; have f1 := (Y4.out.below BB5.out).c1; have f2 := (X1.out.below BB5.out).c0; have f3 := (X1.out.below BB5.out).c1; have f4 := (X2.out.below BB5.out).c0; have f5 := (X2.out.below BB5.out).c1; have f6 := (X0.out.below BB5.out).c0; have f7 := (X0.out.below BB5.out).c1; have f8 := (Y2.out.below BB5.out).c0; have f9 := (Y2.out.below BB5.out).c1; clear hb))
        all_goals
          go_wp2_with fail
          go_meet
          exact ⟨rfl, BB5.out⟩
  case rest =>
    obtain ⟨rfl, hb⟩ := hcut
    have S1 := Lib.hid (S1.out.below hb)
    have S2 := Lib.hid (S2.out.below hb)
    have X1 := Lib.hid (X1.out.below hb)
    have X2 := Lib.hid (X2.out.below hb)
    have X0 := Lib.hid (X0.out.below hb)
    have R1 := Lib.hid (R1.out.below hb)
    have R2 := Lib.hid (R2.out.below hb)
    have Y1 := Lib.hid (Y1.out.below hb)
    have Y2 := Lib.hid (Y2.out.below hb)
    have R3 := Lib.hid (R3.out.below hb)
    have Y3 := Lib.hid (Y3.out.below hb)
    have R4 := Lib.hid (R4.out.below hb)
    have Y4 := Lib.hid (Y4.out.below hb)
    have TB := Lib.hid (tab_on TB.out hb)
    have BW := Lib.hid (below_on BW.out hb)
    clear hb
    have e0 := X1.out.c0
    have e1 := X1.out.c1
    have e2 := X2.out.c0
    have e3 := X2.out.c1
    go_wp2_with fail
    (refine (gcd_ok _ _ _ _ _ _ _ _ x1 x2 z1 z2 g _ S1.out S2.out Z1.out Z2.out HG.out).mono ?_; rintro e u5 ⟨T5, k5, r5, rfl, hs, hb⟩)
    clear e0 e1 e2 e3
    have S1 := Lib.hid (S1.out.below hb)
    have S2 := Lib.hid (S2.out.below hb)
    have X1 := Lib.hid (X1.out.below hb)
    have X2 := Lib.hid (X2.out.below hb)
    have X0 := Lib.hid (X0.out.below hb)
    have R1 := Lib.hid (R1.out.below hb)
    have R2 := Lib.hid (R2.out.below hb)
    have Y1 := Lib.hid (Y1.out.below hb)
    have Y2 := Lib.hid (Y2.out.below hb)
    have R3 := Lib.hid (R3.out.below hb)
    have Y3 := Lib.hid (Y3.out.below hb)
    have R4 := Lib.hid (R4.out.below hb)
    have Y4 := Lib.hid (Y4.out.below hb)
    have TB := Lib.hid (tab_on TB.out hb)
    have BW := Lib.hid (below_on BW.out hb)
    clear hb
    have R5 := Lib.hid hs
    clear hs
    go_upto_region 12 with fail
    have S1 := Lib.hid (S1.out.alloc (.cells #[.bool (nOf g), .slice T5 k5 r5] 24))
    have S2 := Lib.hid (S2.out.alloc (.cells #[.bool (nOf g), .slice T5 k5 r5] 24))
    have X1 := Lib.hid (X1.out.alloc (.cells #[.bool (nOf g), .slice T5 k5 r5] 24))
    have X2 := Lib.hid (X2.out.alloc (.cells #[.bool (nOf g), .slice T5 k5 r5] 24))
    have X0 := Lib.hid (X0.out.alloc (.cells #[.bool (nOf g), .slice T5 k5 r5] 24))
    have R1 := Lib.hid (R1.out.alloc (.cells #[.bool (nOf g), .slice T5 k5 r5] 24))
    have R2 := Lib.hid (R2.out.alloc (.cells #[.bool (nOf g), .slice T5 k5 r5] 24))
    have Y1 := Lib.hid (Y1.out.alloc (.cells #[.bool (nOf g), .slice T5 k5 r5] 24))
    have Y2 := Lib.hid (Y2.out.alloc (.cells #[.bool (nOf g), .slice T5 k5 r5] 24))
    have R3 := Lib.hid (R3.out.alloc (.cells #[.bool (nOf g), .slice T5 k5 r5] 24))
    have Y3 := Lib.hid (Y3.out.alloc (.cells #[.bool (nOf g), .slice T5 k5 r5] 24))
    have R4 := Lib.hid (R4.out.alloc (.cells #[.bool (nOf g), .slice T5 k5 r5] 24))
    have Y4 := Lib.hid (Y4.out.alloc (.cells #[.bool (nOf g), .slice T5 k5 r5] 24))
    have R5 := Lib.hid (R5.out.alloc (.cells #[.bool (nOf g), .slice T5 k5 r5] 24))
    have Y5 := Lib.hid (Bx.new u5 (.bool (nOf g)) (.slice T5 k5 r5))
    have TB : Hid (Tab (u5.alloc (.cells #[.bool (nOf g), .slice T5 k5 r5] 24))) := tab_on TB.out ((Below.refl _ _).alloc (Nat.le_refl _) _)
    have BW := Lib.hid (BW.out.alloc BW.out.size (.cells #[.bool (nOf g), .slice T5 k5 r5] 24))
    generalize hWW : (u5.alloc (.cells #[.bool (nOf g), .slice T5 k5 r5] 24)) = V5 at *
    clear hWW
    have e0 := X1.out.c0
    have e1 := X1.out.c1
    have e2 := Y5.out.c0
    have e3 := Y5.out.c1
    go_wp2_with fail
    (refine (exact_ok _ _ _ _ _ _ _ _ x1 _ z1 g _ _ S1.out R5.out Z1.out (zOf_lOf FG.out) rfl GX.out G0.out).mono ?_; rintro e u6 ⟨T6, k6, r6, U6, q6, rfl, hs, hs', hb⟩)
    clear e0 e1 e2 e3
    have S1 := Lib.hid (S1.out.below hb)
    have S2 := Lib.hid (S2.out.below hb)
    have X1 := Lib.hid (X1.out.below hb)
    have X2 := Lib.hid (X2.out.below hb)
    have X0 := Lib.hid (X0.out.below hb)
    have R1 := Lib.hid (R1.out.below hb)
    have R2 := Lib.hid (R2.out.below hb)
    have Y1 := Lib.hid (Y1.out.below hb)
    have Y2 := Lib.hid (Y2.out.below hb)
    have R3 := Lib.hid (R3.out.below hb)
    have Y3 := Lib.hid (Y3.out.below hb)
    have R4 := Lib.hid (R4.out.below hb)
    have Y4 := Lib.hid (Y4.out.below hb)
    have R5 := Lib.hid (R5.out.below hb)
    have Y5 := Lib.hid (Y5.out.below hb)
    have TB := Lib.hid (tab_on TB.out hb)
    have BW := Lib.hid (below_on BW.out hb)
    clear hb
    clear hs hs'
    go_upto_region 13 with fail
    have S1 := Lib.hid (S1.out.alloc (.cells #[.bool (nOf (qZ z1 g)), .slice T6 k6 r6] 24))
    have S2 := Lib.hid (S2.out.alloc (.cells #[.bool (nOf (qZ z1 g)), .slice T6 k6 r6] 24))
    have X1 := Lib.hid (X1.out.alloc (.cells #[.bool (nOf (qZ z1 g)), .slice T6 k6 r6] 24))
    have X2 := Lib.hid (X2.out.alloc (.cells #[.bool (nOf (qZ z1 g)), .slice T6 k6 r6] 24))
    have X0 := Lib.hid (X0.out.alloc (.cells #[.bool (nOf (qZ z1 g)), .slice T6 k6 r6] 24))
    have R1 := Lib.hid (R1.out.alloc (.cells #[.bool (nOf (qZ z1 g)), .slice T6 k6 r6] 24))
    have R2 := Lib.hid (R2.out.alloc (.cells #[.bool (nOf (qZ z1 g)), .slice T6 k6 r6] 24))
    have Y1 := Lib.hid (Y1.out.alloc (.cells #[.bool (nOf (qZ z1 g)), .slice T6 k6 r6] 24))
    have Y2 := Lib.hid (Y2.out.alloc (.cells #[.bool (nOf (qZ z1 g)), .slice T6 k6 r6] 24))
    have R3 := Lib.hid (R3.out.alloc (.cells #[.bool (nOf (qZ z1 g)), .slice T6 k6 r6] 24))
    have Y3 := Lib.hid (Y3.out.alloc (.cells #[.bool (nOf (qZ z1 g)), .slice T6 k6 r6] 24))
    have R4 := Lib.hid (R4.out.alloc (.cells #[.bool (nOf (qZ z1 g)), .slice T6 k6 r6] 24))
    have Y4 := Lib.hid (Y4.out.alloc (.cells #[.bool (nOf (qZ z1 g)), .slice T6 k6 r6] 24))
    have R5 := Lib.hid (R5.out.alloc (.cells #[.bool (nOf (qZ z1 g)), .slice T6 k6 r6] 24))
    have Y5 := Lib.hid (Y5.out.alloc (.cells #[.bool (nOf (qZ z1 g)), .slice T6 k6 r6] 24))
    have Y6 := Lib.hid (Bx.new u6 (.bool (nOf (qZ z1 g))) (.slice T6 k6 r6))
    have TB : Hid (Tab (u6.alloc (.cells #[.bool (nOf (qZ z1 g)), .slice T6 k6 r6] 24))) := tab_on TB.out ((Below.refl _ _).alloc (Nat.le_refl _) _)
    have BW := Lib.hid (BW.out.alloc BW.out.size (.cells #[.bool (nOf (qZ z1 g)), .slice T6 k6 r6] 24))
    have S1 := Lib.hid (S1.out.alloc (.cells #[.bool false, .slice U6 0 q6] 24))
    have S2 := Lib.hid (S2.out.alloc (.cells #[.bool false, .slice U6 0 q6] 24))
    have X1 := Lib.hid (X1.out.alloc (.cells #[.bool false, .slice U6 0 q6] 24))
    have X2 := Lib.hid (X2.out.alloc (.cells #[.bool false, .slice U6 0 q6] 24))
    have X0 := Lib.hid (X0.out.alloc (.cells #[.bool false, .slice U6 0 q6] 24))
    have R1 := Lib.hid (R1.out.alloc (.cells #[.bool false, .slice U6 0 q6] 24))
    have R2 := Lib.hid (R2.out.alloc (.cells #[.bool false, .slice U6 0 q6] 24))
    have Y1 := Lib.hid (Y1.out.alloc (.cells #[.bool false, .slice U6 0 q6] 24))
    have Y2 := Lib.hid (Y2.out.alloc (.cells #[.bool false, .slice U6 0 q6] 24))
    have R3 := Lib.hid (R3.out.alloc (.cells #[.bool false, .slice U6 0 q6] 24))
    have Y3 := Lib.hid (Y3.out.alloc (.cells #[.bool false, .slice U6 0 q6] 24))
    have R4 := Lib.hid (R4.out.alloc (.cells #[.bool false, .slice U6 0 q6] 24))
    have Y4 := Lib.hid (Y4.out.alloc (.cells #[.bool false, .slice U6 0 q6] 24))
    have R5 := Lib.hid (R5.out.alloc (.cells #[.bool false, .slice U6 0 q6] 24))
    have Y5 := Lib.hid (Y5.out.alloc (.cells #[.bool false, .slice U6 0 q6] 24))
    have Y6 := Lib.hid (Y6.out.alloc (.cells #[.bool false, .slice U6 0 q6] 24))
    have Y7 := Lib.hid (Bx.new (u6.alloc (.cells #[.bool (nOf (qZ z1 g)), .slice T6 k6 r6] 24)) (.bool false) (.slice U6 0 q6))
    rw [alloc_sz] at Y7
    have TB : Hid (Tab ((u6.alloc (.cells #[.bool (nOf (qZ z1 g)), .slice T6 k6 r6] 24)).alloc (.cells #[.bool false, .slice U6 0 q6] 24))) := tab_on TB.out ((Below.refl _ _).alloc (Nat.le_refl _) _)
    have BW := Lib.hid (BW.out.alloc BW.out.size (.cells #[.bool false, .slice U6 0 q6] 24))
    generalize hWW : ((u6.alloc (.cells #[.bool (nOf (qZ z1 g)), .slice T6 k6 r6] 24)).alloc (.cells #[.bool false, .slice U6 0 q6] 24)) = V6 at *
    clear hWW
    have e0 := X2.out.c0
    have e1 := X2.out.c1
    have e2 := Y5.out.c0
    have e3 := Y5.out.c1
    go_wp2_with fail
    (refine (exact_ok _ _ _ _ _ _ _ _ x2 _ z2 g _ _ S2.out R5.out Z2.out (zOf_lOf FG.out) rfl GY.out G0.out).mono ?_; rintro e u7 ⟨T7, k7, r7, U7, q7, rfl, hs, hs', hb⟩)
    clear e0 e1 e2 e3
    have S1 := Lib.hid (S1.out.below hb)
    have S2 := Lib.hid (S2.out.below hb)
    have X1 := Lib.hid (X1.out.below hb)
    have X2 := Lib.hid (X2.out.below hb)
    have X0 := Lib.hid (X0.out.below hb)
    have R1 := Lib.hid (R1.out.below hb)
    have R2 := Lib.hid (R2.out.below hb)
    have Y1 := Lib.hid (Y1.out.below hb)
    have Y2 := Lib.hid (Y2.out.below hb)
    have R3 := Lib.hid (R3.out.below hb)
    have Y3 := Lib.hid (Y3.out.below hb)
    have R4 := Lib.hid (R4.out.below hb)
    have Y4 := Lib.hid (Y4.out.below hb)
    have R5 := Lib.hid (R5.out.below hb)
    have Y5 := Lib.hid (Y5.out.below hb)
    have Y6 := Lib.hid (Y6.out.below hb)
    have Y7 := Lib.hid (Y7.out.below hb)
    have TB := Lib.hid (tab_on TB.out hb)
    have BW := Lib.hid (below_on BW.out hb)
    clear hb
    clear hs hs'
    go_upto_region 14 with fail
    have S1 := Lib.hid (S1.out.alloc (.cells #[.bool (nOf (qZ z2 g)), .slice T7 k7 r7] 24))
    have S2 := Lib.hid (S2.out.alloc (.cells #[.bool (nOf (qZ z2 g)), .slice T7 k7 r7] 24))
    have X1 := Lib.hid (X1.out.alloc (.cells #[.bool (nOf (qZ z2 g)), .slice T7 k7 r7] 24))
    have X2 := Lib.hid (X2.out.alloc (.cells #[.bool (nOf (qZ z2 g)), .slice T7 k7 r7] 24))
    have X0 := Lib.hid (X0.out.alloc (.cells #[.bool (nOf (qZ z2 g)), .slice T7 k7 r7] 24))
    have R1 := Lib.hid (R1.out.alloc (.cells #[.bool (nOf (qZ z2 g)), .slice T7 k7 r7] 24))
    have R2 := Lib.hid (R2.out.alloc (.cells #[.bool (nOf (qZ z2 g)), .slice T7 k7 r7] 24))
    have Y1 := Lib.hid (Y1.out.alloc (.cells #[.bool (nOf (qZ z2 g)), .slice T7 k7 r7] 24))
    have Y2 := Lib.hid (Y2.out.alloc (.cells #[.bool (nOf (qZ z2 g)), .slice T7 k7 r7] 24))
    have R3 := Lib.hid (R3.out.alloc (.cells #[.bool (nOf (qZ z2 g)), .slice T7 k7 r7] 24))
    have Y3 := Lib.hid (Y3.out.alloc (.cells #[.bool (nOf (qZ z2 g)), .slice T7 k7 r7] 24))
    have R4 := Lib.hid (R4.out.alloc (.cells #[.bool (nOf (qZ z2 g)), .slice T7 k7 r7] 24))
    have Y4 := Lib.hid (Y4.out.alloc (.cells #[.bool (nOf (qZ z2 g)), .slice T7 k7 r7] 24))
    have R5 := Lib.hid (R5.out.alloc (.cells #[.bool (nOf (qZ z2 g)), .slice T7 k7 r7] 24))
    have Y5 := Lib.hid (Y5.out.alloc (.cells #[.bool (nOf (qZ z2 g)), .slice T7 k7 r7] 24))
    have Y6 := Lib.hid (Y6.out.alloc (.cells #[.bool (nOf (qZ z2 g)), .slice T7 k7 r7] 24))
    have Y7 := Lib.hid (Y7.out.alloc (.cells #[.bool (nOf (qZ z2 g)), .slice T7 k7 r7] 24))
    have Y8 := Lib.hid (Bx.new u7 (.bool (nOf (qZ z2 g))) (.slice T7 k7 r7))
    have TB : Hid (Tab (u7.alloc (.cells #[.bool (nOf (qZ z2 g)), .slice T7 k7 r7] 24))) := tab_on TB.out ((Below.refl _ _).alloc (Nat.le_refl _) _)
    have BW := Lib.hid (BW.out.alloc BW.out.size (.cells #[.bool (nOf (qZ z2 g)), .slice T7 k7 r7] 24))
    have S1 := Lib.hid (S1.out.alloc (.cells #[.bool false, .slice U7 0 q7] 24))
    have S2 := Lib.hid (S2.out.alloc (.cells #[.bool false, .slice U7 0 q7] 24))
    have X1 := Lib.hid (X1.out.alloc (.cells #[.bool false, .slice U7 0 q7] 24))
    have X2 := Lib.hid (X2.out.alloc (.cells #[.bool false, .slice U7 0 q7] 24))
    have X0 := Lib.hid (X0.out.alloc (.cells #[.bool false, .slice U7 0 q7] 24))
    have R1 := Lib.hid (R1.out.alloc (.cells #[.bool false, .slice U7 0 q7] 24))
    have R2 := Lib.hid (R2.out.alloc (.cells #[.bool false, .slice U7 0 q7] 24))
    have Y1 := Lib.hid (Y1.out.alloc (.cells #[.bool false, .slice U7 0 q7] 24))
    have Y2 := Lib.hid (Y2.out.alloc (.cells #[.bool false, .slice U7 0 q7] 24))
    have R3 := Lib.hid (R3.out.alloc (.cells #[.bool false, .slice U7 0 q7] 24))
    have Y3 := Lib.hid (Y3.out.alloc (.cells #[.bool false, .slice U7 0 q7] 24))
    have R4 := Lib.hid (R4.out.alloc (.cells #[.bool false, .slice U7 0 q7] 24))
    have Y4 := Lib.hid (Y4.out.alloc (.cells #[.bool false, .slice U7 0 q7] 24))
    have R5 := Lib.hid (R5.out.alloc (.cells #[.bool false, .slice U7 0 q7] 24))
    have Y5 := Lib.hid (Y5.out.alloc (.cells #[.bool false, .slice U7 0 q7] 24))
    have Y6 := Lib.hid (Y6.out.alloc (.cells #[.bool false, .slice U7 0 q7] 24))
    have Y7 := Lib.hid (Y7.out.alloc (.cells #[.bool false, .slice U7 0 q7] 24))
    have Y8 := Lib.hid (Y8.out.alloc (.cells #[.bool false, .slice U7 0 q7] 24))
    have Y9 := Lib.hid (Bx.new (u7.alloc (.cells #[.bool (nOf (qZ z2 g)), .slice T7 k7 r7] 24)) (.bool false) (.slice U7 0 q7))
    rw [alloc_sz] at Y9
    have TB : Hid (Tab ((u7.alloc (.cells #[.bool (nOf (qZ z2 g)), .slice T7 k7 r7] 24)).alloc (.cells #[.bool false, .slice U7 0 q7] 24))) := tab_on TB.out ((Below.refl _ _).alloc (Nat.le_refl _) _)
    have BW := Lib.hid (BW.out.alloc BW.out.size (.cells #[.bool false, .slice U7 0 q7] 24))
    generalize hWW : ((u7.alloc (.cells #[.bool (nOf (qZ z2 g)), .slice T7 k7 r7] 24)).alloc (.cells #[.bool false, .slice U7 0 q7] 24)) = V7 at *
    clear hWW
    have e0 := Y5.out.c0
    have e1 := Y5.out.c1
    have e2 := Y7.out.c0
    have e3 := Y7.out.c1
    have e4 := Y9.out.c0
    have e5 := Y9.out.c1
    rw [NG.out] at e0
    go_wp2_with fail
    clear e0 e1 e2 e3 e4 e5
    (refine (awake_any _ TB.out).mono ?_; rintro e vv ⟨rfl, hb⟩)
    have S1 := Lib.hid (S1.out.below hb)
    have S2 := Lib.hid (S2.out.below hb)
    have X1 := Lib.hid (X1.out.below hb)
    have X2 := Lib.hid (X2.out.below hb)
    have X0 := Lib.hid (X0.out.below hb)
    have R1 := Lib.hid (R1.out.below hb)
    have R2 := Lib.hid (R2.out.below hb)
    have Y1 := Lib.hid (Y1.out.below hb)
    have Y2 := Lib.hid (Y2.out.below hb)
    have R3 := Lib.hid (R3.out.below hb)
    have Y3 := Lib.hid (Y3.out.below hb)
    have R4 := Lib.hid (R4.out.below hb)
    have Y4 := Lib.hid (Y4.out.below hb)
    have R5 := Lib.hid (R5.out.below hb)
    have Y5 := Lib.hid (Y5.out.below hb)
    have Y6 := Lib.hid (Y6.out.below hb)
    have Y7 := Lib.hid (Y7.out.below hb)
    have Y8 := Lib.hid (Y8.out.below hb)
    have Y9 := Lib.hid (Y9.out.below hb)
    have TB := Lib.hid (tab_on TB.out hb)
    have BW := Lib.hid (below_on BW.out hb)
    clear hb
    go_wp2_with fail
    go_ret
    exact ⟨rfl, BW.out⟩

theorem contract (H : Type) (enc : TypeId × Value → H) (W : World) (base : Nat) (args : Array Value) (ds gs : List (DataW H)) (before : List MemPlace)
    (hval : ∀ (j : Nat) t v, Tryd.f10.params[j]? = some t → args[j]? = some v → Value.okWide Tryd.prog W .any base t v)
    (hW : DataW.Whole enc Tryd.prog Tryd.f10.params.toList Rows.bigQuotientsSpec.vars false W args.toList ds gs before) (hL : laidMetH Tryd.prog Rows.bigQuotientsRow.laid W) :
    Calls Tryd.prog 10 args W fun e W' => ∃ v, e = .returned v ∧ Rows.bigQuotientsSpec.post enc Tryd.prog Tryd.f10 false true false false W args v W' := by
  have hW' := hW
  obtain ⟨p, q, hA0, hV, rfl, hfz, hnd⟩ := hW
  have hA : DataW.TrodAll enc Tryd.prog W 0 (fun _ => true) true Tryd.f10.params.toList args.toList ds p := hA0
  have hlt : ∀ x ∈ p, x.block < W.heap.size := fun x hx => hW'.lt x (by simp [hx])
  have hAll := hA
  rw [Tryd.params10] at hA hval
  obtain ⟨v0, vs0, d0, ds0, p0, q0, hargs, rfl, rfl, h0, r0⟩ := trodAll_cons hA
  obtain ⟨v1, vs1, d1, ds1, p1, q1, rfl, rfl, rfl, h1, r1⟩ := trodAll_cons r0
  obtain ⟨rfl, rfl, rfl⟩ := trodAll_nil r1
  obtain rfl : args = #[v0, v1] := by cases args; simp_all
  obtain ⟨rfl, rfl⟩ := trodVars_none hV
  obtain ⟨s1, A1, n1, c1, x1, rfl, g1⟩ := open_big (hval 0 24 v0 rfl rfl) h0
  obtain ⟨s2, A2, n2, c2, x2, rfl, g2⟩ := open_big (hval 1 24 v1 rfl rfl) h1
  refine (walk s1 s2 A1 A2 n1 c1 n2 c2 x1 x2 W g1 g2 (tab_of_laid hL)).mono fun e W' ⟨he, hg⟩ => ?_
  subst he
  refine ⟨_, rfl, _, _, _, [], _, [], hW', trodAll_mk1 (shut_bool Tryd.underlying4 _), trodAll_below hg (fun t ht => ?_) hAll hlt, rfl, hg.frame _, fun h => by cases h⟩
  rw [Tryd.params10] at ht
  simp only [List.mem_cons, List.not_mem_nil, or_false] at ht
  rcases ht with rfl | rfl
  · exact read_big
  · exact read_big

theorem reads (os : Os) {H : Type} (enc : TypeId × Value → H) : ∃ places, DataW.whole enc Tryd.prog ((World.doorLaid Tryd.prog 24 os).forCall (fun _ _ => 0) ⟨#[], #[Value.agg #[.bool false, .slice none 0 0], Value.agg #[.bool false, .slice none 0 0]], []⟩).memory Tryd.f10.params.toList Rows.bigQuotientsSpec.vars false #[Value.agg #[.bool false, .slice none 0 0], Value.agg #[.bool false, .slice none 0 0]].toList 8 = some ([.agg [.lit (.bool false), .nil], .agg [.lit (.bool false), .nil]], [], places) :=
  ⟨[], by kernel_rfl⟩

set_option maxRecDepth 100000 in
theorem lifted (os : Os) (started : os.Started) (H : Type) (enc : TypeId × Value → H) (F : Stop.Interp) :
    ReturnsInHanded {} Tryd.checked os 10 .any ((OpenSpec.ofChange Rows.bigQuotientsSpec).preRow enc Tryd.prog Tryd.f10 Rows.bigQuotientsRow.domain false Rows.bigQuotientsRow.laid) (((OpenSpec.ofChange Rows.bigQuotientsSpec).at F).post enc Tryd.prog Tryd.f10 false true false false) := by
  obtain ⟨places, hx⟩ := reads os enc
  refine returnsInHanded_of_row (C := Tryd.checked) (s := OpenSpec.ofChange Rows.bigQuotientsSpec) own started (by kernel_rfl) Tryd.func10
    (witness_row_at (enc := enc) (C := Tryd.checked) false (World.doorLaid Tryd.prog 24 os) #[Value.agg #[.bool false, .slice none 0 0], Value.agg #[.bool false, .slice none 0 0]] rfl (by kernel_rfl) (by kernel_rfl) (by kernel_rfl)
      (OpenSpec.preRow_of_cond 8 hx (by kernel_rfl) (fun k hk => by cases hk) (by kernel_rfl) (laid_met os _))) ?_
  intro W base args ds gs before hval hW _ _ _ hL _ _
  exact contract H enc W base args ds gs before hval hW hL

theorem said : Rows.BigQuotientsSaid :=
  OpenClaim.holds_of_cond 10 Tryd.f10 rfl rfl rfl rfl rfl rfl rfl ⟨rfl, rfl, rfl, rfl, rfl⟩ rfl rfl rfl rfl rfl (by kernel_rfl) Tryd.func10 (by kernel_rfl)
    (of_decide_eq_true (by kernel_rfl)) (by unfold Func.isWrapper; first | (rw [if_pos (by decide +kernel)]; kernel_rfl) | (rw [if_neg (by decide +kernel)]; exact ⟨rfl, rfl⟩))
    (fun os started H enc _ F => by rw [OpenClaim.pre_eq_preRow]; exact lifted os started H enc F)

theorem plain (f : FuncId) (fn : Func) (hf : Tryd.pinned.checked.prog.funcNamed "liquidcheck/liquidchecklaw02.BigQuotients" = some f) (hfn : Tryd.pinned.checked.prog.funcs[f]? = some fn) :
    false = Tryd.pinned.checked.prog.looks [] ∧ ∀ (j : Nat) t, fn.params[j]? = some t → Tryd.pinned.checked.prog.wantsStandIn t = false := by
  obtain rfl : f = 10 := Option.some.inj ((show Tryd.prog.funcNamed "liquidcheck/liquidchecklaw02.BigQuotients" = some 10 by kernel_rfl).symm.trans hf) |>.symm
  obtain rfl : fn = Tryd.f10 := (Option.some.inj (Tryd.func10.symm.trans hfn)).symm
  refine ⟨by kernel_rfl, fun j t ht => ?_⟩
  rw [Tryd.params10] at ht
  have hm := Array.mem_of_getElem? ht
  simp only [List.mem_toArray, List.mem_cons, List.not_mem_nil, or_false] at hm
  rcases hm with rfl | rfl
  · exact (show Tryd.prog.wantsStandIn 24 = false by kernel_rfl)
  · exact (show Tryd.prog.wantsStandIn 24 = false by kernel_rfl)

theorem card : Rows.BigQuotientsCardSaid :=
  Claim7.holds_tied_plain_at .later [] _ _ _ _ said (fun _ h => by cases h) (by kernel_rfl) (fun _ h => by cases h) bigQuotients_row_tie rfl ⟨rfl, rfl⟩ (by kernel_rfl) rfl plain (by kernel_rfl)
end Go.Proofs.YtfkfbomllkpjjaaDoor.bigQuotients
