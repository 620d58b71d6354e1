/-
  THE STATEMENT BigSums IS PROVED: for every two numbers (the listed library tables holding what the program's text lays, tied by the card), the law returns true and its arguments read as before.
-/
import Derived.Test.YtfkfbomllkpjjaaDoorCards
import Derived.Test.YtfkfbomllkpjjaaDoorTie
import Derived.Test.YtfkfbomllkpjjaaDoorBigLaid
import Derived.Test.YtfkfbomllkpjjaaDoorBigR9
namespace Go.Proofs.YtfkfbomllkpjjaaDoor.bigSums
open Go.ChangeShapes Go.WideShapes Go.ChangeAt Go.RowKit
open Go.ChangeMaps (open_string shut_string)


set_option maxRecDepth 100000 in
set_option maxHeartbeats 8000000 in
theorem walk (s1 s2 : Bool) (A1 A2 : Option Addr) (n1 c1 n2 c2 : Nat) (x1 x2 : List Int) (w : World) (h1 : Sl w A1 n1 c1 x1) (h2 : Sl w A2 n2 c2 x2) (htab : Tab w) :
    Calls Tryd.prog 4 #[.agg #[.bool s1, .slice A1 n1 c1], .agg #[.bool s2, .slice A2 n2 c2]] w fun e w' => e = .returned (.bool true) ∧ Below w.heap.size w w' := by
  have TB := Lib.hid htab
  have TB0 := Lib.hid htab
  have BW := Lib.hid (Below.refl w.heap.size w)
  have S1 := Lib.hid h1
  have S2 := Lib.hid h2
  clear htab h1 h2
  go_enter Tryd.func4, Tryd.ntmps4
  go_upto_region 1 with fail
  have S1 := Lib.hid (S1.out.alloc (.cells #[.bool s1, .slice A1 n1 c1] 24))
  have S2 := Lib.hid (S2.out.alloc (.cells #[.bool s1, .slice A1 n1 c1] 24))
  have X1 := Lib.hid (Bx.new w (.bool s1) (.slice A1 n1 c1))
  have TB : Hid (Tab (w.alloc (.cells #[.bool s1, .slice A1 n1 c1] 24))) := tab_on TB.out ((Below.refl _ _).alloc (Nat.le_refl _) _)
  have BW := Lib.hid (BW.out.alloc BW.out.size (.cells #[.bool s1, .slice A1 n1 c1] 24))
  have S1 := Lib.hid (S1.out.alloc (.cells #[.bool s2, .slice A2 n2 c2] 24))
  have S2 := Lib.hid (S2.out.alloc (.cells #[.bool s2, .slice A2 n2 c2] 24))
  have X1 := Lib.hid (X1.out.alloc (.cells #[.bool s2, .slice A2 n2 c2] 24))
  have X2 := Lib.hid (Bx.new (w.alloc (.cells #[.bool s1, .slice A1 n1 c1] 24)) (.bool s2) (.slice A2 n2 c2))
  rw [alloc_sz] at X2
  have TB : Hid (Tab ((w.alloc (.cells #[.bool s1, .slice A1 n1 c1] 24)).alloc (.cells #[.bool s2, .slice A2 n2 c2] 24))) := tab_on TB.out ((Below.refl _ _).alloc (Nat.le_refl _) _)
  have BW := Lib.hid (BW.out.alloc BW.out.size (.cells #[.bool s2, .slice A2 n2 c2] 24))
  generalize hWW : ((w.alloc (.cells #[.bool s1, .slice A1 n1 c1] 24)).alloc (.cells #[.bool s2, .slice A2 n2 c2] 24)) = W0 at *
  clear hWW
  by_cases g1 : 300 < n1
  · have b1 : decide ((300 : Int) < (n1 : Int)) = true := decide_eq_true (by omega)
    have e0 := X1.out.c0
    have e1 := X1.out.c1
    go_wp2_with fail
    (refine (long_any s1 A1 n1 c1 300 _).mono ?_; rintro e v1 ⟨rfl, hb⟩)
    rw [b1]
    clear e0 e1
    have S1 := Lib.hid (S1.out.below hb)
    have S2 := Lib.hid (S2.out.below hb)
    have X1 := Lib.hid (X1.out.below hb)
    have X2 := Lib.hid (X2.out.below hb)
    have TB := Lib.hid (tab_on TB.out hb)
    have BW := Lib.hid (below_on BW.out hb)
    clear hb
    go_wp2_with fail
    (refine (awake_any _ TB.out).mono ?_; rintro e vv ⟨rfl, hb⟩)
    have S1 := Lib.hid (S1.out.below hb)
    have S2 := Lib.hid (S2.out.below hb)
    have X1 := Lib.hid (X1.out.below hb)
    have X2 := Lib.hid (X2.out.below hb)
    have TB := Lib.hid (tab_on TB.out hb)
    have BW := Lib.hid (below_on BW.out hb)
    clear hb
    go_wp2_with fail
    go_ret
    exact ⟨rfl, BW.out⟩
  by_cases g2 : 300 < n2
  · have b1 : decide ((300 : Int) < (n1 : Int)) = false := decide_eq_false (by omega)
    have b2 : decide ((300 : Int) < (n2 : Int)) = true := decide_eq_true (by omega)
    have e0 := X1.out.c0
    have e1 := X1.out.c1
    go_wp2_with fail
    (refine (long_any s1 A1 n1 c1 300 _).mono ?_; rintro e v1 ⟨rfl, hb⟩)
    rw [b1]
    clear e0 e1
    have S1 := Lib.hid (S1.out.below hb)
    have S2 := Lib.hid (S2.out.below hb)
    have X1 := Lib.hid (X1.out.below hb)
    have X2 := Lib.hid (X2.out.below hb)
    have TB := Lib.hid (tab_on TB.out hb)
    have BW := Lib.hid (below_on BW.out hb)
    clear hb
    have e0 := X2.out.c0
    have e1 := X2.out.c1
    go_wp2_with fail
    (refine (long_any s2 A2 n2 c2 300 _).mono ?_; rintro e v2 ⟨rfl, hb⟩)
    rw [b2]
    clear e0 e1
    have S1 := Lib.hid (S1.out.below hb)
    have S2 := Lib.hid (S2.out.below hb)
    have X1 := Lib.hid (X1.out.below hb)
    have X2 := Lib.hid (X2.out.below hb)
    have TB := Lib.hid (tab_on TB.out hb)
    have BW := Lib.hid (below_on BW.out hb)
    clear hb
    go_wp2_with fail
    (refine (awake_any _ TB.out).mono ?_; rintro e vv ⟨rfl, hb⟩)
    have S1 := Lib.hid (S1.out.below hb)
    have S2 := Lib.hid (S2.out.below hb)
    have X1 := Lib.hid (X1.out.below hb)
    have X2 := Lib.hid (X2.out.below hb)
    have TB := Lib.hid (tab_on TB.out hb)
    have BW := Lib.hid (below_on BW.out hb)
    clear hb
    go_wp2_with fail
    go_ret
    exact ⟨rfl, BW.out⟩
  have b1 : decide ((300 : Int) < (n1 : Int)) = false := decide_eq_false (by omega)
  have b2 : decide ((300 : Int) < (n2 : Int)) = false := decide_eq_false (by omega)
  have e0 := X1.out.c0
  have e1 := X1.out.c1
  go_wp2_with fail
  (refine (long_any s1 A1 n1 c1 300 _).mono ?_; rintro e v1 ⟨rfl, hb⟩)
  rw [b1]
  clear e0 e1
  have S1 := Lib.hid (S1.out.below hb)
  have S2 := Lib.hid (S2.out.below hb)
  have X1 := Lib.hid (X1.out.below hb)
  have X2 := Lib.hid (X2.out.below hb)
  have TB := Lib.hid (tab_on TB.out hb)
  have BW := Lib.hid (below_on BW.out hb)
  clear hb
  have e0 := X2.out.c0
  have e1 := X2.out.c1
  go_wp2_with fail
  (refine (long_any s2 A2 n2 c2 300 _).mono ?_; rintro e v2 ⟨rfl, hb⟩)
  rw [b2]
  clear e0 e1
  have S1 := Lib.hid (S1.out.below hb)
  have S2 := Lib.hid (S2.out.below hb)
  have X1 := Lib.hid (X1.out.below hb)
  have X2 := Lib.hid (X2.out.below hb)
  have TB := Lib.hid (tab_on TB.out hb)
  have BW := Lib.hid (below_on BW.out hb)
  clear hb
  have e0 := X1.out.c0
  have e1 := X1.out.c1
  have e2 := X2.out.c0
  have e3 := X2.out.c1
  go_wp2_with fail
  (refine (add_big s1 s2 A1 A2 n1 c1 n2 c2 x1 x2 _ S1.out S2.out).mono ?_; rintro e u1 ⟨T1, k1, r1, rfl, hs, hb⟩)
  clear e0 e1 e2 e3
  have S1 := Lib.hid (S1.out.below hb)
  have S2 := Lib.hid (S2.out.below hb)
  have X1 := Lib.hid (X1.out.below hb)
  have X2 := Lib.hid (X2.out.below hb)
  have TB := Lib.hid (tab_on TB.out hb)
  have BW := Lib.hid (below_on BW.out hb)
  clear hb
  have R1 := Lib.hid hs
  clear hs
  have q11 := X1.out.lt
  have q12 := X2.out.lt
  go_upto_region 4 with fail
  have S1 := Lib.hid (S1.out.alloc (.cells #[.bool (nOf (fitZ (zOf s1 x1 + zOf s2 x2))), .slice T1 k1 r1] 24))
  have S2 := Lib.hid (S2.out.alloc (.cells #[.bool (nOf (fitZ (zOf s1 x1 + zOf s2 x2))), .slice T1 k1 r1] 24))
  have X1 := Lib.hid (X1.out.alloc (.cells #[.bool (nOf (fitZ (zOf s1 x1 + zOf s2 x2))), .slice T1 k1 r1] 24))
  have X2 := Lib.hid (X2.out.alloc (.cells #[.bool (nOf (fitZ (zOf s1 x1 + zOf s2 x2))), .slice T1 k1 r1] 24))
  have R1 := Lib.hid (R1.out.alloc (.cells #[.bool (nOf (fitZ (zOf s1 x1 + zOf s2 x2))), .slice T1 k1 r1] 24))
  have Y1 := Lib.hid (Bx.new u1 (.bool (nOf (fitZ (zOf s1 x1 + zOf s2 x2)))) (.slice T1 k1 r1))
  have TB : Hid (Tab (u1.alloc (.cells #[.bool (nOf (fitZ (zOf s1 x1 + zOf s2 x2))), .slice T1 k1 r1] 24))) := tab_on TB.out ((Below.refl _ _).alloc (Nat.le_refl _) _)
  have BW := Lib.hid (BW.out.alloc BW.out.size (.cells #[.bool (nOf (fitZ (zOf s1 x1 + zOf s2 x2))), .slice T1 k1 r1] 24))
  generalize hWW : (u1.alloc (.cells #[.bool (nOf (fitZ (zOf s1 x1 + zOf s2 x2))), .slice T1 k1 r1] 24)) = V1 at *
  clear hWW
  have e0 := X1.out.c0
  have e1 := X1.out.c1
  have e2 := X2.out.c0
  have e3 := X2.out.c1
  go_wp2_with fail
  (refine (radd_any s1 s2 A1 A2 n1 c1 n2 c2 x1 x2 _ S1.out S2.out).mono ?_; rintro e u2 ⟨T2, k2, r2, rfl, hs, hb⟩)
  clear e0 e1 e2 e3
  have S1 := Lib.hid (S1.out.below hb)
  have S2 := Lib.hid (S2.out.below hb)
  have X1 := Lib.hid (X1.out.below hb)
  have X2 := Lib.hid (X2.out.below hb)
  have R1 := Lib.hid (R1.out.below hb)
  have Y1 := Lib.hid (Y1.out.below hb)
  have TB := Lib.hid (tab_on TB.out hb)
  have BW := Lib.hid (below_on BW.out hb)
  clear hb
  have R2 := Lib.hid hs
  clear hs
  have q21 := X1.out.lt
  have q22 := X2.out.lt
  have q23 := Y1.out.lt
  go_upto_region 5 with fail
  have S1 := Lib.hid (S1.out.alloc (.cells #[.bool (nOf (fitZ (zOf s1 x1 + zOf s2 x2))), .slice T2 k2 r2] 24))
  have S2 := Lib.hid (S2.out.alloc (.cells #[.bool (nOf (fitZ (zOf s1 x1 + zOf s2 x2))), .slice T2 k2 r2] 24))
  have X1 := Lib.hid (X1.out.alloc (.cells #[.bool (nOf (fitZ (zOf s1 x1 + zOf s2 x2))), .slice T2 k2 r2] 24))
  have X2 := Lib.hid (X2.out.alloc (.cells #[.bool (nOf (fitZ (zOf s1 x1 + zOf s2 x2))), .slice T2 k2 r2] 24))
  have R1 := Lib.hid (R1.out.alloc (.cells #[.bool (nOf (fitZ (zOf s1 x1 + zOf s2 x2))), .slice T2 k2 r2] 24))
  have Y1 := Lib.hid (Y1.out.alloc (.cells #[.bool (nOf (fitZ (zOf s1 x1 + zOf s2 x2))), .slice T2 k2 r2] 24))
  have R2 := Lib.hid (R2.out.alloc (.cells #[.bool (nOf (fitZ (zOf s1 x1 + zOf s2 x2))), .slice T2 k2 r2] 24))
  have Y2 := Lib.hid (Bx.new u2 (.bool (nOf (fitZ (zOf s1 x1 + zOf s2 x2)))) (.slice T2 k2 r2))
  have TB : Hid (Tab (u2.alloc (.cells #[.bool (nOf (fitZ (zOf s1 x1 + zOf s2 x2))), .slice T2 k2 r2] 24))) := tab_on TB.out ((Below.refl _ _).alloc (Nat.le_refl _) _)
  have BW := Lib.hid (BW.out.alloc BW.out.size (.cells #[.bool (nOf (fitZ (zOf s1 x1 + zOf s2 x2))), .slice T2 k2 r2] 24))
  generalize hWW : (u2.alloc (.cells #[.bool (nOf (fitZ (zOf s1 x1 + zOf s2 x2))), .slice T2 k2 r2] 24)) = V2 at *
  clear hWW
  generalize fitB (zOf s1 x1 + zOf s2 x2) = fb at *
  have e0 := Y1.out.c0
  have e1 := Y1.out.c1
  have e2 := Y2.out.c0
  have e3 := Y2.out.c1
  go_wp2_with fail
  (refine (same_ok _ _ _ _ _ _ _ _ _ _ _ R1.out R2.out rfl rfl).mono ?_; rintro e m1 ⟨rfl, hb⟩)
  clear e0 e1 e2 e3
  have S1 := Lib.hid (S1.out.below hb)
  have S2 := Lib.hid (S2.out.below hb)
  have X1 := Lib.hid (X1.out.below hb)
  have X2 := Lib.hid (X2.out.below hb)
  have R1 := Lib.hid (R1.out.below hb)
  have Y1 := Lib.hid (Y1.out.below hb)
  have R2 := Lib.hid (R2.out.below hb)
  have Y2 := Lib.hid (Y2.out.below hb)
  have TB := Lib.hid (tab_on TB.out hb)
  have BW := Lib.hid (below_on BW.out hb)
  clear hb
  clear R1 R2
  have i1 : ¬ w.heap.size = u1.heap.size := by omega
  have i2 : ¬ u1.heap.size = w.heap.size := by omega
  have i3 : ¬ w.heap.size + 1 = u1.heap.size := by omega
  have i4 : ¬ u1.heap.size = w.heap.size + 1 := by omega
  have i5 : ¬ w.heap.size = u2.heap.size := by omega
  have i6 : ¬ u2.heap.size = w.heap.size := by omega
  have i7 : ¬ w.heap.size + 1 = u2.heap.size := by omega
  have i8 : ¬ u2.heap.size = w.heap.size + 1 := by omega
  have i9 : ¬ u1.heap.size = u2.heap.size := by omega
  have i0 : ¬ u2.heap.size = u1.heap.size := by omega
  have o1 : w.heap.size ≤ u1.heap.size := by omega
  have o2 : w.heap.size ≤ u2.heap.size := by omega
  clear q11 q12 q21 q22 q23
  have e0 := X1.out.c0
  have e1 := X1.out.c1
  have e2 := X2.out.c0
  have e3 := X2.out.c1
  go_wp2_with fail
  (refine (sub_big s1 s2 A1 A2 n1 c1 n2 c2 x1 x2 _ S1.out S2.out).mono ?_; rintro e u3 ⟨T3, k3, r3, rfl, hs, hb⟩)
  clear e0 e1 e2 e3
  have S1 := Lib.hid (S1.out.below hb)
  have S2 := Lib.hid (S2.out.below hb)
  have X1 := Lib.hid (X1.out.below hb)
  have X2 := Lib.hid (X2.out.below hb)
  have Y1 := Lib.hid (Y1.out.below hb)
  have Y2 := Lib.hid (Y2.out.below hb)
  have TB := Lib.hid (tab_on TB.out hb)
  have BW := Lib.hid (below_on BW.out hb)
  clear hb
  have R3 := Lib.hid hs
  clear hs
  have e0 := Y1.out.c0
  have e1 := Y1.out.c1
  have e2 := Y1.out.fz 0
  have e3 := Y1.out.fz 1
  go_upto_region 8 with fail
  clear e0 e1 e2 e3
  have S1 := Lib.hid (S1.out.box Y1.out.box (.bool (nOf (fitZ (zOf s1 x1 + -zOf s2 x2)))) (.slice T3 k3 r3))
  have S2 := Lib.hid (S2.out.box Y1.out.box (.bool (nOf (fitZ (zOf s1 x1 + -zOf s2 x2)))) (.slice T3 k3 r3))
  have R3 := Lib.hid (R3.out.box Y1.out.box (.bool (nOf (fitZ (zOf s1 x1 + -zOf s2 x2)))) (.slice T3 k3 r3))
  have X1 := Lib.hid ((X1.out.far (p := ⟨u1.heap.size, 0, none⟩) i1 (.bool (nOf (fitZ (zOf s1 x1 + -zOf s2 x2))))).far (p := ⟨u1.heap.size, 1, none⟩) i1 (.slice T3 k3 r3))
  have X2 := Lib.hid ((X2.out.far (p := ⟨u1.heap.size, 0, none⟩) i3 (.bool (nOf (fitZ (zOf s1 x1 + -zOf s2 x2))))).far (p := ⟨u1.heap.size, 1, none⟩) i3 (.slice T3 k3 r3))
  have Y2 := Lib.hid ((Y2.out.far (p := ⟨u1.heap.size, 0, none⟩) i0 (.bool (nOf (fitZ (zOf s1 x1 + -zOf s2 x2))))).far (p := ⟨u1.heap.size, 1, none⟩) i0 (.slice T3 k3 r3))
  have Y1 := Lib.hid (Y1.out.set_ (.bool (nOf (fitZ (zOf s1 x1 + -zOf s2 x2)))) (.slice T3 k3 r3))
  have BW := Lib.hid ((BW.out.setCell (p := ⟨u1.heap.size, 0, none⟩) o1 (.bool (nOf (fitZ (zOf s1 x1 + -zOf s2 x2))))).setCell (p := ⟨u1.heap.size, 1, none⟩) o1 (.slice T3 k3 r3))
  have TB := Lib.hid (tab_on TB0.out BW.out)
  generalize (u3.setCell ⟨u1.heap.size, 0, none⟩ (.bool (nOf (fitZ (zOf s1 x1 + -zOf s2 x2))))).setCell ⟨u1.heap.size, 1, none⟩ (.slice T3 k3 r3) = V3 at *
  have e0 := X1.out.c0
  have e1 := X1.out.c1
  have e2 := X2.out.c0
  have e3 := X2.out.c1
  go_wp2_with fail
  (refine (rsub_any s1 s2 A1 A2 n1 c1 n2 c2 x1 x2 _ S1.out S2.out).mono ?_; rintro e u4 ⟨T4, k4, r4, rfl, hs, hb⟩)
  clear e0 e1 e2 e3
  have S1 := Lib.hid (S1.out.below hb)
  have S2 := Lib.hid (S2.out.below hb)
  have X1 := Lib.hid (X1.out.below hb)
  have X2 := Lib.hid (X2.out.below hb)
  have Y1 := Lib.hid (Y1.out.below hb)
  have Y2 := Lib.hid (Y2.out.below hb)
  have R3 := Lib.hid (R3.out.below hb)
  have TB := Lib.hid (tab_on TB.out hb)
  have BW := Lib.hid (below_on BW.out hb)
  clear hb
  have R4 := Lib.hid hs
  clear hs
  have e0 := Y2.out.c0
  have e1 := Y2.out.c1
  have e2 := Y2.out.fz 0
  have e3 := Y2.out.fz 1
  go_upto_region 9 with fail
  clear e0 e1 e2 e3
  have S1 := Lib.hid (S1.out.box Y2.out.box (.bool (nOf (fitZ (zOf s1 x1 + -zOf s2 x2)))) (.slice T4 k4 r4))
  have S2 := Lib.hid (S2.out.box Y2.out.box (.bool (nOf (fitZ (zOf s1 x1 + -zOf s2 x2)))) (.slice T4 k4 r4))
  have R3 := Lib.hid (R3.out.box Y2.out.box (.bool (nOf (fitZ (zOf s1 x1 + -zOf s2 x2)))) (.slice T4 k4 r4))
  have R4 := Lib.hid (R4.out.box Y2.out.box (.bool (nOf (fitZ (zOf s1 x1 + -zOf s2 x2)))) (.slice T4 k4 r4))
  have X1 := Lib.hid ((X1.out.far (p := ⟨u2.heap.size, 0, none⟩) i5 (.bool (nOf (fitZ (zOf s1 x1 + -zOf s2 x2))))).far (p := ⟨u2.heap.size, 1, none⟩) i5 (.slice T4 k4 r4))
  have X2 := Lib.hid ((X2.out.far (p := ⟨u2.heap.size, 0, none⟩) i7 (.bool (nOf (fitZ (zOf s1 x1 + -zOf s2 x2))))).far (p := ⟨u2.heap.size, 1, none⟩) i7 (.slice T4 k4 r4))
  have Y1 := Lib.hid ((Y1.out.far (p := ⟨u2.heap.size, 0, none⟩) i9 (.bool (nOf (fitZ (zOf s1 x1 + -zOf s2 x2))))).far (p := ⟨u2.heap.size, 1, none⟩) i9 (.slice T4 k4 r4))
  have Y2 := Lib.hid (Y2.out.set_ (.bool (nOf (fitZ (zOf s1 x1 + -zOf s2 x2)))) (.slice T4 k4 r4))
  have BW := Lib.hid ((BW.out.setCell (p := ⟨u2.heap.size, 0, none⟩) o2 (.bool (nOf (fitZ (zOf s1 x1 + -zOf s2 x2))))).setCell (p := ⟨u2.heap.size, 1, none⟩) o2 (.slice T4 k4 r4))
  have TB := Lib.hid (tab_on TB0.out BW.out)
  generalize (u4.setCell ⟨u2.heap.size, 0, none⟩ (.bool (nOf (fitZ (zOf s1 x1 + -zOf s2 x2))))).setCell ⟨u2.heap.size, 1, none⟩ (.slice T4 k4 r4) = V4 at *
  generalize fitB (zOf s1 x1 + -zOf s2 x2) = fc at *
  go_wp2_with fail
  have e0 := X1.out.c0
  have e1 := X1.out.c1
  have e2 := X2.out.c0
  have e3 := X2.out.c1
  have e4 := Y1.out.c0
  have e5 := Y1.out.c1
  have e6 := Y2.out.c0
  have e7 := Y2.out.c1
  go_region_held3 (fun w' => w'.cell? ⟨w.heap.size, 0, none⟩ = some (.bool s1) ∧ w'.cell? ⟨w.heap.size, 1, none⟩ = some (.slice A1 n1 c1) ∧ w'.cell? ⟨w.heap.size + 1, 0, none⟩ = some (.bool s2) ∧ w'.cell? ⟨w.heap.size + 1, 1, none⟩ = some (.slice A2 n2 c2) ∧ w'.cell? ⟨u1.heap.size, 0, none⟩ = some (.bool (nOf (fitZ (zOf s1 x1 + -zOf s2 x2)))) ∧ w'.cell? ⟨u1.heap.size, 1, none⟩ = some (.slice T3 k3 r3) ∧ w'.cell? ⟨u2.heap.size, 0, none⟩ = some (.bool (nOf (fitZ (zOf s1 x1 + -zOf s2 x2)))) ∧ w'.cell? ⟨u2.heap.size, 1, none⟩ = some (.slice T4 k4 r4)) (go_keep)
    (first | (go_at_call 15; (with_reducible refine (same_ok _ _ _ _ _ _ _ _ _ _ _ (by first | exact R3.out | exact R3.out.drew) (by first | exact R4.out | exact R4.out.drew) rfl rfl).mono ?_); rintro e a1 ⟨rfl, hb⟩; have BB1 := Lib.hid (show Below V4.heap.size V4 a1 from (by first | exact hb | exact (Below.refl _ _).drew.trans (hb.mono (Nat.le_refl _)))); have f0 := (X1.out.below BB1.out).c0; have f1 := (X1.out.below BB1.out).c1; have f2 := (X2.out.below BB1.out).c0; have f3 := (X2.out.below BB1.out).c1; have f4 := (Y1.out.below BB1.out).c0; have f5 := (Y1.out.below BB1.out).c1; have f6 := (Y2.out.below BB1.out).c0; have f7 := (Y2.out.below BB1.out).c1; clear hb) | (go_at_call 26; (with_reducible refine (cmp_big s1 s2 A1 A2 n1 c1 n2 c2 x1 x2 _ (S1.out.below BB1.out) (S2.out.below BB1.out)).mono ?_); rintro e a2 ⟨rfl, hb⟩; have BB2 := Lib.hid (below_up BB1.out hb); have f0 := (X1.out.below BB2.out).c0; have f1 := (X1.out.below BB2.out).c1; have f2 := (X2.out.below BB2.out).c0; have f3 := (X2.out.below BB2.out).c1; have f4 := (Y1.out.below BB2.out).c0; have f5 := (Y1.out.below BB2.out).c1; have f6 := (Y2.out.below BB2.out).c0; have f7 := (Y2.out.below BB2.out).c1; clear hb) | (go_at_call 27; (with_reducible refine (rcmp_any s1 s2 A1 A2 n1 c1 n2 c2 x1 x2 _ (S1.out.below BB2.out) (S2.out.below BB2.out)).mono ?_); rintro e a3 ⟨rfl, hb⟩; have BB3 := Lib.hid (below_up BB2.out hb); have f0 := (X1.out.below BB3.out).c0; have f1 := (X1.out.below BB3.out).c1; have f2 := (X2.out.below BB3.out).c0; have f3 := (X2.out.below BB3.out).c1; have f4 := (Y1.out.below BB3.out).c0; have f5 := (Y1.out.below BB3.out).c1; have f6 := (Y2.out.below BB3.out).c0; have f7 := (Y2.out.below BB3.out).c1; clear hb) | (go_at_call 12; (with_reducible refine (awake_any _ (tab_on TB.out BB3.out)).mono ?_); rintro e a4 ⟨rfl, hb⟩; have BB4 := Lib.hid (below_up BB3.out hb); have f0 := (X1.out.below BB4.out).c0; have f1 := (X1.out.below BB4.out).c1; have f2 := (X2.out.below BB4.out).c0; have f3 := (X2.out.below BB4.out).c1; have f4 := (Y1.out.below BB4.out).c0; have f5 := (Y1.out.below BB4.out).c1; have f6 := (Y2.out.below BB4.out).c0; have f7 := (Y2.out.below BB4.out).c1; clear hb))
  all_goals
    go_wp2_with fail
    go_ret
    exact ⟨rfl, below_on BW.out BB4.out⟩

theorem contract (H : Type) (enc : TypeId × Value → H) (W : World) (base : Nat) (args : Array Value) (ds gs : List (DataW H)) (before : List MemPlace)
    (hval : ∀ (j : Nat) t v, Tryd.f4.params[j]? = some t → args[j]? = some v → Value.okWide Tryd.prog W .any base t v)
    (hW : DataW.Whole enc Tryd.prog Tryd.f4.params.toList Rows.bigSumsSpec.vars false W args.toList ds gs before) (hL : laidMetH Tryd.prog Rows.bigSumsRow.laid W) :
    Calls Tryd.prog 4 args W fun e W' => ∃ v, e = .returned v ∧ Rows.bigSumsSpec.post enc Tryd.prog Tryd.f4 false true false false W args v W' := by
  have hW' := hW
  obtain ⟨p, q, hA0, hV, rfl, hfz, hnd⟩ := hW
  have hA : DataW.TrodAll enc Tryd.prog W 0 (fun _ => true) true Tryd.f4.params.toList args.toList ds p := hA0
  have hlt : ∀ x ∈ p, x.block < W.heap.size := fun x hx => hW'.lt x (by simp [hx])
  have hAll := hA
  rw [Tryd.params4] at hA hval
  obtain ⟨v0, vs0, d0, ds0, p0, q0, hargs, rfl, rfl, h0, r0⟩ := trodAll_cons hA
  obtain ⟨v1, vs1, d1, ds1, p1, q1, rfl, rfl, rfl, h1, r1⟩ := trodAll_cons r0
  obtain ⟨rfl, rfl, rfl⟩ := trodAll_nil r1
  obtain rfl : args = #[v0, v1] := by cases args; simp_all
  obtain ⟨rfl, rfl⟩ := trodVars_none hV
  obtain ⟨s1, A1, n1, c1, x1, rfl, g1⟩ := open_big (hval 0 24 v0 rfl rfl) h0
  obtain ⟨s2, A2, n2, c2, x2, rfl, g2⟩ := open_big (hval 1 24 v1 rfl rfl) h1
  refine (walk s1 s2 A1 A2 n1 c1 n2 c2 x1 x2 W g1 g2 (tab_of_laid hL)).mono fun e W' ⟨he, hg⟩ => ?_
  subst he
  refine ⟨_, rfl, _, _, _, [], _, [], hW', trodAll_mk1 (shut_bool Tryd.underlying4 _), trodAll_below hg (fun t ht => ?_) hAll hlt, rfl, hg.frame _, fun h => by cases h⟩
  rw [Tryd.params4] at ht
  simp only [List.mem_cons, List.not_mem_nil, or_false] at ht
  rcases ht with rfl | rfl
  · exact read_big
  · exact read_big

theorem reads (os : Os) {H : Type} (enc : TypeId × Value → H) : ∃ places, DataW.whole enc Tryd.prog ((World.doorLaid Tryd.prog 24 os).forCall (fun _ _ => 0) ⟨#[], #[Value.agg #[.bool false, .slice none 0 0], Value.agg #[.bool false, .slice none 0 0]], []⟩).memory Tryd.f4.params.toList Rows.bigSumsSpec.vars false #[Value.agg #[.bool false, .slice none 0 0], Value.agg #[.bool false, .slice none 0 0]].toList 8 = some ([.agg [.lit (.bool false), .nil], .agg [.lit (.bool false), .nil]], [], places) :=
  ⟨[], by kernel_rfl⟩

set_option maxRecDepth 100000 in
theorem lifted (os : Os) (started : os.Started) (H : Type) (enc : TypeId × Value → H) (F : Stop.Interp) :
    ReturnsInHanded {} Tryd.checked os 4 .any ((OpenSpec.ofChange Rows.bigSumsSpec).preRow enc Tryd.prog Tryd.f4 Rows.bigSumsRow.domain false Rows.bigSumsRow.laid) (((OpenSpec.ofChange Rows.bigSumsSpec).at F).post enc Tryd.prog Tryd.f4 false true false false) := by
  obtain ⟨places, hx⟩ := reads os enc
  refine returnsInHanded_of_row (C := Tryd.checked) (s := OpenSpec.ofChange Rows.bigSumsSpec) own started (by kernel_rfl) Tryd.func4
    (witness_row_at (enc := enc) (C := Tryd.checked) false (World.doorLaid Tryd.prog 24 os) #[Value.agg #[.bool false, .slice none 0 0], Value.agg #[.bool false, .slice none 0 0]] rfl (by kernel_rfl) (by kernel_rfl) (by kernel_rfl)
      (OpenSpec.preRow_of_cond 8 hx (by kernel_rfl) (fun k hk => by cases hk) (by kernel_rfl) (laid_met os _))) ?_
  intro W base args ds gs before hval hW _ _ _ hL _ _
  exact contract H enc W base args ds gs before hval hW hL

theorem said : Rows.BigSumsSaid :=
  OpenClaim.holds_of_cond 4 Tryd.f4 rfl rfl rfl rfl rfl rfl rfl ⟨rfl, rfl, rfl, rfl, rfl⟩ rfl rfl rfl rfl rfl (by kernel_rfl) Tryd.func4 (by kernel_rfl)
    (of_decide_eq_true (by kernel_rfl)) (by unfold Func.isWrapper; first | (rw [if_pos (by decide +kernel)]; kernel_rfl) | (rw [if_neg (by decide +kernel)]; exact ⟨rfl, rfl⟩))
    (fun os started H enc _ F => by rw [OpenClaim.pre_eq_preRow]; exact lifted os started H enc F)

theorem plain (f : FuncId) (fn : Func) (hf : Tryd.pinned.checked.prog.funcNamed "liquidcheck/liquidchecklaw02.BigSums" = some f) (hfn : Tryd.pinned.checked.prog.funcs[f]? = some fn) :
    false = Tryd.pinned.checked.prog.looks [] ∧ ∀ (j : Nat) t, fn.params[j]? = some t → Tryd.pinned.checked.prog.wantsStandIn t = false := by
  obtain rfl : f = 4 := Option.some.inj ((show Tryd.prog.funcNamed "liquidcheck/liquidchecklaw02.BigSums" = some 4 by kernel_rfl).symm.trans hf) |>.symm
  obtain rfl : fn = Tryd.f4 := (Option.some.inj (Tryd.func4.symm.trans hfn)).symm
  refine ⟨by kernel_rfl, fun j t ht => ?_⟩
  rw [Tryd.params4] at ht
  have hm := Array.mem_of_getElem? ht
  simp only [List.mem_toArray, List.mem_cons, List.not_mem_nil, or_false] at hm
  rcases hm with rfl | rfl
  · exact (show Tryd.prog.wantsStandIn 24 = false by kernel_rfl)
  · exact (show Tryd.prog.wantsStandIn 24 = false by kernel_rfl)

theorem card : Rows.BigSumsCardSaid :=
  Claim7.holds_tied_plain_at .later [] _ _ _ _ said (fun _ h => by cases h) (by kernel_rfl) (fun _ h => by cases h) bigSums_row_tie rfl ⟨rfl, rfl⟩ (by kernel_rfl) rfl plain (by kernel_rfl)
end Go.Proofs.YtfkfbomllkpjjaaDoor.bigSums
