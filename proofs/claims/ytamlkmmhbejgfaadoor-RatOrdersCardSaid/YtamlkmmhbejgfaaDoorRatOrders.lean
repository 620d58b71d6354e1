/-
  THE STATEMENT RatOrders IS PROVED: for every three fractions (the listed library tables holding what the program's text lays, tied by the card), the law returns true and its arguments read as before.
-/
import Derived.Test.YtamlkmmhbejgfaaDoorCards
import Derived.Test.YtamlkmmhbejgfaaDoorTie
import Derived.Test.YtamlkmmhbejgfaaDoorRatLaid
import Derived.Test.YtamlkmmhbejgfaaDoorRatN
import Derived.Test.YtamlkmmhbejgfaaDoorRatLaid
import Derived.Test.YtamlkmmhbejgfaaDoorRatFew
import Derived.Test.YtamlkmmhbejgfaaDoorRatMathE
namespace Go.Proofs.YtamlkmmhbejgfaaDoor.ratOrders
open Go.ChangeShapes Go.WideShapes Go.ChangeAt Go.RowKit
open Go.ChangeMaps (open_string shut_string)


set_option maxRecDepth 100000 in
set_option maxHeartbeats 8000000 in
theorem walk (s1 t1 : Bool) (A1 B1 : Option Addr) (n1 c1 m1 d1 : Nat) (x1 y1 : List Int) (s2 t2 : Bool) (A2 B2 : Option Addr) (n2 c2 m2 d2 : Nat) (x2 y2 : List Int) (s3 t3 : Bool) (A3 B3 : Option Addr) (n3 c3 m3 d3 : Nat) (x3 y3 : List Int) (w : World) (h1 : Sl w A1 n1 c1 x1) (k1 : Sl w B1 m1 d1 y1) (h2 : Sl w A2 n2 c2 x2) (k2 : Sl w B2 m2 d2 y2) (h3 : Sl w A3 n3 c3 x3) (k3 : Sl w B3 m3 d3 y3) (htab : Tab w) :
    Calls Tryd.prog 8 #[.agg #[.bool s1, .slice A1 n1 c1, .bool t1, .slice B1 m1 d1], .agg #[.bool s2, .slice A2 n2 c2, .bool t2, .slice B2 m2 d2], .agg #[.bool s3, .slice A3 n3 c3, .bool t3, .slice B3 m3 d3]] w fun e w' => e = .returned (.bool true) ∧ Below w.heap.size w w' := by
  have S1 := Lib.hid h1
  have T1 := Lib.hid k1
  have S2 := Lib.hid h2
  have T2 := Lib.hid k2
  have S3 := Lib.hid h3
  have T3 := Lib.hid k3
  have TB := Lib.hid htab
  have TB0 := Lib.hid htab
  clear h1 k1 h2 k2 h3 k3 htab
  rcases Bool.eq_false_or_eq_true (fewB n1 m1 && fewB n2 m2 && fewB n3 m3) with hl | hl
  · rcases Bool.eq_false_or_eq_true (validR s1 x1 t1 y1) with e1 | e1
    · rcases Bool.eq_false_or_eq_true (validR s2 x2 t2 y2) with e2 | e2
      · rcases Bool.eq_false_or_eq_true (validR s3 x3 t3 y3) with e3 | e3
        · have HL := Lib.hid hl
          obtain ⟨-, -, u1, u2, u3, u4⟩ := fr_valid e1
          have F1 := Lib.hid (fr_ok s1 x1 t1 y1)
          generalize hP : frN s1 x1 t1 y1 = p1 at *
          generalize hQ : frD s1 x1 t1 y1 = q1 at *
          clear hP hQ e1
          subst u1; subst u2; subst u3; subst u4
          obtain ⟨-, -, u1, u2, u3, u4⟩ := fr_valid e2
          have F2 := Lib.hid (fr_ok s2 x2 t2 y2)
          generalize hP : frN s2 x2 t2 y2 = p2 at *
          generalize hQ : frD s2 x2 t2 y2 = q2 at *
          clear hP hQ e2
          subst u1; subst u2; subst u3; subst u4
          obtain ⟨-, -, u1, u2, u3, u4⟩ := fr_valid e3
          have F3 := Lib.hid (fr_ok s3 x3 t3 y3)
          generalize hP : frN s3 x3 t3 y3 = p3 at *
          generalize hQ : frD s3 x3 t3 y3 = q3 at *
          clear hP hQ e3
          subst u1; subst u2; subst u3; subst u4
          clear hl
          generalize hx : cmpI (p1 * q2) (p2 * q1) = cx at *
          generalize hy : cmpI (p2 * q3) (p3 * q2) = cy at *
          have CX := Lib.hid hx
          have CY := Lib.hid hy
          have rx := cmp_range (p1 * q2) (p2 * q1)
          have ry := cmp_range (p2 * q3) (p3 * q2)
          rw [hx] at rx
          rw [hy] at ry
          obtain ⟨rx1, rx2⟩ := rx
          obtain ⟨ry1, ry2⟩ := ry
          have CS : Hid ((decide (p1 = p2) && decide (q1 = q2)) = (cx == 0)) := (cmp_same F1.out F2.out).trans (by rw [hx])
          have CW : Hid (cmpI (p2 * q1) (p1 * q2) = -cx) := (cmp_swap _ _).trans (by rw [hx])
          clear hx hy
          have BW := Lib.hid (Below.refl w.heap.size w)
          go_enter Tryd.func8, Tryd.ntmps8
          go_upto_region 1 with fail
          have S1 := Lib.hid (S1.out.alloc (.cells #[.bool (nOf (p1)), .slice A1 n1 c1, .bool (nOf (q1)), .slice B1 m1 d1] 37))
          have T1 := Lib.hid (T1.out.alloc (.cells #[.bool (nOf (p1)), .slice A1 n1 c1, .bool (nOf (q1)), .slice B1 m1 d1] 37))
          have S2 := Lib.hid (S2.out.alloc (.cells #[.bool (nOf (p1)), .slice A1 n1 c1, .bool (nOf (q1)), .slice B1 m1 d1] 37))
          have T2 := Lib.hid (T2.out.alloc (.cells #[.bool (nOf (p1)), .slice A1 n1 c1, .bool (nOf (q1)), .slice B1 m1 d1] 37))
          have S3 := Lib.hid (S3.out.alloc (.cells #[.bool (nOf (p1)), .slice A1 n1 c1, .bool (nOf (q1)), .slice B1 m1 d1] 37))
          have T3 := Lib.hid (T3.out.alloc (.cells #[.bool (nOf (p1)), .slice A1 n1 c1, .bool (nOf (q1)), .slice B1 m1 d1] 37))
          have TB := Lib.hid (tab_on TB.out ((Below.refl _ _).alloc (Nat.le_refl _) (.cells #[.bool (nOf (p1)), .slice A1 n1 c1, .bool (nOf (q1)), .slice B1 m1 d1] 37)))
          have BW := Lib.hid (BW.out.alloc BW.out.size (.cells #[.bool (nOf (p1)), .slice A1 n1 c1, .bool (nOf (q1)), .slice B1 m1 d1] 37))
          have X1 := Lib.hid (Bk.new 37 w #[.bool (nOf (p1)), .slice A1 n1 c1, .bool (nOf (q1)), .slice B1 m1 d1])
          have S1 := Lib.hid (S1.out.alloc (.cells #[.bool (nOf (p2)), .slice A2 n2 c2, .bool (nOf (q2)), .slice B2 m2 d2] 37))
          have T1 := Lib.hid (T1.out.alloc (.cells #[.bool (nOf (p2)), .slice A2 n2 c2, .bool (nOf (q2)), .slice B2 m2 d2] 37))
          have S2 := Lib.hid (S2.out.alloc (.cells #[.bool (nOf (p2)), .slice A2 n2 c2, .bool (nOf (q2)), .slice B2 m2 d2] 37))
          have T2 := Lib.hid (T2.out.alloc (.cells #[.bool (nOf (p2)), .slice A2 n2 c2, .bool (nOf (q2)), .slice B2 m2 d2] 37))
          have S3 := Lib.hid (S3.out.alloc (.cells #[.bool (nOf (p2)), .slice A2 n2 c2, .bool (nOf (q2)), .slice B2 m2 d2] 37))
          have T3 := Lib.hid (T3.out.alloc (.cells #[.bool (nOf (p2)), .slice A2 n2 c2, .bool (nOf (q2)), .slice B2 m2 d2] 37))
          have TB := Lib.hid (tab_on TB.out ((Below.refl _ _).alloc (Nat.le_refl _) (.cells #[.bool (nOf (p2)), .slice A2 n2 c2, .bool (nOf (q2)), .slice B2 m2 d2] 37)))
          have BW := Lib.hid (BW.out.alloc BW.out.size (.cells #[.bool (nOf (p2)), .slice A2 n2 c2, .bool (nOf (q2)), .slice B2 m2 d2] 37))
          have X1 := Lib.hid (X1.out.alloc (.cells #[.bool (nOf (p2)), .slice A2 n2 c2, .bool (nOf (q2)), .slice B2 m2 d2] 37))
          have X2 := Lib.hid (Bk.new 37 (w.alloc (.cells #[.bool (nOf (p1)), .slice A1 n1 c1, .bool (nOf (q1)), .slice B1 m1 d1] 37)) #[.bool (nOf (p2)), .slice A2 n2 c2, .bool (nOf (q2)), .slice B2 m2 d2])
          rw [alloc_sz] at X2
          have S1 := Lib.hid (S1.out.alloc (.cells #[.bool (nOf (p3)), .slice A3 n3 c3, .bool (nOf (q3)), .slice B3 m3 d3] 37))
          have T1 := Lib.hid (T1.out.alloc (.cells #[.bool (nOf (p3)), .slice A3 n3 c3, .bool (nOf (q3)), .slice B3 m3 d3] 37))
          have S2 := Lib.hid (S2.out.alloc (.cells #[.bool (nOf (p3)), .slice A3 n3 c3, .bool (nOf (q3)), .slice B3 m3 d3] 37))
          have T2 := Lib.hid (T2.out.alloc (.cells #[.bool (nOf (p3)), .slice A3 n3 c3, .bool (nOf (q3)), .slice B3 m3 d3] 37))
          have S3 := Lib.hid (S3.out.alloc (.cells #[.bool (nOf (p3)), .slice A3 n3 c3, .bool (nOf (q3)), .slice B3 m3 d3] 37))
          have T3 := Lib.hid (T3.out.alloc (.cells #[.bool (nOf (p3)), .slice A3 n3 c3, .bool (nOf (q3)), .slice B3 m3 d3] 37))
          have TB := Lib.hid (tab_on TB.out ((Below.refl _ _).alloc (Nat.le_refl _) (.cells #[.bool (nOf (p3)), .slice A3 n3 c3, .bool (nOf (q3)), .slice B3 m3 d3] 37)))
          have BW := Lib.hid (BW.out.alloc BW.out.size (.cells #[.bool (nOf (p3)), .slice A3 n3 c3, .bool (nOf (q3)), .slice B3 m3 d3] 37))
          have X1 := Lib.hid (X1.out.alloc (.cells #[.bool (nOf (p3)), .slice A3 n3 c3, .bool (nOf (q3)), .slice B3 m3 d3] 37))
          have X2 := Lib.hid (X2.out.alloc (.cells #[.bool (nOf (p3)), .slice A3 n3 c3, .bool (nOf (q3)), .slice B3 m3 d3] 37))
          have X3 := Lib.hid (Bk.new 37 ((w.alloc (.cells #[.bool (nOf (p1)), .slice A1 n1 c1, .bool (nOf (q1)), .slice B1 m1 d1] 37)).alloc (.cells #[.bool (nOf (p2)), .slice A2 n2 c2, .bool (nOf (q2)), .slice B2 m2 d2] 37)) #[.bool (nOf (p3)), .slice A3 n3 c3, .bool (nOf (q3)), .slice B3 m3 d3])
          rw [alloc_sz, alloc_sz] at X3
          generalize (((w.alloc (.cells #[.bool (nOf (p1)), .slice A1 n1 c1, .bool (nOf (q1)), .slice B1 m1 d1] 37)).alloc (.cells #[.bool (nOf (p2)), .slice A2 n2 c2, .bool (nOf (q2)), .slice B2 m2 d2] 37)).alloc (.cells #[.bool (nOf (p3)), .slice A3 n3 c3, .bool (nOf (q3)), .slice B3 m3 d3] 37)) = W0 at *
          have e0 : W0.cell? ⟨w.heap.size, 0, none⟩ = some (.bool (nOf (p1))) := X1.out.c 0 rfl
          have e1 : W0.cell? ⟨w.heap.size, 1, none⟩ = some (.slice A1 n1 c1) := X1.out.c 1 rfl
          have e2 : W0.cell? ⟨w.heap.size, 2, none⟩ = some (.bool (nOf (q1))) := X1.out.c 2 rfl
          have e3 : W0.cell? ⟨w.heap.size, 3, none⟩ = some (.slice B1 m1 d1) := X1.out.c 3 rfl
          have e4 : W0.cell? ⟨w.heap.size + 1, 0, none⟩ = some (.bool (nOf (p2))) := X2.out.c 0 rfl
          have e5 : W0.cell? ⟨w.heap.size + 1, 1, none⟩ = some (.slice A2 n2 c2) := X2.out.c 1 rfl
          have e6 : W0.cell? ⟨w.heap.size + 1, 2, none⟩ = some (.bool (nOf (q2))) := X2.out.c 2 rfl
          have e7 : W0.cell? ⟨w.heap.size + 1, 3, none⟩ = some (.slice B2 m2 d2) := X2.out.c 3 rfl
          have e8 : W0.cell? ⟨w.heap.size + 1 + 1, 0, none⟩ = some (.bool (nOf (p3))) := X3.out.c 0 rfl
          have e9 : W0.cell? ⟨w.heap.size + 1 + 1, 1, none⟩ = some (.slice A3 n3 c3) := X3.out.c 1 rfl
          have e10 : W0.cell? ⟨w.heap.size + 1 + 1, 2, none⟩ = some (.bool (nOf (q3))) := X3.out.c 2 rfl
          have e11 : W0.cell? ⟨w.heap.size + 1 + 1, 3, none⟩ = some (.slice B3 m3 d3) := X3.out.c 3 rfl
          go_wp2_with fail
          clear e0 e1 e2 e3 e4 e5 e6 e7 e8 e9 e10 e11
          have ln1 := X1.out.lt
          have ln2 := X2.out.lt
          have ln3 := X3.out.lt
          have S1 := Lib.hid (S1.out.alloc (.cells #[.bool (nOf (p1)), .slice A1 n1 c1, .bool (nOf (q1)), .slice B1 m1 d1, .bool (nOf (p2)), .slice A2 n2 c2, .bool (nOf (q2)), .slice B2 m2 d2, .bool (nOf (p3)), .slice A3 n3 c3, .bool (nOf (q3)), .slice B3 m3 d3] 37))
          have T1 := Lib.hid (T1.out.alloc (.cells #[.bool (nOf (p1)), .slice A1 n1 c1, .bool (nOf (q1)), .slice B1 m1 d1, .bool (nOf (p2)), .slice A2 n2 c2, .bool (nOf (q2)), .slice B2 m2 d2, .bool (nOf (p3)), .slice A3 n3 c3, .bool (nOf (q3)), .slice B3 m3 d3] 37))
          have S2 := Lib.hid (S2.out.alloc (.cells #[.bool (nOf (p1)), .slice A1 n1 c1, .bool (nOf (q1)), .slice B1 m1 d1, .bool (nOf (p2)), .slice A2 n2 c2, .bool (nOf (q2)), .slice B2 m2 d2, .bool (nOf (p3)), .slice A3 n3 c3, .bool (nOf (q3)), .slice B3 m3 d3] 37))
          have T2 := Lib.hid (T2.out.alloc (.cells #[.bool (nOf (p1)), .slice A1 n1 c1, .bool (nOf (q1)), .slice B1 m1 d1, .bool (nOf (p2)), .slice A2 n2 c2, .bool (nOf (q2)), .slice B2 m2 d2, .bool (nOf (p3)), .slice A3 n3 c3, .bool (nOf (q3)), .slice B3 m3 d3] 37))
          have S3 := Lib.hid (S3.out.alloc (.cells #[.bool (nOf (p1)), .slice A1 n1 c1, .bool (nOf (q1)), .slice B1 m1 d1, .bool (nOf (p2)), .slice A2 n2 c2, .bool (nOf (q2)), .slice B2 m2 d2, .bool (nOf (p3)), .slice A3 n3 c3, .bool (nOf (q3)), .slice B3 m3 d3] 37))
          have T3 := Lib.hid (T3.out.alloc (.cells #[.bool (nOf (p1)), .slice A1 n1 c1, .bool (nOf (q1)), .slice B1 m1 d1, .bool (nOf (p2)), .slice A2 n2 c2, .bool (nOf (q2)), .slice B2 m2 d2, .bool (nOf (p3)), .slice A3 n3 c3, .bool (nOf (q3)), .slice B3 m3 d3] 37))
          have TB := Lib.hid (tab_on TB.out ((Below.refl _ _).alloc (Nat.le_refl _) (.cells #[.bool (nOf (p1)), .slice A1 n1 c1, .bool (nOf (q1)), .slice B1 m1 d1, .bool (nOf (p2)), .slice A2 n2 c2, .bool (nOf (q2)), .slice B2 m2 d2, .bool (nOf (p3)), .slice A3 n3 c3, .bool (nOf (q3)), .slice B3 m3 d3] 37)))
          have BW := Lib.hid (BW.out.alloc BW.out.size (.cells #[.bool (nOf (p1)), .slice A1 n1 c1, .bool (nOf (q1)), .slice B1 m1 d1, .bool (nOf (p2)), .slice A2 n2 c2, .bool (nOf (q2)), .slice B2 m2 d2, .bool (nOf (p3)), .slice A3 n3 c3, .bool (nOf (q3)), .slice B3 m3 d3] 37))
          have X1 := Lib.hid (X1.out.alloc (.cells #[.bool (nOf (p1)), .slice A1 n1 c1, .bool (nOf (q1)), .slice B1 m1 d1, .bool (nOf (p2)), .slice A2 n2 c2, .bool (nOf (q2)), .slice B2 m2 d2, .bool (nOf (p3)), .slice A3 n3 c3, .bool (nOf (q3)), .slice B3 m3 d3] 37))
          have X2 := Lib.hid (X2.out.alloc (.cells #[.bool (nOf (p1)), .slice A1 n1 c1, .bool (nOf (q1)), .slice B1 m1 d1, .bool (nOf (p2)), .slice A2 n2 c2, .bool (nOf (q2)), .slice B2 m2 d2, .bool (nOf (p3)), .slice A3 n3 c3, .bool (nOf (q3)), .slice B3 m3 d3] 37))
          have X3 := Lib.hid (X3.out.alloc (.cells #[.bool (nOf (p1)), .slice A1 n1 c1, .bool (nOf (q1)), .slice B1 m1 d1, .bool (nOf (p2)), .slice A2 n2 c2, .bool (nOf (q2)), .slice B2 m2 d2, .bool (nOf (p3)), .slice A3 n3 c3, .bool (nOf (q3)), .slice B3 m3 d3] 37))
          have XL := Lib.hid (Bk.new 37 W0 #[.bool (nOf (p1)), .slice A1 n1 c1, .bool (nOf (q1)), .slice B1 m1 d1, .bool (nOf (p2)), .slice A2 n2 c2, .bool (nOf (q2)), .slice B2 m2 d2, .bool (nOf (p3)), .slice A3 n3 c3, .bool (nOf (q3)), .slice B3 m3 d3])
          generalize (W0.alloc (.cells #[.bool (nOf (p1)), .slice A1 n1 c1, .bool (nOf (q1)), .slice B1 m1 d1, .bool (nOf (p2)), .slice A2 n2 c2, .bool (nOf (q2)), .slice B2 m2 d2, .bool (nOf (p3)), .slice A3 n3 c3, .bool (nOf (q3)), .slice B3 m3 d3] 37)) = WL at *
          have e0 : WL.cell? ⟨w.heap.size, 0, none⟩ = some (.bool (nOf (p1))) := X1.out.c 0 rfl
          have e1 : WL.cell? ⟨w.heap.size, 1, none⟩ = some (.slice A1 n1 c1) := X1.out.c 1 rfl
          have e2 : WL.cell? ⟨w.heap.size, 2, none⟩ = some (.bool (nOf (q1))) := X1.out.c 2 rfl
          have e3 : WL.cell? ⟨w.heap.size, 3, none⟩ = some (.slice B1 m1 d1) := X1.out.c 3 rfl
          have e4 : WL.cell? ⟨w.heap.size + 1, 0, none⟩ = some (.bool (nOf (p2))) := X2.out.c 0 rfl
          have e5 : WL.cell? ⟨w.heap.size + 1, 1, none⟩ = some (.slice A2 n2 c2) := X2.out.c 1 rfl
          have e6 : WL.cell? ⟨w.heap.size + 1, 2, none⟩ = some (.bool (nOf (q2))) := X2.out.c 2 rfl
          have e7 : WL.cell? ⟨w.heap.size + 1, 3, none⟩ = some (.slice B2 m2 d2) := X2.out.c 3 rfl
          have e8 : WL.cell? ⟨w.heap.size + 1 + 1, 0, none⟩ = some (.bool (nOf (p3))) := X3.out.c 0 rfl
          have e9 : WL.cell? ⟨w.heap.size + 1 + 1, 1, none⟩ = some (.slice A3 n3 c3) := X3.out.c 1 rfl
          have e10 : WL.cell? ⟨w.heap.size + 1 + 1, 2, none⟩ = some (.bool (nOf (q3))) := X3.out.c 2 rfl
          have e11 : WL.cell? ⟨w.heap.size + 1 + 1, 3, none⟩ = some (.slice B3 m3 d3) := X3.out.c 3 rfl
          ((with_reducible refine (light3_any W0.heap.size (nOf p1) (nOf q1) A1 B1 n1 c1 m1 d1 (nOf p2) (nOf q2) A2 B2 n2 c2 m2 d2 (nOf p3) (nOf q3) A3 B3 n3 c3 m3 d3 _ XL.out).mono ?_); rintro e w1 ⟨rfl, hb⟩)
          rw [HL.out]
          clear e0 e1 e2 e3 e4 e5 e6 e7 e8 e9 e10 e11
          have S1 := Lib.hid (S1.out.below hb)
          have T1 := Lib.hid (T1.out.below hb)
          have S2 := Lib.hid (S2.out.below hb)
          have T2 := Lib.hid (T2.out.below hb)
          have S3 := Lib.hid (S3.out.below hb)
          have T3 := Lib.hid (T3.out.below hb)
          have TB := Lib.hid (tab_on TB.out hb)
          have BW := Lib.hid (below_on BW.out hb)
          have X1 := Lib.hid (X1.out.below hb)
          have X2 := Lib.hid (X2.out.below hb)
          have X3 := Lib.hid (X3.out.below hb)
          have XL := Lib.hid (XL.out.below hb)
          clear hb
          clear XL
          have e0 : w1.cell? ⟨w.heap.size, 0, none⟩ = some (.bool (nOf (p1))) := X1.out.c 0 rfl
          have e1 : w1.cell? ⟨w.heap.size, 1, none⟩ = some (.slice A1 n1 c1) := X1.out.c 1 rfl
          have e2 : w1.cell? ⟨w.heap.size, 2, none⟩ = some (.bool (nOf (q1))) := X1.out.c 2 rfl
          have e3 : w1.cell? ⟨w.heap.size, 3, none⟩ = some (.slice B1 m1 d1) := X1.out.c 3 rfl
          have e4 : w1.cell? ⟨w.heap.size + 1, 0, none⟩ = some (.bool (nOf (p2))) := X2.out.c 0 rfl
          have e5 : w1.cell? ⟨w.heap.size + 1, 1, none⟩ = some (.slice A2 n2 c2) := X2.out.c 1 rfl
          have e6 : w1.cell? ⟨w.heap.size + 1, 2, none⟩ = some (.bool (nOf (q2))) := X2.out.c 2 rfl
          have e7 : w1.cell? ⟨w.heap.size + 1, 3, none⟩ = some (.slice B2 m2 d2) := X2.out.c 3 rfl
          have e8 : w1.cell? ⟨w.heap.size + 1 + 1, 0, none⟩ = some (.bool (nOf (p3))) := X3.out.c 0 rfl
          have e9 : w1.cell? ⟨w.heap.size + 1 + 1, 1, none⟩ = some (.slice A3 n3 c3) := X3.out.c 1 rfl
          have e10 : w1.cell? ⟨w.heap.size + 1 + 1, 2, none⟩ = some (.bool (nOf (q3))) := X3.out.c 2 rfl
          have e11 : w1.cell? ⟨w.heap.size + 1 + 1, 3, none⟩ = some (.slice B3 m3 d3) := X3.out.c 3 rfl
          go_wp2_with fail
          ((with_reducible refine (rvalid_ok true p1 q1 A1 B1 n1 c1 m1 d1 _ S1.out T1.out F1.out.valid).mono ?_); rintro e v1 ⟨rfl, hb⟩)
          clear e0 e1 e2 e3 e4 e5 e6 e7 e8 e9 e10 e11
          have S1 := Lib.hid (S1.out.below hb)
          have T1 := Lib.hid (T1.out.below hb)
          have S2 := Lib.hid (S2.out.below hb)
          have T2 := Lib.hid (T2.out.below hb)
          have S3 := Lib.hid (S3.out.below hb)
          have T3 := Lib.hid (T3.out.below hb)
          have TB := Lib.hid (tab_on TB.out hb)
          have BW := Lib.hid (below_on BW.out hb)
          have X1 := Lib.hid (X1.out.below hb)
          have X2 := Lib.hid (X2.out.below hb)
          have X3 := Lib.hid (X3.out.below hb)
          clear hb
          have e0 : v1.cell? ⟨w.heap.size, 0, none⟩ = some (.bool (nOf (p1))) := X1.out.c 0 rfl
          have e1 : v1.cell? ⟨w.heap.size, 1, none⟩ = some (.slice A1 n1 c1) := X1.out.c 1 rfl
          have e2 : v1.cell? ⟨w.heap.size, 2, none⟩ = some (.bool (nOf (q1))) := X1.out.c 2 rfl
          have e3 : v1.cell? ⟨w.heap.size, 3, none⟩ = some (.slice B1 m1 d1) := X1.out.c 3 rfl
          have e4 : v1.cell? ⟨w.heap.size + 1, 0, none⟩ = some (.bool (nOf (p2))) := X2.out.c 0 rfl
          have e5 : v1.cell? ⟨w.heap.size + 1, 1, none⟩ = some (.slice A2 n2 c2) := X2.out.c 1 rfl
          have e6 : v1.cell? ⟨w.heap.size + 1, 2, none⟩ = some (.bool (nOf (q2))) := X2.out.c 2 rfl
          have e7 : v1.cell? ⟨w.heap.size + 1, 3, none⟩ = some (.slice B2 m2 d2) := X2.out.c 3 rfl
          have e8 : v1.cell? ⟨w.heap.size + 1 + 1, 0, none⟩ = some (.bool (nOf (p3))) := X3.out.c 0 rfl
          have e9 : v1.cell? ⟨w.heap.size + 1 + 1, 1, none⟩ = some (.slice A3 n3 c3) := X3.out.c 1 rfl
          have e10 : v1.cell? ⟨w.heap.size + 1 + 1, 2, none⟩ = some (.bool (nOf (q3))) := X3.out.c 2 rfl
          have e11 : v1.cell? ⟨w.heap.size + 1 + 1, 3, none⟩ = some (.slice B3 m3 d3) := X3.out.c 3 rfl
          go_wp2_with fail
          ((with_reducible refine (rvalid_ok true p2 q2 A2 B2 n2 c2 m2 d2 _ S2.out T2.out F2.out.valid).mono ?_); rintro e v2 ⟨rfl, hb⟩)
          clear e0 e1 e2 e3 e4 e5 e6 e7 e8 e9 e10 e11
          have S1 := Lib.hid (S1.out.below hb)
          have T1 := Lib.hid (T1.out.below hb)
          have S2 := Lib.hid (S2.out.below hb)
          have T2 := Lib.hid (T2.out.below hb)
          have S3 := Lib.hid (S3.out.below hb)
          have T3 := Lib.hid (T3.out.below hb)
          have TB := Lib.hid (tab_on TB.out hb)
          have BW := Lib.hid (below_on BW.out hb)
          have X1 := Lib.hid (X1.out.below hb)
          have X2 := Lib.hid (X2.out.below hb)
          have X3 := Lib.hid (X3.out.below hb)
          clear hb
          have e0 : v2.cell? ⟨w.heap.size, 0, none⟩ = some (.bool (nOf (p1))) := X1.out.c 0 rfl
          have e1 : v2.cell? ⟨w.heap.size, 1, none⟩ = some (.slice A1 n1 c1) := X1.out.c 1 rfl
          have e2 : v2.cell? ⟨w.heap.size, 2, none⟩ = some (.bool (nOf (q1))) := X1.out.c 2 rfl
          have e3 : v2.cell? ⟨w.heap.size, 3, none⟩ = some (.slice B1 m1 d1) := X1.out.c 3 rfl
          have e4 : v2.cell? ⟨w.heap.size + 1, 0, none⟩ = some (.bool (nOf (p2))) := X2.out.c 0 rfl
          have e5 : v2.cell? ⟨w.heap.size + 1, 1, none⟩ = some (.slice A2 n2 c2) := X2.out.c 1 rfl
          have e6 : v2.cell? ⟨w.heap.size + 1, 2, none⟩ = some (.bool (nOf (q2))) := X2.out.c 2 rfl
          have e7 : v2.cell? ⟨w.heap.size + 1, 3, none⟩ = some (.slice B2 m2 d2) := X2.out.c 3 rfl
          have e8 : v2.cell? ⟨w.heap.size + 1 + 1, 0, none⟩ = some (.bool (nOf (p3))) := X3.out.c 0 rfl
          have e9 : v2.cell? ⟨w.heap.size + 1 + 1, 1, none⟩ = some (.slice A3 n3 c3) := X3.out.c 1 rfl
          have e10 : v2.cell? ⟨w.heap.size + 1 + 1, 2, none⟩ = some (.bool (nOf (q3))) := X3.out.c 2 rfl
          have e11 : v2.cell? ⟨w.heap.size + 1 + 1, 3, none⟩ = some (.slice B3 m3 d3) := X3.out.c 3 rfl
          go_wp2_with fail
          ((with_reducible refine (rvalid_ok true p3 q3 A3 B3 n3 c3 m3 d3 _ S3.out T3.out F3.out.valid).mono ?_); rintro e v3 ⟨rfl, hb⟩)
          clear e0 e1 e2 e3 e4 e5 e6 e7 e8 e9 e10 e11
          have S1 := Lib.hid (S1.out.below hb)
          have T1 := Lib.hid (T1.out.below hb)
          have S2 := Lib.hid (S2.out.below hb)
          have T2 := Lib.hid (T2.out.below hb)
          have S3 := Lib.hid (S3.out.below hb)
          have T3 := Lib.hid (T3.out.below hb)
          have TB := Lib.hid (tab_on TB.out hb)
          have BW := Lib.hid (below_on BW.out hb)
          have X1 := Lib.hid (X1.out.below hb)
          have X2 := Lib.hid (X2.out.below hb)
          have X3 := Lib.hid (X3.out.below hb)
          clear hb
          go_upto_region 3 with fail
          have e0 : v3.cell? ⟨w.heap.size, 0, none⟩ = some (.bool (nOf (p1))) := X1.out.c 0 rfl
          have e1 : v3.cell? ⟨w.heap.size, 1, none⟩ = some (.slice A1 n1 c1) := X1.out.c 1 rfl
          have e2 : v3.cell? ⟨w.heap.size, 2, none⟩ = some (.bool (nOf (q1))) := X1.out.c 2 rfl
          have e3 : v3.cell? ⟨w.heap.size, 3, none⟩ = some (.slice B1 m1 d1) := X1.out.c 3 rfl
          have e4 : v3.cell? ⟨w.heap.size + 1, 0, none⟩ = some (.bool (nOf (p2))) := X2.out.c 0 rfl
          have e5 : v3.cell? ⟨w.heap.size + 1, 1, none⟩ = some (.slice A2 n2 c2) := X2.out.c 1 rfl
          have e6 : v3.cell? ⟨w.heap.size + 1, 2, none⟩ = some (.bool (nOf (q2))) := X2.out.c 2 rfl
          have e7 : v3.cell? ⟨w.heap.size + 1, 3, none⟩ = some (.slice B2 m2 d2) := X2.out.c 3 rfl
          have e8 : v3.cell? ⟨w.heap.size + 1 + 1, 0, none⟩ = some (.bool (nOf (p3))) := X3.out.c 0 rfl
          have e9 : v3.cell? ⟨w.heap.size + 1 + 1, 1, none⟩ = some (.slice A3 n3 c3) := X3.out.c 1 rfl
          have e10 : v3.cell? ⟨w.heap.size + 1 + 1, 2, none⟩ = some (.bool (nOf (q3))) := X3.out.c 2 rfl
          have e11 : v3.cell? ⟨w.heap.size + 1 + 1, 3, none⟩ = some (.slice B3 m3 d3) := X3.out.c 3 rfl
          go_region_held3 (fun w' => w'.cell? ⟨w.heap.size, 0, none⟩ = some (.bool (nOf (p1))) ∧ w'.cell? ⟨w.heap.size, 1, none⟩ = some (.slice A1 n1 c1) ∧ w'.cell? ⟨w.heap.size, 2, none⟩ = some (.bool (nOf (q1))) ∧ w'.cell? ⟨w.heap.size, 3, none⟩ = some (.slice B1 m1 d1) ∧ w'.cell? ⟨w.heap.size + 1, 0, none⟩ = some (.bool (nOf (p2))) ∧ w'.cell? ⟨w.heap.size + 1, 1, none⟩ = some (.slice A2 n2 c2) ∧ w'.cell? ⟨w.heap.size + 1, 2, none⟩ = some (.bool (nOf (q2))) ∧ w'.cell? ⟨w.heap.size + 1, 3, none⟩ = some (.slice B2 m2 d2) ∧ w'.cell? ⟨w.heap.size + 1 + 1, 0, none⟩ = some (.bool (nOf (p3))) ∧ w'.cell? ⟨w.heap.size + 1 + 1, 1, none⟩ = some (.slice A3 n3 c3) ∧ w'.cell? ⟨w.heap.size + 1 + 1, 2, none⟩ = some (.bool (nOf (q3))) ∧ w'.cell? ⟨w.heap.size + 1 + 1, 3, none⟩ = some (.slice B3 m3 d3)) (go_keep)
            (first | (go_at_call 37; (with_reducible refine (rcmp_ok p1 q1 p2 q2 cx A1 B1 A2 B2 n1 c1 m1 d1 n2 c2 m2 d2 _ (by first | exact S1.out | exact S1.out.drew) (by first | exact T1.out | exact T1.out.drew) (by first | exact S2.out | exact S2.out.drew) (by first | exact T2.out | exact T2.out.drew) F1.out F2.out CX.out).mono ?_); rintro e a1 ⟨rfl, hb⟩; have BB1 := Lib.hid (show Below v3.heap.size v3 a1 from (by first | exact hb | exact (Below.refl _ _).drew.trans (hb.mono (Nat.le_refl _)))); have f0 : a1.cell? ⟨w.heap.size, 0, none⟩ = some (.bool (nOf (p1))) := (X1.out.below BB1.out).c 0 rfl; have f1 : a1.cell? ⟨w.heap.size, 1, none⟩ = some (.slice A1 n1 c1) := (X1.out.below BB1.out).c 1 rfl; have f2 : a1.cell? ⟨w.heap.size, 2, none⟩ = some (.bool (nOf (q1))) := (X1.out.below BB1.out).c 2 rfl; have f3 : a1.cell? ⟨w.heap.size, 3, none⟩ = some (.slice B1 m1 d1) := (X1.out.below BB1.out).c 3 rfl; have f4 : a1.cell? ⟨w.heap.size + 1, 0, none⟩ = some (.bool (nOf (p2))) := (X2.out.below BB1.out).c 0 rfl; have f5 : a1.cell? ⟨w.heap.size + 1, 1, none⟩ = some (.slice A2 n2 c2) := (X2.out.below BB1.out).c 1 rfl; have f6 : a1.cell? ⟨w.heap.size + 1, 2, none⟩ = some (.bool (nOf (q2))) := (X2.out.below BB1.out).c 2 rfl; have f7 : a1.cell? ⟨w.heap.size + 1, 3, none⟩ = some (.slice B2 m2 d2) := (X2.out.below BB1.out).c 3 rfl; have f8 : a1.cell? ⟨w.heap.size + 1 + 1, 0, none⟩ = some (.bool (nOf (p3))) := (X3.out.below BB1.out).c 0 rfl; have f9 : a1.cell? ⟨w.heap.size + 1 + 1, 1, none⟩ = some (.slice A3 n3 c3) := (X3.out.below BB1.out).c 1 rfl; have f10 : a1.cell? ⟨w.heap.size + 1 + 1, 2, none⟩ = some (.bool (nOf (q3))) := (X3.out.below BB1.out).c 2 rfl; have f11 : a1.cell? ⟨w.heap.size + 1 + 1, 3, none⟩ = some (.slice B3 m3 d3) := (X3.out.below BB1.out).c 3 rfl; clear hb) | (go_at_call 37; (with_reducible refine (rcmp_ok p2 q2 p3 q3 cy A2 B2 A3 B3 n2 c2 m2 d2 n3 c3 m3 d3 _ (S2.out.below BB1.out) (T2.out.below BB1.out) (S3.out.below BB1.out) (T3.out.below BB1.out) F2.out F3.out CY.out).mono ?_); rintro e a2 ⟨rfl, hb⟩; have BB2 := Lib.hid (below_up BB1.out hb); have f0 : a2.cell? ⟨w.heap.size, 0, none⟩ = some (.bool (nOf (p1))) := (X1.out.below BB2.out).c 0 rfl; have f1 : a2.cell? ⟨w.heap.size, 1, none⟩ = some (.slice A1 n1 c1) := (X1.out.below BB2.out).c 1 rfl; have f2 : a2.cell? ⟨w.heap.size, 2, none⟩ = some (.bool (nOf (q1))) := (X1.out.below BB2.out).c 2 rfl; have f3 : a2.cell? ⟨w.heap.size, 3, none⟩ = some (.slice B1 m1 d1) := (X1.out.below BB2.out).c 3 rfl; have f4 : a2.cell? ⟨w.heap.size + 1, 0, none⟩ = some (.bool (nOf (p2))) := (X2.out.below BB2.out).c 0 rfl; have f5 : a2.cell? ⟨w.heap.size + 1, 1, none⟩ = some (.slice A2 n2 c2) := (X2.out.below BB2.out).c 1 rfl; have f6 : a2.cell? ⟨w.heap.size + 1, 2, none⟩ = some (.bool (nOf (q2))) := (X2.out.below BB2.out).c 2 rfl; have f7 : a2.cell? ⟨w.heap.size + 1, 3, none⟩ = some (.slice B2 m2 d2) := (X2.out.below BB2.out).c 3 rfl; have f8 : a2.cell? ⟨w.heap.size + 1 + 1, 0, none⟩ = some (.bool (nOf (p3))) := (X3.out.below BB2.out).c 0 rfl; have f9 : a2.cell? ⟨w.heap.size + 1 + 1, 1, none⟩ = some (.slice A3 n3 c3) := (X3.out.below BB2.out).c 1 rfl; have f10 : a2.cell? ⟨w.heap.size + 1 + 1, 2, none⟩ = some (.bool (nOf (q3))) := (X3.out.below BB2.out).c 2 rfl; have f11 : a2.cell? ⟨w.heap.size + 1 + 1, 3, none⟩ = some (.slice B3 m3 d3) := (X3.out.below BB2.out).c 3 rfl; clear hb))
          clear e0 e1 e2 e3 e4 e5 e6 e7 e8 e9 e10 e11
          try clear f0 f1 f2 f3 f4 f5 f6 f7 f8 f9 f10 f11
          have S1 := Lib.hid (S1.out.below BB2.out)
          have T1 := Lib.hid (T1.out.below BB2.out)
          have S2 := Lib.hid (S2.out.below BB2.out)
          have T2 := Lib.hid (T2.out.below BB2.out)
          have S3 := Lib.hid (S3.out.below BB2.out)
          have T3 := Lib.hid (T3.out.below BB2.out)
          have TB := Lib.hid (tab_on TB.out BB2.out)
          have BW := Lib.hid (below_on BW.out BB2.out)
          have X1 := Lib.hid (X1.out.below BB2.out)
          have X2 := Lib.hid (X2.out.below BB2.out)
          have X3 := Lib.hid (X3.out.below BB2.out)
          go_upto_region 4 with fail
          have e0 : a2.cell? ⟨w.heap.size, 0, none⟩ = some (.bool (nOf (p1))) := X1.out.c 0 rfl
          have e1 : a2.cell? ⟨w.heap.size, 1, none⟩ = some (.slice A1 n1 c1) := X1.out.c 1 rfl
          have e2 : a2.cell? ⟨w.heap.size, 2, none⟩ = some (.bool (nOf (q1))) := X1.out.c 2 rfl
          have e3 : a2.cell? ⟨w.heap.size, 3, none⟩ = some (.slice B1 m1 d1) := X1.out.c 3 rfl
          have e4 : a2.cell? ⟨w.heap.size + 1, 0, none⟩ = some (.bool (nOf (p2))) := X2.out.c 0 rfl
          have e5 : a2.cell? ⟨w.heap.size + 1, 1, none⟩ = some (.slice A2 n2 c2) := X2.out.c 1 rfl
          have e6 : a2.cell? ⟨w.heap.size + 1, 2, none⟩ = some (.bool (nOf (q2))) := X2.out.c 2 rfl
          have e7 : a2.cell? ⟨w.heap.size + 1, 3, none⟩ = some (.slice B2 m2 d2) := X2.out.c 3 rfl
          have e8 : a2.cell? ⟨w.heap.size + 1 + 1, 0, none⟩ = some (.bool (nOf (p3))) := X3.out.c 0 rfl
          have e9 : a2.cell? ⟨w.heap.size + 1 + 1, 1, none⟩ = some (.slice A3 n3 c3) := X3.out.c 1 rfl
          have e10 : a2.cell? ⟨w.heap.size + 1 + 1, 2, none⟩ = some (.bool (nOf (q3))) := X3.out.c 2 rfl
          have e11 : a2.cell? ⟨w.heap.size + 1 + 1, 3, none⟩ = some (.slice B3 m3 d3) := X3.out.c 3 rfl
          go_wp2_with fail
          ((with_reducible refine (rcmp_ok p2 q2 p1 q1 (-cx) A2 B2 A1 B1 n2 c2 m2 d2 n1 c1 m1 d1 _ S2.out T2.out S1.out T1.out F2.out F1.out CW.out).mono ?_); rintro e w2 ⟨rfl, hb⟩)
          clear e0 e1 e2 e3 e4 e5 e6 e7 e8 e9 e10 e11
          have S1 := Lib.hid (S1.out.below hb)
          have T1 := Lib.hid (T1.out.below hb)
          have S2 := Lib.hid (S2.out.below hb)
          have T2 := Lib.hid (T2.out.below hb)
          have S3 := Lib.hid (S3.out.below hb)
          have T3 := Lib.hid (T3.out.below hb)
          have TB := Lib.hid (tab_on TB.out hb)
          have BW := Lib.hid (below_on BW.out hb)
          have X1 := Lib.hid (X1.out.below hb)
          have X2 := Lib.hid (X2.out.below hb)
          have X3 := Lib.hid (X3.out.below hb)
          clear hb
          have e0 : w2.cell? ⟨w.heap.size, 0, none⟩ = some (.bool (nOf (p1))) := X1.out.c 0 rfl
          have e1 : w2.cell? ⟨w.heap.size, 1, none⟩ = some (.slice A1 n1 c1) := X1.out.c 1 rfl
          have e2 : w2.cell? ⟨w.heap.size, 2, none⟩ = some (.bool (nOf (q1))) := X1.out.c 2 rfl
          have e3 : w2.cell? ⟨w.heap.size, 3, none⟩ = some (.slice B1 m1 d1) := X1.out.c 3 rfl
          have e4 : w2.cell? ⟨w.heap.size + 1, 0, none⟩ = some (.bool (nOf (p2))) := X2.out.c 0 rfl
          have e5 : w2.cell? ⟨w.heap.size + 1, 1, none⟩ = some (.slice A2 n2 c2) := X2.out.c 1 rfl
          have e6 : w2.cell? ⟨w.heap.size + 1, 2, none⟩ = some (.bool (nOf (q2))) := X2.out.c 2 rfl
          have e7 : w2.cell? ⟨w.heap.size + 1, 3, none⟩ = some (.slice B2 m2 d2) := X2.out.c 3 rfl
          have e8 : w2.cell? ⟨w.heap.size + 1 + 1, 0, none⟩ = some (.bool (nOf (p3))) := X3.out.c 0 rfl
          have e9 : w2.cell? ⟨w.heap.size + 1 + 1, 1, none⟩ = some (.slice A3 n3 c3) := X3.out.c 1 rfl
          have e10 : w2.cell? ⟨w.heap.size + 1 + 1, 2, none⟩ = some (.bool (nOf (q3))) := X3.out.c 2 rfl
          have e11 : w2.cell? ⟨w.heap.size + 1 + 1, 3, none⟩ = some (.slice B3 m3 d3) := X3.out.c 3 rfl
          go_wp2_with fail
          ((with_reducible refine (samer_z p1 q1 p2 q2 A1 B1 A2 B2 n1 c1 m1 d1 n2 c2 m2 d2 _ S1.out T1.out S2.out T2.out).mono ?_); rintro e w3 ⟨rfl, hb⟩)
          rw [CS.out]
          clear e0 e1 e2 e3 e4 e5 e6 e7 e8 e9 e10 e11
          have S1 := Lib.hid (S1.out.below hb)
          have T1 := Lib.hid (T1.out.below hb)
          have S2 := Lib.hid (S2.out.below hb)
          have T2 := Lib.hid (T2.out.below hb)
          have S3 := Lib.hid (S3.out.below hb)
          have T3 := Lib.hid (T3.out.below hb)
          have TB := Lib.hid (tab_on TB.out hb)
          have BW := Lib.hid (below_on BW.out hb)
          have X1 := Lib.hid (X1.out.below hb)
          have X2 := Lib.hid (X2.out.below hb)
          have X3 := Lib.hid (X3.out.below hb)
          clear hb
          by_cases hx : cx ≤ 0
          · by_cases hy : cy ≤ 0
            · have HX := Lib.hid hx
              have HY := Lib.hid hy
              have HT := Lib.hid (cmp_trans F1.out.pos F2.out.pos F3.out.pos (by rw [CX.out]; exact hx) (by rw [CY.out]; exact hy))
              generalize hz : cmpI (p1 * q3) (p3 * q1) = cz at *
              have CZ := Lib.hid hz
              clear hz
              have hz := HT.out
              have e0 : w3.cell? ⟨w.heap.size, 0, none⟩ = some (.bool (nOf (p1))) := X1.out.c 0 rfl
              have e1 : w3.cell? ⟨w.heap.size, 1, none⟩ = some (.slice A1 n1 c1) := X1.out.c 1 rfl
              have e2 : w3.cell? ⟨w.heap.size, 2, none⟩ = some (.bool (nOf (q1))) := X1.out.c 2 rfl
              have e3 : w3.cell? ⟨w.heap.size, 3, none⟩ = some (.slice B1 m1 d1) := X1.out.c 3 rfl
              have e4 : w3.cell? ⟨w.heap.size + 1, 0, none⟩ = some (.bool (nOf (p2))) := X2.out.c 0 rfl
              have e5 : w3.cell? ⟨w.heap.size + 1, 1, none⟩ = some (.slice A2 n2 c2) := X2.out.c 1 rfl
              have e6 : w3.cell? ⟨w.heap.size + 1, 2, none⟩ = some (.bool (nOf (q2))) := X2.out.c 2 rfl
              have e7 : w3.cell? ⟨w.heap.size + 1, 3, none⟩ = some (.slice B2 m2 d2) := X2.out.c 3 rfl
              have e8 : w3.cell? ⟨w.heap.size + 1 + 1, 0, none⟩ = some (.bool (nOf (p3))) := X3.out.c 0 rfl
              have e9 : w3.cell? ⟨w.heap.size + 1 + 1, 1, none⟩ = some (.slice A3 n3 c3) := X3.out.c 1 rfl
              have e10 : w3.cell? ⟨w.heap.size + 1 + 1, 2, none⟩ = some (.bool (nOf (q3))) := X3.out.c 2 rfl
              have e11 : w3.cell? ⟨w.heap.size + 1 + 1, 3, none⟩ = some (.slice B3 m3 d3) := X3.out.c 3 rfl
              go_wp2_with fail
              ((with_reducible refine (rcmp_ok p1 q1 p3 q3 cz A1 B1 A3 B3 n1 c1 m1 d1 n3 c3 m3 d3 _ S1.out T1.out S3.out T3.out F1.out F3.out CZ.out).mono ?_); rintro e w4 ⟨rfl, hb⟩)
              clear e0 e1 e2 e3 e4 e5 e6 e7 e8 e9 e10 e11
              have S1 := Lib.hid (S1.out.below hb)
              have T1 := Lib.hid (T1.out.below hb)
              have S2 := Lib.hid (S2.out.below hb)
              have T2 := Lib.hid (T2.out.below hb)
              have S3 := Lib.hid (S3.out.below hb)
              have T3 := Lib.hid (T3.out.below hb)
              have TB := Lib.hid (tab_on TB.out hb)
              have BW := Lib.hid (below_on BW.out hb)
              have X1 := Lib.hid (X1.out.below hb)
              have X2 := Lib.hid (X2.out.below hb)
              have X3 := Lib.hid (X3.out.below hb)
              clear hb
              have e0 : w4.cell? ⟨w.heap.size, 0, none⟩ = some (.bool (nOf (p1))) := X1.out.c 0 rfl
              have e1 : w4.cell? ⟨w.heap.size, 1, none⟩ = some (.slice A1 n1 c1) := X1.out.c 1 rfl
              have e2 : w4.cell? ⟨w.heap.size, 2, none⟩ = some (.bool (nOf (q1))) := X1.out.c 2 rfl
              have e3 : w4.cell? ⟨w.heap.size, 3, none⟩ = some (.slice B1 m1 d1) := X1.out.c 3 rfl
              have e4 : w4.cell? ⟨w.heap.size + 1, 0, none⟩ = some (.bool (nOf (p2))) := X2.out.c 0 rfl
              have e5 : w4.cell? ⟨w.heap.size + 1, 1, none⟩ = some (.slice A2 n2 c2) := X2.out.c 1 rfl
              have e6 : w4.cell? ⟨w.heap.size + 1, 2, none⟩ = some (.bool (nOf (q2))) := X2.out.c 2 rfl
              have e7 : w4.cell? ⟨w.heap.size + 1, 3, none⟩ = some (.slice B2 m2 d2) := X2.out.c 3 rfl
              have e8 : w4.cell? ⟨w.heap.size + 1 + 1, 0, none⟩ = some (.bool (nOf (p3))) := X3.out.c 0 rfl
              have e9 : w4.cell? ⟨w.heap.size + 1 + 1, 1, none⟩ = some (.slice A3 n3 c3) := X3.out.c 1 rfl
              have e10 : w4.cell? ⟨w.heap.size + 1 + 1, 2, none⟩ = some (.bool (nOf (q3))) := X3.out.c 2 rfl
              have e11 : w4.cell? ⟨w.heap.size + 1 + 1, 3, none⟩ = some (.slice B3 m3 d3) := X3.out.c 3 rfl
              go_wp2_with fail
              ((with_reducible refine (awake3_any _ TB.out).mono ?_); rintro e w5 ⟨rfl, hb⟩)
              clear e0 e1 e2 e3 e4 e5 e6 e7 e8 e9 e10 e11
              have S1 := Lib.hid (S1.out.below hb)
              have T1 := Lib.hid (T1.out.below hb)
              have S2 := Lib.hid (S2.out.below hb)
              have T2 := Lib.hid (T2.out.below hb)
              have S3 := Lib.hid (S3.out.below hb)
              have T3 := Lib.hid (T3.out.below hb)
              have TB := Lib.hid (tab_on TB.out hb)
              have BW := Lib.hid (below_on BW.out hb)
              have X1 := Lib.hid (X1.out.below hb)
              have X2 := Lib.hid (X2.out.below hb)
              have X3 := Lib.hid (X3.out.below hb)
              clear hb
              have e0 : w5.cell? ⟨w.heap.size, 0, none⟩ = some (.bool (nOf (p1))) := X1.out.c 0 rfl
              have e1 : w5.cell? ⟨w.heap.size, 1, none⟩ = some (.slice A1 n1 c1) := X1.out.c 1 rfl
              have e2 : w5.cell? ⟨w.heap.size, 2, none⟩ = some (.bool (nOf (q1))) := X1.out.c 2 rfl
              have e3 : w5.cell? ⟨w.heap.size, 3, none⟩ = some (.slice B1 m1 d1) := X1.out.c 3 rfl
              have e4 : w5.cell? ⟨w.heap.size + 1, 0, none⟩ = some (.bool (nOf (p2))) := X2.out.c 0 rfl
              have e5 : w5.cell? ⟨w.heap.size + 1, 1, none⟩ = some (.slice A2 n2 c2) := X2.out.c 1 rfl
              have e6 : w5.cell? ⟨w.heap.size + 1, 2, none⟩ = some (.bool (nOf (q2))) := X2.out.c 2 rfl
              have e7 : w5.cell? ⟨w.heap.size + 1, 3, none⟩ = some (.slice B2 m2 d2) := X2.out.c 3 rfl
              have e8 : w5.cell? ⟨w.heap.size + 1 + 1, 0, none⟩ = some (.bool (nOf (p3))) := X3.out.c 0 rfl
              have e9 : w5.cell? ⟨w.heap.size + 1 + 1, 1, none⟩ = some (.slice A3 n3 c3) := X3.out.c 1 rfl
              have e10 : w5.cell? ⟨w.heap.size + 1 + 1, 2, none⟩ = some (.bool (nOf (q3))) := X3.out.c 2 rfl
              have e11 : w5.cell? ⟨w.heap.size + 1 + 1, 3, none⟩ = some (.slice B3 m3 d3) := X3.out.c 3 rfl
              go_wp2_with fail
              ((with_reducible refine (radd_ok p1 q1 p3 q3 p1 q1 p3 q3 (resN (p1 * q3 + p3 * q1) (q1 * q3)) (resD (p1 * q3 + p3 * q1) (q1 * q3)) (resB (p1 * q3 + p3 * q1) (q1 * q3)) A1 B1 A3 B3 n1 c1 m1 d1 n3 c3 m3 d3 _ S1.out T1.out S3.out T3.out (fr_of F1.out).1 (fr_of F1.out).2 (fr_of F3.out).1 (fr_of F3.out).2 rfl rfl rfl).mono ?_); rintro e w6 ⟨G1, g1, h1, I1, i1, j1, rfl, hs, ht, hb⟩)
              clear e0 e1 e2 e3 e4 e5 e6 e7 e8 e9 e10 e11
              have S1 := Lib.hid (S1.out.below hb)
              have T1 := Lib.hid (T1.out.below hb)
              have S2 := Lib.hid (S2.out.below hb)
              have T2 := Lib.hid (T2.out.below hb)
              have S3 := Lib.hid (S3.out.below hb)
              have T3 := Lib.hid (T3.out.below hb)
              have TB := Lib.hid (tab_on TB.out hb)
              have BW := Lib.hid (below_on BW.out hb)
              have X1 := Lib.hid (X1.out.below hb)
              have X2 := Lib.hid (X2.out.below hb)
              have X3 := Lib.hid (X3.out.below hb)
              clear hb
              have U1 := Lib.hid hs
              have V1 := Lib.hid ht
              clear hs ht
              have e0 : w6.cell? ⟨w.heap.size, 0, none⟩ = some (.bool (nOf (p1))) := X1.out.c 0 rfl
              have e1 : w6.cell? ⟨w.heap.size, 1, none⟩ = some (.slice A1 n1 c1) := X1.out.c 1 rfl
              have e2 : w6.cell? ⟨w.heap.size, 2, none⟩ = some (.bool (nOf (q1))) := X1.out.c 2 rfl
              have e3 : w6.cell? ⟨w.heap.size, 3, none⟩ = some (.slice B1 m1 d1) := X1.out.c 3 rfl
              have e4 : w6.cell? ⟨w.heap.size + 1, 0, none⟩ = some (.bool (nOf (p2))) := X2.out.c 0 rfl
              have e5 : w6.cell? ⟨w.heap.size + 1, 1, none⟩ = some (.slice A2 n2 c2) := X2.out.c 1 rfl
              have e6 : w6.cell? ⟨w.heap.size + 1, 2, none⟩ = some (.bool (nOf (q2))) := X2.out.c 2 rfl
              have e7 : w6.cell? ⟨w.heap.size + 1, 3, none⟩ = some (.slice B2 m2 d2) := X2.out.c 3 rfl
              have e8 : w6.cell? ⟨w.heap.size + 1 + 1, 0, none⟩ = some (.bool (nOf (p3))) := X3.out.c 0 rfl
              have e9 : w6.cell? ⟨w.heap.size + 1 + 1, 1, none⟩ = some (.slice A3 n3 c3) := X3.out.c 1 rfl
              have e10 : w6.cell? ⟨w.heap.size + 1 + 1, 2, none⟩ = some (.bool (nOf (q3))) := X3.out.c 2 rfl
              have e11 : w6.cell? ⟨w.heap.size + 1 + 1, 3, none⟩ = some (.slice B3 m3 d3) := X3.out.c 3 rfl
              go_upto_region 7 with fail
              clear e0 e1 e2 e3 e4 e5 e6 e7 e8 e9 e10 e11
              have ln4 := X1.out.lt
              have ln5 := X2.out.lt
              have ln6 := X3.out.lt
              have S1 := Lib.hid (S1.out.alloc (.cells #[.bool (nOf (resN (p1 * q3 + p3 * q1) (q1 * q3))), .slice G1 g1 h1, .bool (nOf (resD (p1 * q3 + p3 * q1) (q1 * q3))), .slice I1 i1 j1] 37))
              have T1 := Lib.hid (T1.out.alloc (.cells #[.bool (nOf (resN (p1 * q3 + p3 * q1) (q1 * q3))), .slice G1 g1 h1, .bool (nOf (resD (p1 * q3 + p3 * q1) (q1 * q3))), .slice I1 i1 j1] 37))
              have S2 := Lib.hid (S2.out.alloc (.cells #[.bool (nOf (resN (p1 * q3 + p3 * q1) (q1 * q3))), .slice G1 g1 h1, .bool (nOf (resD (p1 * q3 + p3 * q1) (q1 * q3))), .slice I1 i1 j1] 37))
              have T2 := Lib.hid (T2.out.alloc (.cells #[.bool (nOf (resN (p1 * q3 + p3 * q1) (q1 * q3))), .slice G1 g1 h1, .bool (nOf (resD (p1 * q3 + p3 * q1) (q1 * q3))), .slice I1 i1 j1] 37))
              have S3 := Lib.hid (S3.out.alloc (.cells #[.bool (nOf (resN (p1 * q3 + p3 * q1) (q1 * q3))), .slice G1 g1 h1, .bool (nOf (resD (p1 * q3 + p3 * q1) (q1 * q3))), .slice I1 i1 j1] 37))
              have T3 := Lib.hid (T3.out.alloc (.cells #[.bool (nOf (resN (p1 * q3 + p3 * q1) (q1 * q3))), .slice G1 g1 h1, .bool (nOf (resD (p1 * q3 + p3 * q1) (q1 * q3))), .slice I1 i1 j1] 37))
              have TB := Lib.hid (tab_on TB.out ((Below.refl _ _).alloc (Nat.le_refl _) (.cells #[.bool (nOf (resN (p1 * q3 + p3 * q1) (q1 * q3))), .slice G1 g1 h1, .bool (nOf (resD (p1 * q3 + p3 * q1) (q1 * q3))), .slice I1 i1 j1] 37)))
              have BW := Lib.hid (BW.out.alloc BW.out.size (.cells #[.bool (nOf (resN (p1 * q3 + p3 * q1) (q1 * q3))), .slice G1 g1 h1, .bool (nOf (resD (p1 * q3 + p3 * q1) (q1 * q3))), .slice I1 i1 j1] 37))
              have X1 := Lib.hid (X1.out.alloc (.cells #[.bool (nOf (resN (p1 * q3 + p3 * q1) (q1 * q3))), .slice G1 g1 h1, .bool (nOf (resD (p1 * q3 + p3 * q1) (q1 * q3))), .slice I1 i1 j1] 37))
              have X2 := Lib.hid (X2.out.alloc (.cells #[.bool (nOf (resN (p1 * q3 + p3 * q1) (q1 * q3))), .slice G1 g1 h1, .bool (nOf (resD (p1 * q3 + p3 * q1) (q1 * q3))), .slice I1 i1 j1] 37))
              have X3 := Lib.hid (X3.out.alloc (.cells #[.bool (nOf (resN (p1 * q3 + p3 * q1) (q1 * q3))), .slice G1 g1 h1, .bool (nOf (resD (p1 * q3 + p3 * q1) (q1 * q3))), .slice I1 i1 j1] 37))
              have U1 := Lib.hid (U1.out.alloc (.cells #[.bool (nOf (resN (p1 * q3 + p3 * q1) (q1 * q3))), .slice G1 g1 h1, .bool (nOf (resD (p1 * q3 + p3 * q1) (q1 * q3))), .slice I1 i1 j1] 37))
              have V1 := Lib.hid (V1.out.alloc (.cells #[.bool (nOf (resN (p1 * q3 + p3 * q1) (q1 * q3))), .slice G1 g1 h1, .bool (nOf (resD (p1 * q3 + p3 * q1) (q1 * q3))), .slice I1 i1 j1] 37))
              have Y1 := Lib.hid (Bk.new 37 w6 #[.bool (nOf (resN (p1 * q3 + p3 * q1) (q1 * q3))), .slice G1 g1 h1, .bool (nOf (resD (p1 * q3 + p3 * q1) (q1 * q3))), .slice I1 i1 j1])
              generalize (w6.alloc (.cells #[.bool (nOf (resN (p1 * q3 + p3 * q1) (q1 * q3))), .slice G1 g1 h1, .bool (nOf (resD (p1 * q3 + p3 * q1) (q1 * q3))), .slice I1 i1 j1] 37)) = W7 at *
              have e0 : W7.cell? ⟨w.heap.size, 0, none⟩ = some (.bool (nOf (p1))) := X1.out.c 0 rfl
              have e1 : W7.cell? ⟨w.heap.size, 1, none⟩ = some (.slice A1 n1 c1) := X1.out.c 1 rfl
              have e2 : W7.cell? ⟨w.heap.size, 2, none⟩ = some (.bool (nOf (q1))) := X1.out.c 2 rfl
              have e3 : W7.cell? ⟨w.heap.size, 3, none⟩ = some (.slice B1 m1 d1) := X1.out.c 3 rfl
              have e4 : W7.cell? ⟨w.heap.size + 1, 0, none⟩ = some (.bool (nOf (p2))) := X2.out.c 0 rfl
              have e5 : W7.cell? ⟨w.heap.size + 1, 1, none⟩ = some (.slice A2 n2 c2) := X2.out.c 1 rfl
              have e6 : W7.cell? ⟨w.heap.size + 1, 2, none⟩ = some (.bool (nOf (q2))) := X2.out.c 2 rfl
              have e7 : W7.cell? ⟨w.heap.size + 1, 3, none⟩ = some (.slice B2 m2 d2) := X2.out.c 3 rfl
              have e8 : W7.cell? ⟨w.heap.size + 1 + 1, 0, none⟩ = some (.bool (nOf (p3))) := X3.out.c 0 rfl
              have e9 : W7.cell? ⟨w.heap.size + 1 + 1, 1, none⟩ = some (.slice A3 n3 c3) := X3.out.c 1 rfl
              have e10 : W7.cell? ⟨w.heap.size + 1 + 1, 2, none⟩ = some (.bool (nOf (q3))) := X3.out.c 2 rfl
              have e11 : W7.cell? ⟨w.heap.size + 1 + 1, 3, none⟩ = some (.slice B3 m3 d3) := X3.out.c 3 rfl
              go_wp2_with fail
              ((with_reducible refine (radd_ok p2 q2 p3 q3 p2 q2 p3 q3 (resN (p2 * q3 + p3 * q2) (q2 * q3)) (resD (p2 * q3 + p3 * q2) (q2 * q3)) (resB (p2 * q3 + p3 * q2) (q2 * q3)) A2 B2 A3 B3 n2 c2 m2 d2 n3 c3 m3 d3 _ S2.out T2.out S3.out T3.out (fr_of F2.out).1 (fr_of F2.out).2 (fr_of F3.out).1 (fr_of F3.out).2 rfl rfl rfl).mono ?_); rintro e w7 ⟨G2, g2, h2, I2, i2, j2, rfl, hs, ht, hb⟩)
              clear e0 e1 e2 e3 e4 e5 e6 e7 e8 e9 e10 e11
              have S1 := Lib.hid (S1.out.below hb)
              have T1 := Lib.hid (T1.out.below hb)
              have S2 := Lib.hid (S2.out.below hb)
              have T2 := Lib.hid (T2.out.below hb)
              have S3 := Lib.hid (S3.out.below hb)
              have T3 := Lib.hid (T3.out.below hb)
              have TB := Lib.hid (tab_on TB.out hb)
              have BW := Lib.hid (below_on BW.out hb)
              have X1 := Lib.hid (X1.out.below hb)
              have X2 := Lib.hid (X2.out.below hb)
              have X3 := Lib.hid (X3.out.below hb)
              have U1 := Lib.hid (U1.out.below hb)
              have V1 := Lib.hid (V1.out.below hb)
              have Y1 := Lib.hid (Y1.out.below hb)
              clear hb
              have U2 := Lib.hid hs
              have V2 := Lib.hid ht
              clear hs ht
              have e0 : w7.cell? ⟨w.heap.size, 0, none⟩ = some (.bool (nOf (p1))) := X1.out.c 0 rfl
              have e1 : w7.cell? ⟨w.heap.size, 1, none⟩ = some (.slice A1 n1 c1) := X1.out.c 1 rfl
              have e2 : w7.cell? ⟨w.heap.size, 2, none⟩ = some (.bool (nOf (q1))) := X1.out.c 2 rfl
              have e3 : w7.cell? ⟨w.heap.size, 3, none⟩ = some (.slice B1 m1 d1) := X1.out.c 3 rfl
              have e4 : w7.cell? ⟨w.heap.size + 1, 0, none⟩ = some (.bool (nOf (p2))) := X2.out.c 0 rfl
              have e5 : w7.cell? ⟨w.heap.size + 1, 1, none⟩ = some (.slice A2 n2 c2) := X2.out.c 1 rfl
              have e6 : w7.cell? ⟨w.heap.size + 1, 2, none⟩ = some (.bool (nOf (q2))) := X2.out.c 2 rfl
              have e7 : w7.cell? ⟨w.heap.size + 1, 3, none⟩ = some (.slice B2 m2 d2) := X2.out.c 3 rfl
              have e8 : w7.cell? ⟨w.heap.size + 1 + 1, 0, none⟩ = some (.bool (nOf (p3))) := X3.out.c 0 rfl
              have e9 : w7.cell? ⟨w.heap.size + 1 + 1, 1, none⟩ = some (.slice A3 n3 c3) := X3.out.c 1 rfl
              have e10 : w7.cell? ⟨w.heap.size + 1 + 1, 2, none⟩ = some (.bool (nOf (q3))) := X3.out.c 2 rfl
              have e11 : w7.cell? ⟨w.heap.size + 1 + 1, 3, none⟩ = some (.slice B3 m3 d3) := X3.out.c 3 rfl
              go_upto_region 8 with fail
              clear e0 e1 e2 e3 e4 e5 e6 e7 e8 e9 e10 e11
              have ln7 := X1.out.lt
              have ln8 := X2.out.lt
              have ln9 := X3.out.lt
              have ln10 := Y1.out.lt
              have S1 := Lib.hid (S1.out.alloc (.cells #[.bool (nOf (resN (p2 * q3 + p3 * q2) (q2 * q3))), .slice G2 g2 h2, .bool (nOf (resD (p2 * q3 + p3 * q2) (q2 * q3))), .slice I2 i2 j2] 37))
              have T1 := Lib.hid (T1.out.alloc (.cells #[.bool (nOf (resN (p2 * q3 + p3 * q2) (q2 * q3))), .slice G2 g2 h2, .bool (nOf (resD (p2 * q3 + p3 * q2) (q2 * q3))), .slice I2 i2 j2] 37))
              have S2 := Lib.hid (S2.out.alloc (.cells #[.bool (nOf (resN (p2 * q3 + p3 * q2) (q2 * q3))), .slice G2 g2 h2, .bool (nOf (resD (p2 * q3 + p3 * q2) (q2 * q3))), .slice I2 i2 j2] 37))
              have T2 := Lib.hid (T2.out.alloc (.cells #[.bool (nOf (resN (p2 * q3 + p3 * q2) (q2 * q3))), .slice G2 g2 h2, .bool (nOf (resD (p2 * q3 + p3 * q2) (q2 * q3))), .slice I2 i2 j2] 37))
              have S3 := Lib.hid (S3.out.alloc (.cells #[.bool (nOf (resN (p2 * q3 + p3 * q2) (q2 * q3))), .slice G2 g2 h2, .bool (nOf (resD (p2 * q3 + p3 * q2) (q2 * q3))), .slice I2 i2 j2] 37))
              have T3 := Lib.hid (T3.out.alloc (.cells #[.bool (nOf (resN (p2 * q3 + p3 * q2) (q2 * q3))), .slice G2 g2 h2, .bool (nOf (resD (p2 * q3 + p3 * q2) (q2 * q3))), .slice I2 i2 j2] 37))
              have TB := Lib.hid (tab_on TB.out ((Below.refl _ _).alloc (Nat.le_refl _) (.cells #[.bool (nOf (resN (p2 * q3 + p3 * q2) (q2 * q3))), .slice G2 g2 h2, .bool (nOf (resD (p2 * q3 + p3 * q2) (q2 * q3))), .slice I2 i2 j2] 37)))
              have BW := Lib.hid (BW.out.alloc BW.out.size (.cells #[.bool (nOf (resN (p2 * q3 + p3 * q2) (q2 * q3))), .slice G2 g2 h2, .bool (nOf (resD (p2 * q3 + p3 * q2) (q2 * q3))), .slice I2 i2 j2] 37))
              have X1 := Lib.hid (X1.out.alloc (.cells #[.bool (nOf (resN (p2 * q3 + p3 * q2) (q2 * q3))), .slice G2 g2 h2, .bool (nOf (resD (p2 * q3 + p3 * q2) (q2 * q3))), .slice I2 i2 j2] 37))
              have X2 := Lib.hid (X2.out.alloc (.cells #[.bool (nOf (resN (p2 * q3 + p3 * q2) (q2 * q3))), .slice G2 g2 h2, .bool (nOf (resD (p2 * q3 + p3 * q2) (q2 * q3))), .slice I2 i2 j2] 37))
              have X3 := Lib.hid (X3.out.alloc (.cells #[.bool (nOf (resN (p2 * q3 + p3 * q2) (q2 * q3))), .slice G2 g2 h2, .bool (nOf (resD (p2 * q3 + p3 * q2) (q2 * q3))), .slice I2 i2 j2] 37))
              have U1 := Lib.hid (U1.out.alloc (.cells #[.bool (nOf (resN (p2 * q3 + p3 * q2) (q2 * q3))), .slice G2 g2 h2, .bool (nOf (resD (p2 * q3 + p3 * q2) (q2 * q3))), .slice I2 i2 j2] 37))
              have V1 := Lib.hid (V1.out.alloc (.cells #[.bool (nOf (resN (p2 * q3 + p3 * q2) (q2 * q3))), .slice G2 g2 h2, .bool (nOf (resD (p2 * q3 + p3 * q2) (q2 * q3))), .slice I2 i2 j2] 37))
              have Y1 := Lib.hid (Y1.out.alloc (.cells #[.bool (nOf (resN (p2 * q3 + p3 * q2) (q2 * q3))), .slice G2 g2 h2, .bool (nOf (resD (p2 * q3 + p3 * q2) (q2 * q3))), .slice I2 i2 j2] 37))
              have U2 := Lib.hid (U2.out.alloc (.cells #[.bool (nOf (resN (p2 * q3 + p3 * q2) (q2 * q3))), .slice G2 g2 h2, .bool (nOf (resD (p2 * q3 + p3 * q2) (q2 * q3))), .slice I2 i2 j2] 37))
              have V2 := Lib.hid (V2.out.alloc (.cells #[.bool (nOf (resN (p2 * q3 + p3 * q2) (q2 * q3))), .slice G2 g2 h2, .bool (nOf (resD (p2 * q3 + p3 * q2) (q2 * q3))), .slice I2 i2 j2] 37))
              have Y2 := Lib.hid (Bk.new 37 w7 #[.bool (nOf (resN (p2 * q3 + p3 * q2) (q2 * q3))), .slice G2 g2 h2, .bool (nOf (resD (p2 * q3 + p3 * q2) (q2 * q3))), .slice I2 i2 j2])
              generalize (w7.alloc (.cells #[.bool (nOf (resN (p2 * q3 + p3 * q2) (q2 * q3))), .slice G2 g2 h2, .bool (nOf (resD (p2 * q3 + p3 * q2) (q2 * q3))), .slice I2 i2 j2] 37)) = W8 at *
              rcases Bool.eq_false_or_eq_true (resB (p1 * q3 + p3 * q1) (q1 * q3)) with b1 | b1
              · have B1 := Lib.hid b1
                rw [b1]
                clear b1
                rcases Bool.eq_false_or_eq_true (resB (p2 * q3 + p3 * q2) (q2 * q3)) with b2 | b2
                · have B2 := Lib.hid b2
                  rw [b2]
                  clear b2
                  have RC := Lib.hid (res_cmp F1.out.pos F2.out.pos F3.out.pos B1.out B2.out)
                  have RC := Lib.hid (RC.out.trans CX.out)
                  have e0 : W8.cell? ⟨w6.heap.size, 0, none⟩ = some (.bool (nOf (resN (p1 * q3 + p3 * q1) (q1 * q3)))) := Y1.out.c 0 rfl
                  have e1 : W8.cell? ⟨w6.heap.size, 1, none⟩ = some (.slice G1 g1 h1) := Y1.out.c 1 rfl
                  have e2 : W8.cell? ⟨w6.heap.size, 2, none⟩ = some (.bool (nOf (resD (p1 * q3 + p3 * q1) (q1 * q3)))) := Y1.out.c 2 rfl
                  have e3 : W8.cell? ⟨w6.heap.size, 3, none⟩ = some (.slice I1 i1 j1) := Y1.out.c 3 rfl
                  have e4 : W8.cell? ⟨w7.heap.size, 0, none⟩ = some (.bool (nOf (resN (p2 * q3 + p3 * q2) (q2 * q3)))) := Y2.out.c 0 rfl
                  have e5 : W8.cell? ⟨w7.heap.size, 1, none⟩ = some (.slice G2 g2 h2) := Y2.out.c 1 rfl
                  have e6 : W8.cell? ⟨w7.heap.size, 2, none⟩ = some (.bool (nOf (resD (p2 * q3 + p3 * q2) (q2 * q3)))) := Y2.out.c 2 rfl
                  have e7 : W8.cell? ⟨w7.heap.size, 3, none⟩ = some (.slice I2 i2 j2) := Y2.out.c 3 rfl
                  go_wp2_with fail
                  ((with_reducible refine (rcmp_ok _ _ _ _ cx G1 I1 G2 I2 g1 h1 i1 j1 g2 h2 i2 j2 _ U1.out V1.out U2.out V2.out (Fr.res B1.out) (Fr.res B2.out) RC.out).mono ?_); rintro e w8 ⟨rfl, hb⟩)
                  clear e0 e1 e2 e3 e4 e5 e6 e7
                  have S1 := Lib.hid (S1.out.below hb)
                  have T1 := Lib.hid (T1.out.below hb)
                  have S2 := Lib.hid (S2.out.below hb)
                  have T2 := Lib.hid (T2.out.below hb)
                  have S3 := Lib.hid (S3.out.below hb)
                  have T3 := Lib.hid (T3.out.below hb)
                  have TB := Lib.hid (tab_on TB.out hb)
                  have BW := Lib.hid (below_on BW.out hb)
                  have X1 := Lib.hid (X1.out.below hb)
                  have X2 := Lib.hid (X2.out.below hb)
                  have X3 := Lib.hid (X3.out.below hb)
                  have U1 := Lib.hid (U1.out.below hb)
                  have V1 := Lib.hid (V1.out.below hb)
                  have Y1 := Lib.hid (Y1.out.below hb)
                  have U2 := Lib.hid (U2.out.below hb)
                  have V2 := Lib.hid (V2.out.below hb)
                  have Y2 := Lib.hid (Y2.out.below hb)
                  clear hb
                  go_wp2_with fail
                  go_ret
                  exact ⟨ret_bool (by simp), BW.out⟩
                · rw [b2]
                  clear b2
                  go_wp2_with fail
                  go_ret
                  exact ⟨rfl, BW.out⟩
              · rw [b1]
                clear b1
                go_wp2_with fail
                go_ret
                exact ⟨rfl, BW.out⟩
            · have e0 : w3.cell? ⟨w.heap.size, 0, none⟩ = some (.bool (nOf (p1))) := X1.out.c 0 rfl
              have e1 : w3.cell? ⟨w.heap.size, 1, none⟩ = some (.slice A1 n1 c1) := X1.out.c 1 rfl
              have e2 : w3.cell? ⟨w.heap.size, 2, none⟩ = some (.bool (nOf (q1))) := X1.out.c 2 rfl
              have e3 : w3.cell? ⟨w.heap.size, 3, none⟩ = some (.slice B1 m1 d1) := X1.out.c 3 rfl
              have e4 : w3.cell? ⟨w.heap.size + 1, 0, none⟩ = some (.bool (nOf (p2))) := X2.out.c 0 rfl
              have e5 : w3.cell? ⟨w.heap.size + 1, 1, none⟩ = some (.slice A2 n2 c2) := X2.out.c 1 rfl
              have e6 : w3.cell? ⟨w.heap.size + 1, 2, none⟩ = some (.bool (nOf (q2))) := X2.out.c 2 rfl
              have e7 : w3.cell? ⟨w.heap.size + 1, 3, none⟩ = some (.slice B2 m2 d2) := X2.out.c 3 rfl
              have e8 : w3.cell? ⟨w.heap.size + 1 + 1, 0, none⟩ = some (.bool (nOf (p3))) := X3.out.c 0 rfl
              have e9 : w3.cell? ⟨w.heap.size + 1 + 1, 1, none⟩ = some (.slice A3 n3 c3) := X3.out.c 1 rfl
              have e10 : w3.cell? ⟨w.heap.size + 1 + 1, 2, none⟩ = some (.bool (nOf (q3))) := X3.out.c 2 rfl
              have e11 : w3.cell? ⟨w.heap.size + 1 + 1, 3, none⟩ = some (.slice B3 m3 d3) := X3.out.c 3 rfl
              go_wp2_with fail
              ((with_reducible refine (awake3_any _ TB.out).mono ?_); rintro e w5 ⟨rfl, hb⟩)
              clear e0 e1 e2 e3 e4 e5 e6 e7 e8 e9 e10 e11
              have S1 := Lib.hid (S1.out.below hb)
              have T1 := Lib.hid (T1.out.below hb)
              have S2 := Lib.hid (S2.out.below hb)
              have T2 := Lib.hid (T2.out.below hb)
              have S3 := Lib.hid (S3.out.below hb)
              have T3 := Lib.hid (T3.out.below hb)
              have TB := Lib.hid (tab_on TB.out hb)
              have BW := Lib.hid (below_on BW.out hb)
              have X1 := Lib.hid (X1.out.below hb)
              have X2 := Lib.hid (X2.out.below hb)
              have X3 := Lib.hid (X3.out.below hb)
              clear hb
              have e0 : w5.cell? ⟨w.heap.size, 0, none⟩ = some (.bool (nOf (p1))) := X1.out.c 0 rfl
              have e1 : w5.cell? ⟨w.heap.size, 1, none⟩ = some (.slice A1 n1 c1) := X1.out.c 1 rfl
              have e2 : w5.cell? ⟨w.heap.size, 2, none⟩ = some (.bool (nOf (q1))) := X1.out.c 2 rfl
              have e3 : w5.cell? ⟨w.heap.size, 3, none⟩ = some (.slice B1 m1 d1) := X1.out.c 3 rfl
              have e4 : w5.cell? ⟨w.heap.size + 1, 0, none⟩ = some (.bool (nOf (p2))) := X2.out.c 0 rfl
              have e5 : w5.cell? ⟨w.heap.size + 1, 1, none⟩ = some (.slice A2 n2 c2) := X2.out.c 1 rfl
              have e6 : w5.cell? ⟨w.heap.size + 1, 2, none⟩ = some (.bool (nOf (q2))) := X2.out.c 2 rfl
              have e7 : w5.cell? ⟨w.heap.size + 1, 3, none⟩ = some (.slice B2 m2 d2) := X2.out.c 3 rfl
              have e8 : w5.cell? ⟨w.heap.size + 1 + 1, 0, none⟩ = some (.bool (nOf (p3))) := X3.out.c 0 rfl
              have e9 : w5.cell? ⟨w.heap.size + 1 + 1, 1, none⟩ = some (.slice A3 n3 c3) := X3.out.c 1 rfl
              have e10 : w5.cell? ⟨w.heap.size + 1 + 1, 2, none⟩ = some (.bool (nOf (q3))) := X3.out.c 2 rfl
              have e11 : w5.cell? ⟨w.heap.size + 1 + 1, 3, none⟩ = some (.slice B3 m3 d3) := X3.out.c 3 rfl
              go_wp2_with fail
              ((with_reducible refine (radd_ok p1 q1 p3 q3 p1 q1 p3 q3 (resN (p1 * q3 + p3 * q1) (q1 * q3)) (resD (p1 * q3 + p3 * q1) (q1 * q3)) (resB (p1 * q3 + p3 * q1) (q1 * q3)) A1 B1 A3 B3 n1 c1 m1 d1 n3 c3 m3 d3 _ S1.out T1.out S3.out T3.out (fr_of F1.out).1 (fr_of F1.out).2 (fr_of F3.out).1 (fr_of F3.out).2 rfl rfl rfl).mono ?_); rintro e w6 ⟨G1, g1, h1, I1, i1, j1, rfl, hs, ht, hb⟩)
              clear e0 e1 e2 e3 e4 e5 e6 e7 e8 e9 e10 e11
              have S1 := Lib.hid (S1.out.below hb)
              have T1 := Lib.hid (T1.out.below hb)
              have S2 := Lib.hid (S2.out.below hb)
              have T2 := Lib.hid (T2.out.below hb)
              have S3 := Lib.hid (S3.out.below hb)
              have T3 := Lib.hid (T3.out.below hb)
              have TB := Lib.hid (tab_on TB.out hb)
              have BW := Lib.hid (below_on BW.out hb)
              have X1 := Lib.hid (X1.out.below hb)
              have X2 := Lib.hid (X2.out.below hb)
              have X3 := Lib.hid (X3.out.below hb)
              clear hb
              have U1 := Lib.hid hs
              have V1 := Lib.hid ht
              clear hs ht
              have e0 : w6.cell? ⟨w.heap.size, 0, none⟩ = some (.bool (nOf (p1))) := X1.out.c 0 rfl
              have e1 : w6.cell? ⟨w.heap.size, 1, none⟩ = some (.slice A1 n1 c1) := X1.out.c 1 rfl
              have e2 : w6.cell? ⟨w.heap.size, 2, none⟩ = some (.bool (nOf (q1))) := X1.out.c 2 rfl
              have e3 : w6.cell? ⟨w.heap.size, 3, none⟩ = some (.slice B1 m1 d1) := X1.out.c 3 rfl
              have e4 : w6.cell? ⟨w.heap.size + 1, 0, none⟩ = some (.bool (nOf (p2))) := X2.out.c 0 rfl
              have e5 : w6.cell? ⟨w.heap.size + 1, 1, none⟩ = some (.slice A2 n2 c2) := X2.out.c 1 rfl
              have e6 : w6.cell? ⟨w.heap.size + 1, 2, none⟩ = some (.bool (nOf (q2))) := X2.out.c 2 rfl
              have e7 : w6.cell? ⟨w.heap.size + 1, 3, none⟩ = some (.slice B2 m2 d2) := X2.out.c 3 rfl
              have e8 : w6.cell? ⟨w.heap.size + 1 + 1, 0, none⟩ = some (.bool (nOf (p3))) := X3.out.c 0 rfl
              have e9 : w6.cell? ⟨w.heap.size + 1 + 1, 1, none⟩ = some (.slice A3 n3 c3) := X3.out.c 1 rfl
              have e10 : w6.cell? ⟨w.heap.size + 1 + 1, 2, none⟩ = some (.bool (nOf (q3))) := X3.out.c 2 rfl
              have e11 : w6.cell? ⟨w.heap.size + 1 + 1, 3, none⟩ = some (.slice B3 m3 d3) := X3.out.c 3 rfl
              go_upto_region 7 with fail
              clear e0 e1 e2 e3 e4 e5 e6 e7 e8 e9 e10 e11
              have ln4 := X1.out.lt
              have ln5 := X2.out.lt
              have ln6 := X3.out.lt
              have S1 := Lib.hid (S1.out.alloc (.cells #[.bool (nOf (resN (p1 * q3 + p3 * q1) (q1 * q3))), .slice G1 g1 h1, .bool (nOf (resD (p1 * q3 + p3 * q1) (q1 * q3))), .slice I1 i1 j1] 37))
              have T1 := Lib.hid (T1.out.alloc (.cells #[.bool (nOf (resN (p1 * q3 + p3 * q1) (q1 * q3))), .slice G1 g1 h1, .bool (nOf (resD (p1 * q3 + p3 * q1) (q1 * q3))), .slice I1 i1 j1] 37))
              have S2 := Lib.hid (S2.out.alloc (.cells #[.bool (nOf (resN (p1 * q3 + p3 * q1) (q1 * q3))), .slice G1 g1 h1, .bool (nOf (resD (p1 * q3 + p3 * q1) (q1 * q3))), .slice I1 i1 j1] 37))
              have T2 := Lib.hid (T2.out.alloc (.cells #[.bool (nOf (resN (p1 * q3 + p3 * q1) (q1 * q3))), .slice G1 g1 h1, .bool (nOf (resD (p1 * q3 + p3 * q1) (q1 * q3))), .slice I1 i1 j1] 37))
              have S3 := Lib.hid (S3.out.alloc (.cells #[.bool (nOf (resN (p1 * q3 + p3 * q1) (q1 * q3))), .slice G1 g1 h1, .bool (nOf (resD (p1 * q3 + p3 * q1) (q1 * q3))), .slice I1 i1 j1] 37))
              have T3 := Lib.hid (T3.out.alloc (.cells #[.bool (nOf (resN (p1 * q3 + p3 * q1) (q1 * q3))), .slice G1 g1 h1, .bool (nOf (resD (p1 * q3 + p3 * q1) (q1 * q3))), .slice I1 i1 j1] 37))
              have TB := Lib.hid (tab_on TB.out ((Below.refl _ _).alloc (Nat.le_refl _) (.cells #[.bool (nOf (resN (p1 * q3 + p3 * q1) (q1 * q3))), .slice G1 g1 h1, .bool (nOf (resD (p1 * q3 + p3 * q1) (q1 * q3))), .slice I1 i1 j1] 37)))
              have BW := Lib.hid (BW.out.alloc BW.out.size (.cells #[.bool (nOf (resN (p1 * q3 + p3 * q1) (q1 * q3))), .slice G1 g1 h1, .bool (nOf (resD (p1 * q3 + p3 * q1) (q1 * q3))), .slice I1 i1 j1] 37))
              have X1 := Lib.hid (X1.out.alloc (.cells #[.bool (nOf (resN (p1 * q3 + p3 * q1) (q1 * q3))), .slice G1 g1 h1, .bool (nOf (resD (p1 * q3 + p3 * q1) (q1 * q3))), .slice I1 i1 j1] 37))
              have X2 := Lib.hid (X2.out.alloc (.cells #[.bool (nOf (resN (p1 * q3 + p3 * q1) (q1 * q3))), .slice G1 g1 h1, .bool (nOf (resD (p1 * q3 + p3 * q1) (q1 * q3))), .slice I1 i1 j1] 37))
              have X3 := Lib.hid (X3.out.alloc (.cells #[.bool (nOf (resN (p1 * q3 + p3 * q1) (q1 * q3))), .slice G1 g1 h1, .bool (nOf (resD (p1 * q3 + p3 * q1) (q1 * q3))), .slice I1 i1 j1] 37))
              have U1 := Lib.hid (U1.out.alloc (.cells #[.bool (nOf (resN (p1 * q3 + p3 * q1) (q1 * q3))), .slice G1 g1 h1, .bool (nOf (resD (p1 * q3 + p3 * q1) (q1 * q3))), .slice I1 i1 j1] 37))
              have V1 := Lib.hid (V1.out.alloc (.cells #[.bool (nOf (resN (p1 * q3 + p3 * q1) (q1 * q3))), .slice G1 g1 h1, .bool (nOf (resD (p1 * q3 + p3 * q1) (q1 * q3))), .slice I1 i1 j1] 37))
              have Y1 := Lib.hid (Bk.new 37 w6 #[.bool (nOf (resN (p1 * q3 + p3 * q1) (q1 * q3))), .slice G1 g1 h1, .bool (nOf (resD (p1 * q3 + p3 * q1) (q1 * q3))), .slice I1 i1 j1])
              generalize (w6.alloc (.cells #[.bool (nOf (resN (p1 * q3 + p3 * q1) (q1 * q3))), .slice G1 g1 h1, .bool (nOf (resD (p1 * q3 + p3 * q1) (q1 * q3))), .slice I1 i1 j1] 37)) = W7 at *
              have e0 : W7.cell? ⟨w.heap.size, 0, none⟩ = some (.bool (nOf (p1))) := X1.out.c 0 rfl
              have e1 : W7.cell? ⟨w.heap.size, 1, none⟩ = some (.slice A1 n1 c1) := X1.out.c 1 rfl
              have e2 : W7.cell? ⟨w.heap.size, 2, none⟩ = some (.bool (nOf (q1))) := X1.out.c 2 rfl
              have e3 : W7.cell? ⟨w.heap.size, 3, none⟩ = some (.slice B1 m1 d1) := X1.out.c 3 rfl
              have e4 : W7.cell? ⟨w.heap.size + 1, 0, none⟩ = some (.bool (nOf (p2))) := X2.out.c 0 rfl
              have e5 : W7.cell? ⟨w.heap.size + 1, 1, none⟩ = some (.slice A2 n2 c2) := X2.out.c 1 rfl
              have e6 : W7.cell? ⟨w.heap.size + 1, 2, none⟩ = some (.bool (nOf (q2))) := X2.out.c 2 rfl
              have e7 : W7.cell? ⟨w.heap.size + 1, 3, none⟩ = some (.slice B2 m2 d2) := X2.out.c 3 rfl
              have e8 : W7.cell? ⟨w.heap.size + 1 + 1, 0, none⟩ = some (.bool (nOf (p3))) := X3.out.c 0 rfl
              have e9 : W7.cell? ⟨w.heap.size + 1 + 1, 1, none⟩ = some (.slice A3 n3 c3) := X3.out.c 1 rfl
              have e10 : W7.cell? ⟨w.heap.size + 1 + 1, 2, none⟩ = some (.bool (nOf (q3))) := X3.out.c 2 rfl
              have e11 : W7.cell? ⟨w.heap.size + 1 + 1, 3, none⟩ = some (.slice B3 m3 d3) := X3.out.c 3 rfl
              go_wp2_with fail
              ((with_reducible refine (radd_ok p2 q2 p3 q3 p2 q2 p3 q3 (resN (p2 * q3 + p3 * q2) (q2 * q3)) (resD (p2 * q3 + p3 * q2) (q2 * q3)) (resB (p2 * q3 + p3 * q2) (q2 * q3)) A2 B2 A3 B3 n2 c2 m2 d2 n3 c3 m3 d3 _ S2.out T2.out S3.out T3.out (fr_of F2.out).1 (fr_of F2.out).2 (fr_of F3.out).1 (fr_of F3.out).2 rfl rfl rfl).mono ?_); rintro e w7 ⟨G2, g2, h2, I2, i2, j2, rfl, hs, ht, hb⟩)
              clear e0 e1 e2 e3 e4 e5 e6 e7 e8 e9 e10 e11
              have S1 := Lib.hid (S1.out.below hb)
              have T1 := Lib.hid (T1.out.below hb)
              have S2 := Lib.hid (S2.out.below hb)
              have T2 := Lib.hid (T2.out.below hb)
              have S3 := Lib.hid (S3.out.below hb)
              have T3 := Lib.hid (T3.out.below hb)
              have TB := Lib.hid (tab_on TB.out hb)
              have BW := Lib.hid (below_on BW.out hb)
              have X1 := Lib.hid (X1.out.below hb)
              have X2 := Lib.hid (X2.out.below hb)
              have X3 := Lib.hid (X3.out.below hb)
              have U1 := Lib.hid (U1.out.below hb)
              have V1 := Lib.hid (V1.out.below hb)
              have Y1 := Lib.hid (Y1.out.below hb)
              clear hb
              have U2 := Lib.hid hs
              have V2 := Lib.hid ht
              clear hs ht
              have e0 : w7.cell? ⟨w.heap.size, 0, none⟩ = some (.bool (nOf (p1))) := X1.out.c 0 rfl
              have e1 : w7.cell? ⟨w.heap.size, 1, none⟩ = some (.slice A1 n1 c1) := X1.out.c 1 rfl
              have e2 : w7.cell? ⟨w.heap.size, 2, none⟩ = some (.bool (nOf (q1))) := X1.out.c 2 rfl
              have e3 : w7.cell? ⟨w.heap.size, 3, none⟩ = some (.slice B1 m1 d1) := X1.out.c 3 rfl
              have e4 : w7.cell? ⟨w.heap.size + 1, 0, none⟩ = some (.bool (nOf (p2))) := X2.out.c 0 rfl
              have e5 : w7.cell? ⟨w.heap.size + 1, 1, none⟩ = some (.slice A2 n2 c2) := X2.out.c 1 rfl
              have e6 : w7.cell? ⟨w.heap.size + 1, 2, none⟩ = some (.bool (nOf (q2))) := X2.out.c 2 rfl
              have e7 : w7.cell? ⟨w.heap.size + 1, 3, none⟩ = some (.slice B2 m2 d2) := X2.out.c 3 rfl
              have e8 : w7.cell? ⟨w.heap.size + 1 + 1, 0, none⟩ = some (.bool (nOf (p3))) := X3.out.c 0 rfl
              have e9 : w7.cell? ⟨w.heap.size + 1 + 1, 1, none⟩ = some (.slice A3 n3 c3) := X3.out.c 1 rfl
              have e10 : w7.cell? ⟨w.heap.size + 1 + 1, 2, none⟩ = some (.bool (nOf (q3))) := X3.out.c 2 rfl
              have e11 : w7.cell? ⟨w.heap.size + 1 + 1, 3, none⟩ = some (.slice B3 m3 d3) := X3.out.c 3 rfl
              go_upto_region 8 with fail
              clear e0 e1 e2 e3 e4 e5 e6 e7 e8 e9 e10 e11
              have ln7 := X1.out.lt
              have ln8 := X2.out.lt
              have ln9 := X3.out.lt
              have ln10 := Y1.out.lt
              have S1 := Lib.hid (S1.out.alloc (.cells #[.bool (nOf (resN (p2 * q3 + p3 * q2) (q2 * q3))), .slice G2 g2 h2, .bool (nOf (resD (p2 * q3 + p3 * q2) (q2 * q3))), .slice I2 i2 j2] 37))
              have T1 := Lib.hid (T1.out.alloc (.cells #[.bool (nOf (resN (p2 * q3 + p3 * q2) (q2 * q3))), .slice G2 g2 h2, .bool (nOf (resD (p2 * q3 + p3 * q2) (q2 * q3))), .slice I2 i2 j2] 37))
              have S2 := Lib.hid (S2.out.alloc (.cells #[.bool (nOf (resN (p2 * q3 + p3 * q2) (q2 * q3))), .slice G2 g2 h2, .bool (nOf (resD (p2 * q3 + p3 * q2) (q2 * q3))), .slice I2 i2 j2] 37))
              have T2 := Lib.hid (T2.out.alloc (.cells #[.bool (nOf (resN (p2 * q3 + p3 * q2) (q2 * q3))), .slice G2 g2 h2, .bool (nOf (resD (p2 * q3 + p3 * q2) (q2 * q3))), .slice I2 i2 j2] 37))
              have S3 := Lib.hid (S3.out.alloc (.cells #[.bool (nOf (resN (p2 * q3 + p3 * q2) (q2 * q3))), .slice G2 g2 h2, .bool (nOf (resD (p2 * q3 + p3 * q2) (q2 * q3))), .slice I2 i2 j2] 37))
              have T3 := Lib.hid (T3.out.alloc (.cells #[.bool (nOf (resN (p2 * q3 + p3 * q2) (q2 * q3))), .slice G2 g2 h2, .bool (nOf (resD (p2 * q3 + p3 * q2) (q2 * q3))), .slice I2 i2 j2] 37))
              have TB := Lib.hid (tab_on TB.out ((Below.refl _ _).alloc (Nat.le_refl _) (.cells #[.bool (nOf (resN (p2 * q3 + p3 * q2) (q2 * q3))), .slice G2 g2 h2, .bool (nOf (resD (p2 * q3 + p3 * q2) (q2 * q3))), .slice I2 i2 j2] 37)))
              have BW := Lib.hid (BW.out.alloc BW.out.size (.cells #[.bool (nOf (resN (p2 * q3 + p3 * q2) (q2 * q3))), .slice G2 g2 h2, .bool (nOf (resD (p2 * q3 + p3 * q2) (q2 * q3))), .slice I2 i2 j2] 37))
              have X1 := Lib.hid (X1.out.alloc (.cells #[.bool (nOf (resN (p2 * q3 + p3 * q2) (q2 * q3))), .slice G2 g2 h2, .bool (nOf (resD (p2 * q3 + p3 * q2) (q2 * q3))), .slice I2 i2 j2] 37))
              have X2 := Lib.hid (X2.out.alloc (.cells #[.bool (nOf (resN (p2 * q3 + p3 * q2) (q2 * q3))), .slice G2 g2 h2, .bool (nOf (resD (p2 * q3 + p3 * q2) (q2 * q3))), .slice I2 i2 j2] 37))
              have X3 := Lib.hid (X3.out.alloc (.cells #[.bool (nOf (resN (p2 * q3 + p3 * q2) (q2 * q3))), .slice G2 g2 h2, .bool (nOf (resD (p2 * q3 + p3 * q2) (q2 * q3))), .slice I2 i2 j2] 37))
              have U1 := Lib.hid (U1.out.alloc (.cells #[.bool (nOf (resN (p2 * q3 + p3 * q2) (q2 * q3))), .slice G2 g2 h2, .bool (nOf (resD (p2 * q3 + p3 * q2) (q2 * q3))), .slice I2 i2 j2] 37))
              have V1 := Lib.hid (V1.out.alloc (.cells #[.bool (nOf (resN (p2 * q3 + p3 * q2) (q2 * q3))), .slice G2 g2 h2, .bool (nOf (resD (p2 * q3 + p3 * q2) (q2 * q3))), .slice I2 i2 j2] 37))
              have Y1 := Lib.hid (Y1.out.alloc (.cells #[.bool (nOf (resN (p2 * q3 + p3 * q2) (q2 * q3))), .slice G2 g2 h2, .bool (nOf (resD (p2 * q3 + p3 * q2) (q2 * q3))), .slice I2 i2 j2] 37))
              have U2 := Lib.hid (U2.out.alloc (.cells #[.bool (nOf (resN (p2 * q3 + p3 * q2) (q2 * q3))), .slice G2 g2 h2, .bool (nOf (resD (p2 * q3 + p3 * q2) (q2 * q3))), .slice I2 i2 j2] 37))
              have V2 := Lib.hid (V2.out.alloc (.cells #[.bool (nOf (resN (p2 * q3 + p3 * q2) (q2 * q3))), .slice G2 g2 h2, .bool (nOf (resD (p2 * q3 + p3 * q2) (q2 * q3))), .slice I2 i2 j2] 37))
              have Y2 := Lib.hid (Bk.new 37 w7 #[.bool (nOf (resN (p2 * q3 + p3 * q2) (q2 * q3))), .slice G2 g2 h2, .bool (nOf (resD (p2 * q3 + p3 * q2) (q2 * q3))), .slice I2 i2 j2])
              generalize (w7.alloc (.cells #[.bool (nOf (resN (p2 * q3 + p3 * q2) (q2 * q3))), .slice G2 g2 h2, .bool (nOf (resD (p2 * q3 + p3 * q2) (q2 * q3))), .slice I2 i2 j2] 37)) = W8 at *
              rcases Bool.eq_false_or_eq_true (resB (p1 * q3 + p3 * q1) (q1 * q3)) with b1 | b1
              · have B1 := Lib.hid b1
                rw [b1]
                clear b1
                rcases Bool.eq_false_or_eq_true (resB (p2 * q3 + p3 * q2) (q2 * q3)) with b2 | b2
                · have B2 := Lib.hid b2
                  rw [b2]
                  clear b2
                  have RC := Lib.hid (res_cmp F1.out.pos F2.out.pos F3.out.pos B1.out B2.out)
                  have RC := Lib.hid (RC.out.trans CX.out)
                  have e0 : W8.cell? ⟨w6.heap.size, 0, none⟩ = some (.bool (nOf (resN (p1 * q3 + p3 * q1) (q1 * q3)))) := Y1.out.c 0 rfl
                  have e1 : W8.cell? ⟨w6.heap.size, 1, none⟩ = some (.slice G1 g1 h1) := Y1.out.c 1 rfl
                  have e2 : W8.cell? ⟨w6.heap.size, 2, none⟩ = some (.bool (nOf (resD (p1 * q3 + p3 * q1) (q1 * q3)))) := Y1.out.c 2 rfl
                  have e3 : W8.cell? ⟨w6.heap.size, 3, none⟩ = some (.slice I1 i1 j1) := Y1.out.c 3 rfl
                  have e4 : W8.cell? ⟨w7.heap.size, 0, none⟩ = some (.bool (nOf (resN (p2 * q3 + p3 * q2) (q2 * q3)))) := Y2.out.c 0 rfl
                  have e5 : W8.cell? ⟨w7.heap.size, 1, none⟩ = some (.slice G2 g2 h2) := Y2.out.c 1 rfl
                  have e6 : W8.cell? ⟨w7.heap.size, 2, none⟩ = some (.bool (nOf (resD (p2 * q3 + p3 * q2) (q2 * q3)))) := Y2.out.c 2 rfl
                  have e7 : W8.cell? ⟨w7.heap.size, 3, none⟩ = some (.slice I2 i2 j2) := Y2.out.c 3 rfl
                  go_wp2_with fail
                  ((with_reducible refine (rcmp_ok _ _ _ _ cx G1 I1 G2 I2 g1 h1 i1 j1 g2 h2 i2 j2 _ U1.out V1.out U2.out V2.out (Fr.res B1.out) (Fr.res B2.out) RC.out).mono ?_); rintro e w8 ⟨rfl, hb⟩)
                  clear e0 e1 e2 e3 e4 e5 e6 e7
                  have S1 := Lib.hid (S1.out.below hb)
                  have T1 := Lib.hid (T1.out.below hb)
                  have S2 := Lib.hid (S2.out.below hb)
                  have T2 := Lib.hid (T2.out.below hb)
                  have S3 := Lib.hid (S3.out.below hb)
                  have T3 := Lib.hid (T3.out.below hb)
                  have TB := Lib.hid (tab_on TB.out hb)
                  have BW := Lib.hid (below_on BW.out hb)
                  have X1 := Lib.hid (X1.out.below hb)
                  have X2 := Lib.hid (X2.out.below hb)
                  have X3 := Lib.hid (X3.out.below hb)
                  have U1 := Lib.hid (U1.out.below hb)
                  have V1 := Lib.hid (V1.out.below hb)
                  have Y1 := Lib.hid (Y1.out.below hb)
                  have U2 := Lib.hid (U2.out.below hb)
                  have V2 := Lib.hid (V2.out.below hb)
                  have Y2 := Lib.hid (Y2.out.below hb)
                  clear hb
                  go_wp2_with fail
                  go_ret
                  exact ⟨ret_bool (by simp), BW.out⟩
                · rw [b2]
                  clear b2
                  go_wp2_with fail
                  go_ret
                  exact ⟨rfl, BW.out⟩
              · rw [b1]
                clear b1
                go_wp2_with fail
                go_ret
                exact ⟨rfl, BW.out⟩
          · have e0 : w3.cell? ⟨w.heap.size, 0, none⟩ = some (.bool (nOf (p1))) := X1.out.c 0 rfl
            have e1 : w3.cell? ⟨w.heap.size, 1, none⟩ = some (.slice A1 n1 c1) := X1.out.c 1 rfl
            have e2 : w3.cell? ⟨w.heap.size, 2, none⟩ = some (.bool (nOf (q1))) := X1.out.c 2 rfl
            have e3 : w3.cell? ⟨w.heap.size, 3, none⟩ = some (.slice B1 m1 d1) := X1.out.c 3 rfl
            have e4 : w3.cell? ⟨w.heap.size + 1, 0, none⟩ = some (.bool (nOf (p2))) := X2.out.c 0 rfl
            have e5 : w3.cell? ⟨w.heap.size + 1, 1, none⟩ = some (.slice A2 n2 c2) := X2.out.c 1 rfl
            have e6 : w3.cell? ⟨w.heap.size + 1, 2, none⟩ = some (.bool (nOf (q2))) := X2.out.c 2 rfl
            have e7 : w3.cell? ⟨w.heap.size + 1, 3, none⟩ = some (.slice B2 m2 d2) := X2.out.c 3 rfl
            have e8 : w3.cell? ⟨w.heap.size + 1 + 1, 0, none⟩ = some (.bool (nOf (p3))) := X3.out.c 0 rfl
            have e9 : w3.cell? ⟨w.heap.size + 1 + 1, 1, none⟩ = some (.slice A3 n3 c3) := X3.out.c 1 rfl
            have e10 : w3.cell? ⟨w.heap.size + 1 + 1, 2, none⟩ = some (.bool (nOf (q3))) := X3.out.c 2 rfl
            have e11 : w3.cell? ⟨w.heap.size + 1 + 1, 3, none⟩ = some (.slice B3 m3 d3) := X3.out.c 3 rfl
            go_wp2_with fail
            ((with_reducible refine (awake3_any _ TB.out).mono ?_); rintro e w5 ⟨rfl, hb⟩)
            clear e0 e1 e2 e3 e4 e5 e6 e7 e8 e9 e10 e11
            have S1 := Lib.hid (S1.out.below hb)
            have T1 := Lib.hid (T1.out.below hb)
            have S2 := Lib.hid (S2.out.below hb)
            have T2 := Lib.hid (T2.out.below hb)
            have S3 := Lib.hid (S3.out.below hb)
            have T3 := Lib.hid (T3.out.below hb)
            have TB := Lib.hid (tab_on TB.out hb)
            have BW := Lib.hid (below_on BW.out hb)
            have X1 := Lib.hid (X1.out.below hb)
            have X2 := Lib.hid (X2.out.below hb)
            have X3 := Lib.hid (X3.out.below hb)
            clear hb
            have e0 : w5.cell? ⟨w.heap.size, 0, none⟩ = some (.bool (nOf (p1))) := X1.out.c 0 rfl
            have e1 : w5.cell? ⟨w.heap.size, 1, none⟩ = some (.slice A1 n1 c1) := X1.out.c 1 rfl
            have e2 : w5.cell? ⟨w.heap.size, 2, none⟩ = some (.bool (nOf (q1))) := X1.out.c 2 rfl
            have e3 : w5.cell? ⟨w.heap.size, 3, none⟩ = some (.slice B1 m1 d1) := X1.out.c 3 rfl
            have e4 : w5.cell? ⟨w.heap.size + 1, 0, none⟩ = some (.bool (nOf (p2))) := X2.out.c 0 rfl
            have e5 : w5.cell? ⟨w.heap.size + 1, 1, none⟩ = some (.slice A2 n2 c2) := X2.out.c 1 rfl
            have e6 : w5.cell? ⟨w.heap.size + 1, 2, none⟩ = some (.bool (nOf (q2))) := X2.out.c 2 rfl
            have e7 : w5.cell? ⟨w.heap.size + 1, 3, none⟩ = some (.slice B2 m2 d2) := X2.out.c 3 rfl
            have e8 : w5.cell? ⟨w.heap.size + 1 + 1, 0, none⟩ = some (.bool (nOf (p3))) := X3.out.c 0 rfl
            have e9 : w5.cell? ⟨w.heap.size + 1 + 1, 1, none⟩ = some (.slice A3 n3 c3) := X3.out.c 1 rfl
            have e10 : w5.cell? ⟨w.heap.size + 1 + 1, 2, none⟩ = some (.bool (nOf (q3))) := X3.out.c 2 rfl
            have e11 : w5.cell? ⟨w.heap.size + 1 + 1, 3, none⟩ = some (.slice B3 m3 d3) := X3.out.c 3 rfl
            go_wp2_with fail
            ((with_reducible refine (radd_ok p1 q1 p3 q3 p1 q1 p3 q3 (resN (p1 * q3 + p3 * q1) (q1 * q3)) (resD (p1 * q3 + p3 * q1) (q1 * q3)) (resB (p1 * q3 + p3 * q1) (q1 * q3)) A1 B1 A3 B3 n1 c1 m1 d1 n3 c3 m3 d3 _ S1.out T1.out S3.out T3.out (fr_of F1.out).1 (fr_of F1.out).2 (fr_of F3.out).1 (fr_of F3.out).2 rfl rfl rfl).mono ?_); rintro e w6 ⟨G1, g1, h1, I1, i1, j1, rfl, hs, ht, hb⟩)
            clear e0 e1 e2 e3 e4 e5 e6 e7 e8 e9 e10 e11
            have S1 := Lib.hid (S1.out.below hb)
            have T1 := Lib.hid (T1.out.below hb)
            have S2 := Lib.hid (S2.out.below hb)
            have T2 := Lib.hid (T2.out.below hb)
            have S3 := Lib.hid (S3.out.below hb)
            have T3 := Lib.hid (T3.out.below hb)
            have TB := Lib.hid (tab_on TB.out hb)
            have BW := Lib.hid (below_on BW.out hb)
            have X1 := Lib.hid (X1.out.below hb)
            have X2 := Lib.hid (X2.out.below hb)
            have X3 := Lib.hid (X3.out.below hb)
            clear hb
            have U1 := Lib.hid hs
            have V1 := Lib.hid ht
            clear hs ht
            have e0 : w6.cell? ⟨w.heap.size, 0, none⟩ = some (.bool (nOf (p1))) := X1.out.c 0 rfl
            have e1 : w6.cell? ⟨w.heap.size, 1, none⟩ = some (.slice A1 n1 c1) := X1.out.c 1 rfl
            have e2 : w6.cell? ⟨w.heap.size, 2, none⟩ = some (.bool (nOf (q1))) := X1.out.c 2 rfl
            have e3 : w6.cell? ⟨w.heap.size, 3, none⟩ = some (.slice B1 m1 d1) := X1.out.c 3 rfl
            have e4 : w6.cell? ⟨w.heap.size + 1, 0, none⟩ = some (.bool (nOf (p2))) := X2.out.c 0 rfl
            have e5 : w6.cell? ⟨w.heap.size + 1, 1, none⟩ = some (.slice A2 n2 c2) := X2.out.c 1 rfl
            have e6 : w6.cell? ⟨w.heap.size + 1, 2, none⟩ = some (.bool (nOf (q2))) := X2.out.c 2 rfl
            have e7 : w6.cell? ⟨w.heap.size + 1, 3, none⟩ = some (.slice B2 m2 d2) := X2.out.c 3 rfl
            have e8 : w6.cell? ⟨w.heap.size + 1 + 1, 0, none⟩ = some (.bool (nOf (p3))) := X3.out.c 0 rfl
            have e9 : w6.cell? ⟨w.heap.size + 1 + 1, 1, none⟩ = some (.slice A3 n3 c3) := X3.out.c 1 rfl
            have e10 : w6.cell? ⟨w.heap.size + 1 + 1, 2, none⟩ = some (.bool (nOf (q3))) := X3.out.c 2 rfl
            have e11 : w6.cell? ⟨w.heap.size + 1 + 1, 3, none⟩ = some (.slice B3 m3 d3) := X3.out.c 3 rfl
            go_upto_region 7 with fail
            clear e0 e1 e2 e3 e4 e5 e6 e7 e8 e9 e10 e11
            have ln4 := X1.out.lt
            have ln5 := X2.out.lt
            have ln6 := X3.out.lt
            have S1 := Lib.hid (S1.out.alloc (.cells #[.bool (nOf (resN (p1 * q3 + p3 * q1) (q1 * q3))), .slice G1 g1 h1, .bool (nOf (resD (p1 * q3 + p3 * q1) (q1 * q3))), .slice I1 i1 j1] 37))
            have T1 := Lib.hid (T1.out.alloc (.cells #[.bool (nOf (resN (p1 * q3 + p3 * q1) (q1 * q3))), .slice G1 g1 h1, .bool (nOf (resD (p1 * q3 + p3 * q1) (q1 * q3))), .slice I1 i1 j1] 37))
            have S2 := Lib.hid (S2.out.alloc (.cells #[.bool (nOf (resN (p1 * q3 + p3 * q1) (q1 * q3))), .slice G1 g1 h1, .bool (nOf (resD (p1 * q3 + p3 * q1) (q1 * q3))), .slice I1 i1 j1] 37))
            have T2 := Lib.hid (T2.out.alloc (.cells #[.bool (nOf (resN (p1 * q3 + p3 * q1) (q1 * q3))), .slice G1 g1 h1, .bool (nOf (resD (p1 * q3 + p3 * q1) (q1 * q3))), .slice I1 i1 j1] 37))
            have S3 := Lib.hid (S3.out.alloc (.cells #[.bool (nOf (resN (p1 * q3 + p3 * q1) (q1 * q3))), .slice G1 g1 h1, .bool (nOf (resD (p1 * q3 + p3 * q1) (q1 * q3))), .slice I1 i1 j1] 37))
            have T3 := Lib.hid (T3.out.alloc (.cells #[.bool (nOf (resN (p1 * q3 + p3 * q1) (q1 * q3))), .slice G1 g1 h1, .bool (nOf (resD (p1 * q3 + p3 * q1) (q1 * q3))), .slice I1 i1 j1] 37))
            have TB := Lib.hid (tab_on TB.out ((Below.refl _ _).alloc (Nat.le_refl _) (.cells #[.bool (nOf (resN (p1 * q3 + p3 * q1) (q1 * q3))), .slice G1 g1 h1, .bool (nOf (resD (p1 * q3 + p3 * q1) (q1 * q3))), .slice I1 i1 j1] 37)))
            have BW := Lib.hid (BW.out.alloc BW.out.size (.cells #[.bool (nOf (resN (p1 * q3 + p3 * q1) (q1 * q3))), .slice G1 g1 h1, .bool (nOf (resD (p1 * q3 + p3 * q1) (q1 * q3))), .slice I1 i1 j1] 37))
            have X1 := Lib.hid (X1.out.alloc (.cells #[.bool (nOf (resN (p1 * q3 + p3 * q1) (q1 * q3))), .slice G1 g1 h1, .bool (nOf (resD (p1 * q3 + p3 * q1) (q1 * q3))), .slice I1 i1 j1] 37))
            have X2 := Lib.hid (X2.out.alloc (.cells #[.bool (nOf (resN (p1 * q3 + p3 * q1) (q1 * q3))), .slice G1 g1 h1, .bool (nOf (resD (p1 * q3 + p3 * q1) (q1 * q3))), .slice I1 i1 j1] 37))
            have X3 := Lib.hid (X3.out.alloc (.cells #[.bool (nOf (resN (p1 * q3 + p3 * q1) (q1 * q3))), .slice G1 g1 h1, .bool (nOf (resD (p1 * q3 + p3 * q1) (q1 * q3))), .slice I1 i1 j1] 37))
            have U1 := Lib.hid (U1.out.alloc (.cells #[.bool (nOf (resN (p1 * q3 + p3 * q1) (q1 * q3))), .slice G1 g1 h1, .bool (nOf (resD (p1 * q3 + p3 * q1) (q1 * q3))), .slice I1 i1 j1] 37))
            have V1 := Lib.hid (V1.out.alloc (.cells #[.bool (nOf (resN (p1 * q3 + p3 * q1) (q1 * q3))), .slice G1 g1 h1, .bool (nOf (resD (p1 * q3 + p3 * q1) (q1 * q3))), .slice I1 i1 j1] 37))
            have Y1 := Lib.hid (Bk.new 37 w6 #[.bool (nOf (resN (p1 * q3 + p3 * q1) (q1 * q3))), .slice G1 g1 h1, .bool (nOf (resD (p1 * q3 + p3 * q1) (q1 * q3))), .slice I1 i1 j1])
            generalize (w6.alloc (.cells #[.bool (nOf (resN (p1 * q3 + p3 * q1) (q1 * q3))), .slice G1 g1 h1, .bool (nOf (resD (p1 * q3 + p3 * q1) (q1 * q3))), .slice I1 i1 j1] 37)) = W7 at *
            have e0 : W7.cell? ⟨w.heap.size, 0, none⟩ = some (.bool (nOf (p1))) := X1.out.c 0 rfl
            have e1 : W7.cell? ⟨w.heap.size, 1, none⟩ = some (.slice A1 n1 c1) := X1.out.c 1 rfl
            have e2 : W7.cell? ⟨w.heap.size, 2, none⟩ = some (.bool (nOf (q1))) := X1.out.c 2 rfl
            have e3 : W7.cell? ⟨w.heap.size, 3, none⟩ = some (.slice B1 m1 d1) := X1.out.c 3 rfl
            have e4 : W7.cell? ⟨w.heap.size + 1, 0, none⟩ = some (.bool (nOf (p2))) := X2.out.c 0 rfl
            have e5 : W7.cell? ⟨w.heap.size + 1, 1, none⟩ = some (.slice A2 n2 c2) := X2.out.c 1 rfl
            have e6 : W7.cell? ⟨w.heap.size + 1, 2, none⟩ = some (.bool (nOf (q2))) := X2.out.c 2 rfl
            have e7 : W7.cell? ⟨w.heap.size + 1, 3, none⟩ = some (.slice B2 m2 d2) := X2.out.c 3 rfl
            have e8 : W7.cell? ⟨w.heap.size + 1 + 1, 0, none⟩ = some (.bool (nOf (p3))) := X3.out.c 0 rfl
            have e9 : W7.cell? ⟨w.heap.size + 1 + 1, 1, none⟩ = some (.slice A3 n3 c3) := X3.out.c 1 rfl
            have e10 : W7.cell? ⟨w.heap.size + 1 + 1, 2, none⟩ = some (.bool (nOf (q3))) := X3.out.c 2 rfl
            have e11 : W7.cell? ⟨w.heap.size + 1 + 1, 3, none⟩ = some (.slice B3 m3 d3) := X3.out.c 3 rfl
            go_wp2_with fail
            ((with_reducible refine (radd_ok p2 q2 p3 q3 p2 q2 p3 q3 (resN (p2 * q3 + p3 * q2) (q2 * q3)) (resD (p2 * q3 + p3 * q2) (q2 * q3)) (resB (p2 * q3 + p3 * q2) (q2 * q3)) A2 B2 A3 B3 n2 c2 m2 d2 n3 c3 m3 d3 _ S2.out T2.out S3.out T3.out (fr_of F2.out).1 (fr_of F2.out).2 (fr_of F3.out).1 (fr_of F3.out).2 rfl rfl rfl).mono ?_); rintro e w7 ⟨G2, g2, h2, I2, i2, j2, rfl, hs, ht, hb⟩)
            clear e0 e1 e2 e3 e4 e5 e6 e7 e8 e9 e10 e11
            have S1 := Lib.hid (S1.out.below hb)
            have T1 := Lib.hid (T1.out.below hb)
            have S2 := Lib.hid (S2.out.below hb)
            have T2 := Lib.hid (T2.out.below hb)
            have S3 := Lib.hid (S3.out.below hb)
            have T3 := Lib.hid (T3.out.below hb)
            have TB := Lib.hid (tab_on TB.out hb)
            have BW := Lib.hid (below_on BW.out hb)
            have X1 := Lib.hid (X1.out.below hb)
            have X2 := Lib.hid (X2.out.below hb)
            have X3 := Lib.hid (X3.out.below hb)
            have U1 := Lib.hid (U1.out.below hb)
            have V1 := Lib.hid (V1.out.below hb)
            have Y1 := Lib.hid (Y1.out.below hb)
            clear hb
            have U2 := Lib.hid hs
            have V2 := Lib.hid ht
            clear hs ht
            have e0 : w7.cell? ⟨w.heap.size, 0, none⟩ = some (.bool (nOf (p1))) := X1.out.c 0 rfl
            have e1 : w7.cell? ⟨w.heap.size, 1, none⟩ = some (.slice A1 n1 c1) := X1.out.c 1 rfl
            have e2 : w7.cell? ⟨w.heap.size, 2, none⟩ = some (.bool (nOf (q1))) := X1.out.c 2 rfl
            have e3 : w7.cell? ⟨w.heap.size, 3, none⟩ = some (.slice B1 m1 d1) := X1.out.c 3 rfl
            have e4 : w7.cell? ⟨w.heap.size + 1, 0, none⟩ = some (.bool (nOf (p2))) := X2.out.c 0 rfl
            have e5 : w7.cell? ⟨w.heap.size + 1, 1, none⟩ = some (.slice A2 n2 c2) := X2.out.c 1 rfl
            have e6 : w7.cell? ⟨w.heap.size + 1, 2, none⟩ = some (.bool (nOf (q2))) := X2.out.c 2 rfl
            have e7 : w7.cell? ⟨w.heap.size + 1, 3, none⟩ = some (.slice B2 m2 d2) := X2.out.c 3 rfl
            have e8 : w7.cell? ⟨w.heap.size + 1 + 1, 0, none⟩ = some (.bool (nOf (p3))) := X3.out.c 0 rfl
            have e9 : w7.cell? ⟨w.heap.size + 1 + 1, 1, none⟩ = some (.slice A3 n3 c3) := X3.out.c 1 rfl
            have e10 : w7.cell? ⟨w.heap.size + 1 + 1, 2, none⟩ = some (.bool (nOf (q3))) := X3.out.c 2 rfl
            have e11 : w7.cell? ⟨w.heap.size + 1 + 1, 3, none⟩ = some (.slice B3 m3 d3) := X3.out.c 3 rfl
            go_upto_region 8 with fail
            clear e0 e1 e2 e3 e4 e5 e6 e7 e8 e9 e10 e11
            have ln7 := X1.out.lt
            have ln8 := X2.out.lt
            have ln9 := X3.out.lt
            have ln10 := Y1.out.lt
            have S1 := Lib.hid (S1.out.alloc (.cells #[.bool (nOf (resN (p2 * q3 + p3 * q2) (q2 * q3))), .slice G2 g2 h2, .bool (nOf (resD (p2 * q3 + p3 * q2) (q2 * q3))), .slice I2 i2 j2] 37))
            have T1 := Lib.hid (T1.out.alloc (.cells #[.bool (nOf (resN (p2 * q3 + p3 * q2) (q2 * q3))), .slice G2 g2 h2, .bool (nOf (resD (p2 * q3 + p3 * q2) (q2 * q3))), .slice I2 i2 j2] 37))
            have S2 := Lib.hid (S2.out.alloc (.cells #[.bool (nOf (resN (p2 * q3 + p3 * q2) (q2 * q3))), .slice G2 g2 h2, .bool (nOf (resD (p2 * q3 + p3 * q2) (q2 * q3))), .slice I2 i2 j2] 37))
            have T2 := Lib.hid (T2.out.alloc (.cells #[.bool (nOf (resN (p2 * q3 + p3 * q2) (q2 * q3))), .slice G2 g2 h2, .bool (nOf (resD (p2 * q3 + p3 * q2) (q2 * q3))), .slice I2 i2 j2] 37))
            have S3 := Lib.hid (S3.out.alloc (.cells #[.bool (nOf (resN (p2 * q3 + p3 * q2) (q2 * q3))), .slice G2 g2 h2, .bool (nOf (resD (p2 * q3 + p3 * q2) (q2 * q3))), .slice I2 i2 j2] 37))
            have T3 := Lib.hid (T3.out.alloc (.cells #[.bool (nOf (resN (p2 * q3 + p3 * q2) (q2 * q3))), .slice G2 g2 h2, .bool (nOf (resD (p2 * q3 + p3 * q2) (q2 * q3))), .slice I2 i2 j2] 37))
            have TB := Lib.hid (tab_on TB.out ((Below.refl _ _).alloc (Nat.le_refl _) (.cells #[.bool (nOf (resN (p2 * q3 + p3 * q2) (q2 * q3))), .slice G2 g2 h2, .bool (nOf (resD (p2 * q3 + p3 * q2) (q2 * q3))), .slice I2 i2 j2] 37)))
            have BW := Lib.hid (BW.out.alloc BW.out.size (.cells #[.bool (nOf (resN (p2 * q3 + p3 * q2) (q2 * q3))), .slice G2 g2 h2, .bool (nOf (resD (p2 * q3 + p3 * q2) (q2 * q3))), .slice I2 i2 j2] 37))
            have X1 := Lib.hid (X1.out.alloc (.cells #[.bool (nOf (resN (p2 * q3 + p3 * q2) (q2 * q3))), .slice G2 g2 h2, .bool (nOf (resD (p2 * q3 + p3 * q2) (q2 * q3))), .slice I2 i2 j2] 37))
            have X2 := Lib.hid (X2.out.alloc (.cells #[.bool (nOf (resN (p2 * q3 + p3 * q2) (q2 * q3))), .slice G2 g2 h2, .bool (nOf (resD (p2 * q3 + p3 * q2) (q2 * q3))), .slice I2 i2 j2] 37))
            have X3 := Lib.hid (X3.out.alloc (.cells #[.bool (nOf (resN (p2 * q3 + p3 * q2) (q2 * q3))), .slice G2 g2 h2, .bool (nOf (resD (p2 * q3 + p3 * q2) (q2 * q3))), .slice I2 i2 j2] 37))
            have U1 := Lib.hid (U1.out.alloc (.cells #[.bool (nOf (resN (p2 * q3 + p3 * q2) (q2 * q3))), .slice G2 g2 h2, .bool (nOf (resD (p2 * q3 + p3 * q2) (q2 * q3))), .slice I2 i2 j2] 37))
            have V1 := Lib.hid (V1.out.alloc (.cells #[.bool (nOf (resN (p2 * q3 + p3 * q2) (q2 * q3))), .slice G2 g2 h2, .bool (nOf (resD (p2 * q3 + p3 * q2) (q2 * q3))), .slice I2 i2 j2] 37))
            have Y1 := Lib.hid (Y1.out.alloc (.cells #[.bool (nOf (resN (p2 * q3 + p3 * q2) (q2 * q3))), .slice G2 g2 h2, .bool (nOf (resD (p2 * q3 + p3 * q2) (q2 * q3))), .slice I2 i2 j2] 37))
            have U2 := Lib.hid (U2.out.alloc (.cells #[.bool (nOf (resN (p2 * q3 + p3 * q2) (q2 * q3))), .slice G2 g2 h2, .bool (nOf (resD (p2 * q3 + p3 * q2) (q2 * q3))), .slice I2 i2 j2] 37))
            have V2 := Lib.hid (V2.out.alloc (.cells #[.bool (nOf (resN (p2 * q3 + p3 * q2) (q2 * q3))), .slice G2 g2 h2, .bool (nOf (resD (p2 * q3 + p3 * q2) (q2 * q3))), .slice I2 i2 j2] 37))
            have Y2 := Lib.hid (Bk.new 37 w7 #[.bool (nOf (resN (p2 * q3 + p3 * q2) (q2 * q3))), .slice G2 g2 h2, .bool (nOf (resD (p2 * q3 + p3 * q2) (q2 * q3))), .slice I2 i2 j2])
            generalize (w7.alloc (.cells #[.bool (nOf (resN (p2 * q3 + p3 * q2) (q2 * q3))), .slice G2 g2 h2, .bool (nOf (resD (p2 * q3 + p3 * q2) (q2 * q3))), .slice I2 i2 j2] 37)) = W8 at *
            rcases Bool.eq_false_or_eq_true (resB (p1 * q3 + p3 * q1) (q1 * q3)) with b1 | b1
            · have B1 := Lib.hid b1
              rw [b1]
              clear b1
              rcases Bool.eq_false_or_eq_true (resB (p2 * q3 + p3 * q2) (q2 * q3)) with b2 | b2
              · have B2 := Lib.hid b2
                rw [b2]
                clear b2
                have RC := Lib.hid (res_cmp F1.out.pos F2.out.pos F3.out.pos B1.out B2.out)
                have RC := Lib.hid (RC.out.trans CX.out)
                have e0 : W8.cell? ⟨w6.heap.size, 0, none⟩ = some (.bool (nOf (resN (p1 * q3 + p3 * q1) (q1 * q3)))) := Y1.out.c 0 rfl
                have e1 : W8.cell? ⟨w6.heap.size, 1, none⟩ = some (.slice G1 g1 h1) := Y1.out.c 1 rfl
                have e2 : W8.cell? ⟨w6.heap.size, 2, none⟩ = some (.bool (nOf (resD (p1 * q3 + p3 * q1) (q1 * q3)))) := Y1.out.c 2 rfl
                have e3 : W8.cell? ⟨w6.heap.size, 3, none⟩ = some (.slice I1 i1 j1) := Y1.out.c 3 rfl
                have e4 : W8.cell? ⟨w7.heap.size, 0, none⟩ = some (.bool (nOf (resN (p2 * q3 + p3 * q2) (q2 * q3)))) := Y2.out.c 0 rfl
                have e5 : W8.cell? ⟨w7.heap.size, 1, none⟩ = some (.slice G2 g2 h2) := Y2.out.c 1 rfl
                have e6 : W8.cell? ⟨w7.heap.size, 2, none⟩ = some (.bool (nOf (resD (p2 * q3 + p3 * q2) (q2 * q3)))) := Y2.out.c 2 rfl
                have e7 : W8.cell? ⟨w7.heap.size, 3, none⟩ = some (.slice I2 i2 j2) := Y2.out.c 3 rfl
                go_wp2_with fail
                ((with_reducible refine (rcmp_ok _ _ _ _ cx G1 I1 G2 I2 g1 h1 i1 j1 g2 h2 i2 j2 _ U1.out V1.out U2.out V2.out (Fr.res B1.out) (Fr.res B2.out) RC.out).mono ?_); rintro e w8 ⟨rfl, hb⟩)
                clear e0 e1 e2 e3 e4 e5 e6 e7
                have S1 := Lib.hid (S1.out.below hb)
                have T1 := Lib.hid (T1.out.below hb)
                have S2 := Lib.hid (S2.out.below hb)
                have T2 := Lib.hid (T2.out.below hb)
                have S3 := Lib.hid (S3.out.below hb)
                have T3 := Lib.hid (T3.out.below hb)
                have TB := Lib.hid (tab_on TB.out hb)
                have BW := Lib.hid (below_on BW.out hb)
                have X1 := Lib.hid (X1.out.below hb)
                have X2 := Lib.hid (X2.out.below hb)
                have X3 := Lib.hid (X3.out.below hb)
                have U1 := Lib.hid (U1.out.below hb)
                have V1 := Lib.hid (V1.out.below hb)
                have Y1 := Lib.hid (Y1.out.below hb)
                have U2 := Lib.hid (U2.out.below hb)
                have V2 := Lib.hid (V2.out.below hb)
                have Y2 := Lib.hid (Y2.out.below hb)
                clear hb
                go_wp2_with fail
                go_ret
                exact ⟨ret_bool (by simp), BW.out⟩
              · rw [b2]
                clear b2
                go_wp2_with fail
                go_ret
                exact ⟨rfl, BW.out⟩
            · rw [b1]
              clear b1
              go_wp2_with fail
              go_ret
              exact ⟨rfl, BW.out⟩
        · have HL := Lib.hid hl
          have HV1 := Lib.hid e1
          have HV2 := Lib.hid e2
          have HV3 := Lib.hid e3
          clear hl e1 e2 e3
          have BW := Lib.hid (Below.refl w.heap.size w)
          go_enter Tryd.func8, Tryd.ntmps8
          go_upto_region 1 with fail
          have S1 := Lib.hid (S1.out.alloc (.cells #[.bool s1, .slice A1 n1 c1, .bool t1, .slice B1 m1 d1] 37))
          have T1 := Lib.hid (T1.out.alloc (.cells #[.bool s1, .slice A1 n1 c1, .bool t1, .slice B1 m1 d1] 37))
          have S2 := Lib.hid (S2.out.alloc (.cells #[.bool s1, .slice A1 n1 c1, .bool t1, .slice B1 m1 d1] 37))
          have T2 := Lib.hid (T2.out.alloc (.cells #[.bool s1, .slice A1 n1 c1, .bool t1, .slice B1 m1 d1] 37))
          have S3 := Lib.hid (S3.out.alloc (.cells #[.bool s1, .slice A1 n1 c1, .bool t1, .slice B1 m1 d1] 37))
          have T3 := Lib.hid (T3.out.alloc (.cells #[.bool s1, .slice A1 n1 c1, .bool t1, .slice B1 m1 d1] 37))
          have TB := Lib.hid (tab_on TB.out ((Below.refl _ _).alloc (Nat.le_refl _) (.cells #[.bool s1, .slice A1 n1 c1, .bool t1, .slice B1 m1 d1] 37)))
          have BW := Lib.hid (BW.out.alloc BW.out.size (.cells #[.bool s1, .slice A1 n1 c1, .bool t1, .slice B1 m1 d1] 37))
          have X1 := Lib.hid (Bk.new 37 w #[.bool s1, .slice A1 n1 c1, .bool t1, .slice B1 m1 d1])
          have S1 := Lib.hid (S1.out.alloc (.cells #[.bool s2, .slice A2 n2 c2, .bool t2, .slice B2 m2 d2] 37))
          have T1 := Lib.hid (T1.out.alloc (.cells #[.bool s2, .slice A2 n2 c2, .bool t2, .slice B2 m2 d2] 37))
          have S2 := Lib.hid (S2.out.alloc (.cells #[.bool s2, .slice A2 n2 c2, .bool t2, .slice B2 m2 d2] 37))
          have T2 := Lib.hid (T2.out.alloc (.cells #[.bool s2, .slice A2 n2 c2, .bool t2, .slice B2 m2 d2] 37))
          have S3 := Lib.hid (S3.out.alloc (.cells #[.bool s2, .slice A2 n2 c2, .bool t2, .slice B2 m2 d2] 37))
          have T3 := Lib.hid (T3.out.alloc (.cells #[.bool s2, .slice A2 n2 c2, .bool t2, .slice B2 m2 d2] 37))
          have TB := Lib.hid (tab_on TB.out ((Below.refl _ _).alloc (Nat.le_refl _) (.cells #[.bool s2, .slice A2 n2 c2, .bool t2, .slice B2 m2 d2] 37)))
          have BW := Lib.hid (BW.out.alloc BW.out.size (.cells #[.bool s2, .slice A2 n2 c2, .bool t2, .slice B2 m2 d2] 37))
          have X1 := Lib.hid (X1.out.alloc (.cells #[.bool s2, .slice A2 n2 c2, .bool t2, .slice B2 m2 d2] 37))
          have X2 := Lib.hid (Bk.new 37 (w.alloc (.cells #[.bool s1, .slice A1 n1 c1, .bool t1, .slice B1 m1 d1] 37)) #[.bool s2, .slice A2 n2 c2, .bool t2, .slice B2 m2 d2])
          rw [alloc_sz] at X2
          have S1 := Lib.hid (S1.out.alloc (.cells #[.bool s3, .slice A3 n3 c3, .bool t3, .slice B3 m3 d3] 37))
          have T1 := Lib.hid (T1.out.alloc (.cells #[.bool s3, .slice A3 n3 c3, .bool t3, .slice B3 m3 d3] 37))
          have S2 := Lib.hid (S2.out.alloc (.cells #[.bool s3, .slice A3 n3 c3, .bool t3, .slice B3 m3 d3] 37))
          have T2 := Lib.hid (T2.out.alloc (.cells #[.bool s3, .slice A3 n3 c3, .bool t3, .slice B3 m3 d3] 37))
          have S3 := Lib.hid (S3.out.alloc (.cells #[.bool s3, .slice A3 n3 c3, .bool t3, .slice B3 m3 d3] 37))
          have T3 := Lib.hid (T3.out.alloc (.cells #[.bool s3, .slice A3 n3 c3, .bool t3, .slice B3 m3 d3] 37))
          have TB := Lib.hid (tab_on TB.out ((Below.refl _ _).alloc (Nat.le_refl _) (.cells #[.bool s3, .slice A3 n3 c3, .bool t3, .slice B3 m3 d3] 37)))
          have BW := Lib.hid (BW.out.alloc BW.out.size (.cells #[.bool s3, .slice A3 n3 c3, .bool t3, .slice B3 m3 d3] 37))
          have X1 := Lib.hid (X1.out.alloc (.cells #[.bool s3, .slice A3 n3 c3, .bool t3, .slice B3 m3 d3] 37))
          have X2 := Lib.hid (X2.out.alloc (.cells #[.bool s3, .slice A3 n3 c3, .bool t3, .slice B3 m3 d3] 37))
          have X3 := Lib.hid (Bk.new 37 ((w.alloc (.cells #[.bool s1, .slice A1 n1 c1, .bool t1, .slice B1 m1 d1] 37)).alloc (.cells #[.bool s2, .slice A2 n2 c2, .bool t2, .slice B2 m2 d2] 37)) #[.bool s3, .slice A3 n3 c3, .bool t3, .slice B3 m3 d3])
          rw [alloc_sz, alloc_sz] at X3
          generalize (((w.alloc (.cells #[.bool s1, .slice A1 n1 c1, .bool t1, .slice B1 m1 d1] 37)).alloc (.cells #[.bool s2, .slice A2 n2 c2, .bool t2, .slice B2 m2 d2] 37)).alloc (.cells #[.bool s3, .slice A3 n3 c3, .bool t3, .slice B3 m3 d3] 37)) = W0 at *
          have e0 : W0.cell? ⟨w.heap.size, 0, none⟩ = some (.bool s1) := X1.out.c 0 rfl
          have e1 : W0.cell? ⟨w.heap.size, 1, none⟩ = some (.slice A1 n1 c1) := X1.out.c 1 rfl
          have e2 : W0.cell? ⟨w.heap.size, 2, none⟩ = some (.bool t1) := X1.out.c 2 rfl
          have e3 : W0.cell? ⟨w.heap.size, 3, none⟩ = some (.slice B1 m1 d1) := X1.out.c 3 rfl
          have e4 : W0.cell? ⟨w.heap.size + 1, 0, none⟩ = some (.bool s2) := X2.out.c 0 rfl
          have e5 : W0.cell? ⟨w.heap.size + 1, 1, none⟩ = some (.slice A2 n2 c2) := X2.out.c 1 rfl
          have e6 : W0.cell? ⟨w.heap.size + 1, 2, none⟩ = some (.bool t2) := X2.out.c 2 rfl
          have e7 : W0.cell? ⟨w.heap.size + 1, 3, none⟩ = some (.slice B2 m2 d2) := X2.out.c 3 rfl
          have e8 : W0.cell? ⟨w.heap.size + 1 + 1, 0, none⟩ = some (.bool s3) := X3.out.c 0 rfl
          have e9 : W0.cell? ⟨w.heap.size + 1 + 1, 1, none⟩ = some (.slice A3 n3 c3) := X3.out.c 1 rfl
          have e10 : W0.cell? ⟨w.heap.size + 1 + 1, 2, none⟩ = some (.bool t3) := X3.out.c 2 rfl
          have e11 : W0.cell? ⟨w.heap.size + 1 + 1, 3, none⟩ = some (.slice B3 m3 d3) := X3.out.c 3 rfl
          go_wp2_with fail
          clear e0 e1 e2 e3 e4 e5 e6 e7 e8 e9 e10 e11
          have ln1 := X1.out.lt
          have ln2 := X2.out.lt
          have ln3 := X3.out.lt
          have S1 := Lib.hid (S1.out.alloc (.cells #[.bool s1, .slice A1 n1 c1, .bool t1, .slice B1 m1 d1, .bool s2, .slice A2 n2 c2, .bool t2, .slice B2 m2 d2, .bool s3, .slice A3 n3 c3, .bool t3, .slice B3 m3 d3] 37))
          have T1 := Lib.hid (T1.out.alloc (.cells #[.bool s1, .slice A1 n1 c1, .bool t1, .slice B1 m1 d1, .bool s2, .slice A2 n2 c2, .bool t2, .slice B2 m2 d2, .bool s3, .slice A3 n3 c3, .bool t3, .slice B3 m3 d3] 37))
          have S2 := Lib.hid (S2.out.alloc (.cells #[.bool s1, .slice A1 n1 c1, .bool t1, .slice B1 m1 d1, .bool s2, .slice A2 n2 c2, .bool t2, .slice B2 m2 d2, .bool s3, .slice A3 n3 c3, .bool t3, .slice B3 m3 d3] 37))
          have T2 := Lib.hid (T2.out.alloc (.cells #[.bool s1, .slice A1 n1 c1, .bool t1, .slice B1 m1 d1, .bool s2, .slice A2 n2 c2, .bool t2, .slice B2 m2 d2, .bool s3, .slice A3 n3 c3, .bool t3, .slice B3 m3 d3] 37))
          have S3 := Lib.hid (S3.out.alloc (.cells #[.bool s1, .slice A1 n1 c1, .bool t1, .slice B1 m1 d1, .bool s2, .slice A2 n2 c2, .bool t2, .slice B2 m2 d2, .bool s3, .slice A3 n3 c3, .bool t3, .slice B3 m3 d3] 37))
          have T3 := Lib.hid (T3.out.alloc (.cells #[.bool s1, .slice A1 n1 c1, .bool t1, .slice B1 m1 d1, .bool s2, .slice A2 n2 c2, .bool t2, .slice B2 m2 d2, .bool s3, .slice A3 n3 c3, .bool t3, .slice B3 m3 d3] 37))
          have TB := Lib.hid (tab_on TB.out ((Below.refl _ _).alloc (Nat.le_refl _) (.cells #[.bool s1, .slice A1 n1 c1, .bool t1, .slice B1 m1 d1, .bool s2, .slice A2 n2 c2, .bool t2, .slice B2 m2 d2, .bool s3, .slice A3 n3 c3, .bool t3, .slice B3 m3 d3] 37)))
          have BW := Lib.hid (BW.out.alloc BW.out.size (.cells #[.bool s1, .slice A1 n1 c1, .bool t1, .slice B1 m1 d1, .bool s2, .slice A2 n2 c2, .bool t2, .slice B2 m2 d2, .bool s3, .slice A3 n3 c3, .bool t3, .slice B3 m3 d3] 37))
          have X1 := Lib.hid (X1.out.alloc (.cells #[.bool s1, .slice A1 n1 c1, .bool t1, .slice B1 m1 d1, .bool s2, .slice A2 n2 c2, .bool t2, .slice B2 m2 d2, .bool s3, .slice A3 n3 c3, .bool t3, .slice B3 m3 d3] 37))
          have X2 := Lib.hid (X2.out.alloc (.cells #[.bool s1, .slice A1 n1 c1, .bool t1, .slice B1 m1 d1, .bool s2, .slice A2 n2 c2, .bool t2, .slice B2 m2 d2, .bool s3, .slice A3 n3 c3, .bool t3, .slice B3 m3 d3] 37))
          have X3 := Lib.hid (X3.out.alloc (.cells #[.bool s1, .slice A1 n1 c1, .bool t1, .slice B1 m1 d1, .bool s2, .slice A2 n2 c2, .bool t2, .slice B2 m2 d2, .bool s3, .slice A3 n3 c3, .bool t3, .slice B3 m3 d3] 37))
          have XL := Lib.hid (Bk.new 37 W0 #[.bool s1, .slice A1 n1 c1, .bool t1, .slice B1 m1 d1, .bool s2, .slice A2 n2 c2, .bool t2, .slice B2 m2 d2, .bool s3, .slice A3 n3 c3, .bool t3, .slice B3 m3 d3])
          generalize (W0.alloc (.cells #[.bool s1, .slice A1 n1 c1, .bool t1, .slice B1 m1 d1, .bool s2, .slice A2 n2 c2, .bool t2, .slice B2 m2 d2, .bool s3, .slice A3 n3 c3, .bool t3, .slice B3 m3 d3] 37)) = WL at *
          have e0 : WL.cell? ⟨w.heap.size, 0, none⟩ = some (.bool s1) := X1.out.c 0 rfl
          have e1 : WL.cell? ⟨w.heap.size, 1, none⟩ = some (.slice A1 n1 c1) := X1.out.c 1 rfl
          have e2 : WL.cell? ⟨w.heap.size, 2, none⟩ = some (.bool t1) := X1.out.c 2 rfl
          have e3 : WL.cell? ⟨w.heap.size, 3, none⟩ = some (.slice B1 m1 d1) := X1.out.c 3 rfl
          have e4 : WL.cell? ⟨w.heap.size + 1, 0, none⟩ = some (.bool s2) := X2.out.c 0 rfl
          have e5 : WL.cell? ⟨w.heap.size + 1, 1, none⟩ = some (.slice A2 n2 c2) := X2.out.c 1 rfl
          have e6 : WL.cell? ⟨w.heap.size + 1, 2, none⟩ = some (.bool t2) := X2.out.c 2 rfl
          have e7 : WL.cell? ⟨w.heap.size + 1, 3, none⟩ = some (.slice B2 m2 d2) := X2.out.c 3 rfl
          have e8 : WL.cell? ⟨w.heap.size + 1 + 1, 0, none⟩ = some (.bool s3) := X3.out.c 0 rfl
          have e9 : WL.cell? ⟨w.heap.size + 1 + 1, 1, none⟩ = some (.slice A3 n3 c3) := X3.out.c 1 rfl
          have e10 : WL.cell? ⟨w.heap.size + 1 + 1, 2, none⟩ = some (.bool t3) := X3.out.c 2 rfl
          have e11 : WL.cell? ⟨w.heap.size + 1 + 1, 3, none⟩ = some (.slice B3 m3 d3) := X3.out.c 3 rfl
          ((with_reducible refine (light3_any W0.heap.size s1 t1 A1 B1 n1 c1 m1 d1 s2 t2 A2 B2 n2 c2 m2 d2 s3 t3 A3 B3 n3 c3 m3 d3 _ XL.out).mono ?_); rintro e w1 ⟨rfl, hb⟩)
          rw [HL.out]
          clear e0 e1 e2 e3 e4 e5 e6 e7 e8 e9 e10 e11
          have S1 := Lib.hid (S1.out.below hb)
          have T1 := Lib.hid (T1.out.below hb)
          have S2 := Lib.hid (S2.out.below hb)
          have T2 := Lib.hid (T2.out.below hb)
          have S3 := Lib.hid (S3.out.below hb)
          have T3 := Lib.hid (T3.out.below hb)
          have TB := Lib.hid (tab_on TB.out hb)
          have BW := Lib.hid (below_on BW.out hb)
          have X1 := Lib.hid (X1.out.below hb)
          have X2 := Lib.hid (X2.out.below hb)
          have X3 := Lib.hid (X3.out.below hb)
          have XL := Lib.hid (XL.out.below hb)
          clear hb
          clear XL
          have e0 : w1.cell? ⟨w.heap.size, 0, none⟩ = some (.bool s1) := X1.out.c 0 rfl
          have e1 : w1.cell? ⟨w.heap.size, 1, none⟩ = some (.slice A1 n1 c1) := X1.out.c 1 rfl
          have e2 : w1.cell? ⟨w.heap.size, 2, none⟩ = some (.bool t1) := X1.out.c 2 rfl
          have e3 : w1.cell? ⟨w.heap.size, 3, none⟩ = some (.slice B1 m1 d1) := X1.out.c 3 rfl
          have e4 : w1.cell? ⟨w.heap.size + 1, 0, none⟩ = some (.bool s2) := X2.out.c 0 rfl
          have e5 : w1.cell? ⟨w.heap.size + 1, 1, none⟩ = some (.slice A2 n2 c2) := X2.out.c 1 rfl
          have e6 : w1.cell? ⟨w.heap.size + 1, 2, none⟩ = some (.bool t2) := X2.out.c 2 rfl
          have e7 : w1.cell? ⟨w.heap.size + 1, 3, none⟩ = some (.slice B2 m2 d2) := X2.out.c 3 rfl
          have e8 : w1.cell? ⟨w.heap.size + 1 + 1, 0, none⟩ = some (.bool s3) := X3.out.c 0 rfl
          have e9 : w1.cell? ⟨w.heap.size + 1 + 1, 1, none⟩ = some (.slice A3 n3 c3) := X3.out.c 1 rfl
          have e10 : w1.cell? ⟨w.heap.size + 1 + 1, 2, none⟩ = some (.bool t3) := X3.out.c 2 rfl
          have e11 : w1.cell? ⟨w.heap.size + 1 + 1, 3, none⟩ = some (.slice B3 m3 d3) := X3.out.c 3 rfl
          go_wp2_with fail
          ((with_reducible refine (rvalid_any s1 t1 A1 B1 n1 c1 m1 d1 x1 y1 _ S1.out T1.out).mono ?_); rintro e v1 ⟨rfl, hb⟩)
          rw [HV1.out]
          clear e0 e1 e2 e3 e4 e5 e6 e7 e8 e9 e10 e11
          have S1 := Lib.hid (S1.out.below hb)
          have T1 := Lib.hid (T1.out.below hb)
          have S2 := Lib.hid (S2.out.below hb)
          have T2 := Lib.hid (T2.out.below hb)
          have S3 := Lib.hid (S3.out.below hb)
          have T3 := Lib.hid (T3.out.below hb)
          have TB := Lib.hid (tab_on TB.out hb)
          have BW := Lib.hid (below_on BW.out hb)
          have X1 := Lib.hid (X1.out.below hb)
          have X2 := Lib.hid (X2.out.below hb)
          have X3 := Lib.hid (X3.out.below hb)
          clear hb
          have e0 : v1.cell? ⟨w.heap.size, 0, none⟩ = some (.bool s1) := X1.out.c 0 rfl
          have e1 : v1.cell? ⟨w.heap.size, 1, none⟩ = some (.slice A1 n1 c1) := X1.out.c 1 rfl
          have e2 : v1.cell? ⟨w.heap.size, 2, none⟩ = some (.bool t1) := X1.out.c 2 rfl
          have e3 : v1.cell? ⟨w.heap.size, 3, none⟩ = some (.slice B1 m1 d1) := X1.out.c 3 rfl
          have e4 : v1.cell? ⟨w.heap.size + 1, 0, none⟩ = some (.bool s2) := X2.out.c 0 rfl
          have e5 : v1.cell? ⟨w.heap.size + 1, 1, none⟩ = some (.slice A2 n2 c2) := X2.out.c 1 rfl
          have e6 : v1.cell? ⟨w.heap.size + 1, 2, none⟩ = some (.bool t2) := X2.out.c 2 rfl
          have e7 : v1.cell? ⟨w.heap.size + 1, 3, none⟩ = some (.slice B2 m2 d2) := X2.out.c 3 rfl
          have e8 : v1.cell? ⟨w.heap.size + 1 + 1, 0, none⟩ = some (.bool s3) := X3.out.c 0 rfl
          have e9 : v1.cell? ⟨w.heap.size + 1 + 1, 1, none⟩ = some (.slice A3 n3 c3) := X3.out.c 1 rfl
          have e10 : v1.cell? ⟨w.heap.size + 1 + 1, 2, none⟩ = some (.bool t3) := X3.out.c 2 rfl
          have e11 : v1.cell? ⟨w.heap.size + 1 + 1, 3, none⟩ = some (.slice B3 m3 d3) := X3.out.c 3 rfl
          go_wp2_with fail
          ((with_reducible refine (rvalid_any s2 t2 A2 B2 n2 c2 m2 d2 x2 y2 _ S2.out T2.out).mono ?_); rintro e v2 ⟨rfl, hb⟩)
          rw [HV2.out]
          clear e0 e1 e2 e3 e4 e5 e6 e7 e8 e9 e10 e11
          have S1 := Lib.hid (S1.out.below hb)
          have T1 := Lib.hid (T1.out.below hb)
          have S2 := Lib.hid (S2.out.below hb)
          have T2 := Lib.hid (T2.out.below hb)
          have S3 := Lib.hid (S3.out.below hb)
          have T3 := Lib.hid (T3.out.below hb)
          have TB := Lib.hid (tab_on TB.out hb)
          have BW := Lib.hid (below_on BW.out hb)
          have X1 := Lib.hid (X1.out.below hb)
          have X2 := Lib.hid (X2.out.below hb)
          have X3 := Lib.hid (X3.out.below hb)
          clear hb
          have e0 : v2.cell? ⟨w.heap.size, 0, none⟩ = some (.bool s1) := X1.out.c 0 rfl
          have e1 : v2.cell? ⟨w.heap.size, 1, none⟩ = some (.slice A1 n1 c1) := X1.out.c 1 rfl
          have e2 : v2.cell? ⟨w.heap.size, 2, none⟩ = some (.bool t1) := X1.out.c 2 rfl
          have e3 : v2.cell? ⟨w.heap.size, 3, none⟩ = some (.slice B1 m1 d1) := X1.out.c 3 rfl
          have e4 : v2.cell? ⟨w.heap.size + 1, 0, none⟩ = some (.bool s2) := X2.out.c 0 rfl
          have e5 : v2.cell? ⟨w.heap.size + 1, 1, none⟩ = some (.slice A2 n2 c2) := X2.out.c 1 rfl
          have e6 : v2.cell? ⟨w.heap.size + 1, 2, none⟩ = some (.bool t2) := X2.out.c 2 rfl
          have e7 : v2.cell? ⟨w.heap.size + 1, 3, none⟩ = some (.slice B2 m2 d2) := X2.out.c 3 rfl
          have e8 : v2.cell? ⟨w.heap.size + 1 + 1, 0, none⟩ = some (.bool s3) := X3.out.c 0 rfl
          have e9 : v2.cell? ⟨w.heap.size + 1 + 1, 1, none⟩ = some (.slice A3 n3 c3) := X3.out.c 1 rfl
          have e10 : v2.cell? ⟨w.heap.size + 1 + 1, 2, none⟩ = some (.bool t3) := X3.out.c 2 rfl
          have e11 : v2.cell? ⟨w.heap.size + 1 + 1, 3, none⟩ = some (.slice B3 m3 d3) := X3.out.c 3 rfl
          go_wp2_with fail
          ((with_reducible refine (rvalid_any s3 t3 A3 B3 n3 c3 m3 d3 x3 y3 _ S3.out T3.out).mono ?_); rintro e v3 ⟨rfl, hb⟩)
          rw [HV3.out]
          clear e0 e1 e2 e3 e4 e5 e6 e7 e8 e9 e10 e11
          have S1 := Lib.hid (S1.out.below hb)
          have T1 := Lib.hid (T1.out.below hb)
          have S2 := Lib.hid (S2.out.below hb)
          have T2 := Lib.hid (T2.out.below hb)
          have S3 := Lib.hid (S3.out.below hb)
          have T3 := Lib.hid (T3.out.below hb)
          have TB := Lib.hid (tab_on TB.out hb)
          have BW := Lib.hid (below_on BW.out hb)
          have X1 := Lib.hid (X1.out.below hb)
          have X2 := Lib.hid (X2.out.below hb)
          have X3 := Lib.hid (X3.out.below hb)
          clear hb
          have e0 : v3.cell? ⟨w.heap.size, 0, none⟩ = some (.bool s1) := X1.out.c 0 rfl
          have e1 : v3.cell? ⟨w.heap.size, 1, none⟩ = some (.slice A1 n1 c1) := X1.out.c 1 rfl
          have e2 : v3.cell? ⟨w.heap.size, 2, none⟩ = some (.bool t1) := X1.out.c 2 rfl
          have e3 : v3.cell? ⟨w.heap.size, 3, none⟩ = some (.slice B1 m1 d1) := X1.out.c 3 rfl
          have e4 : v3.cell? ⟨w.heap.size + 1, 0, none⟩ = some (.bool s2) := X2.out.c 0 rfl
          have e5 : v3.cell? ⟨w.heap.size + 1, 1, none⟩ = some (.slice A2 n2 c2) := X2.out.c 1 rfl
          have e6 : v3.cell? ⟨w.heap.size + 1, 2, none⟩ = some (.bool t2) := X2.out.c 2 rfl
          have e7 : v3.cell? ⟨w.heap.size + 1, 3, none⟩ = some (.slice B2 m2 d2) := X2.out.c 3 rfl
          have e8 : v3.cell? ⟨w.heap.size + 1 + 1, 0, none⟩ = some (.bool s3) := X3.out.c 0 rfl
          have e9 : v3.cell? ⟨w.heap.size + 1 + 1, 1, none⟩ = some (.slice A3 n3 c3) := X3.out.c 1 rfl
          have e10 : v3.cell? ⟨w.heap.size + 1 + 1, 2, none⟩ = some (.bool t3) := X3.out.c 2 rfl
          have e11 : v3.cell? ⟨w.heap.size + 1 + 1, 3, none⟩ = some (.slice B3 m3 d3) := X3.out.c 3 rfl
          go_wp2_with fail
          ((with_reducible refine (awake3_any _ TB.out).mono ?_); rintro e w9 ⟨rfl, hb⟩)
          clear e0 e1 e2 e3 e4 e5 e6 e7 e8 e9 e10 e11
          have S1 := Lib.hid (S1.out.below hb)
          have T1 := Lib.hid (T1.out.below hb)
          have S2 := Lib.hid (S2.out.below hb)
          have T2 := Lib.hid (T2.out.below hb)
          have S3 := Lib.hid (S3.out.below hb)
          have T3 := Lib.hid (T3.out.below hb)
          have TB := Lib.hid (tab_on TB.out hb)
          have BW := Lib.hid (below_on BW.out hb)
          have X1 := Lib.hid (X1.out.below hb)
          have X2 := Lib.hid (X2.out.below hb)
          have X3 := Lib.hid (X3.out.below hb)
          clear hb
          go_wp2_with fail
          go_ret
          exact ⟨rfl, BW.out⟩
      · have HL := Lib.hid hl
        have HV1 := Lib.hid e1
        have HV2 := Lib.hid e2
        clear hl e1 e2
        have BW := Lib.hid (Below.refl w.heap.size w)
        go_enter Tryd.func8, Tryd.ntmps8
        go_upto_region 1 with fail
        have S1 := Lib.hid (S1.out.alloc (.cells #[.bool s1, .slice A1 n1 c1, .bool t1, .slice B1 m1 d1] 37))
        have T1 := Lib.hid (T1.out.alloc (.cells #[.bool s1, .slice A1 n1 c1, .bool t1, .slice B1 m1 d1] 37))
        have S2 := Lib.hid (S2.out.alloc (.cells #[.bool s1, .slice A1 n1 c1, .bool t1, .slice B1 m1 d1] 37))
        have T2 := Lib.hid (T2.out.alloc (.cells #[.bool s1, .slice A1 n1 c1, .bool t1, .slice B1 m1 d1] 37))
        have S3 := Lib.hid (S3.out.alloc (.cells #[.bool s1, .slice A1 n1 c1, .bool t1, .slice B1 m1 d1] 37))
        have T3 := Lib.hid (T3.out.alloc (.cells #[.bool s1, .slice A1 n1 c1, .bool t1, .slice B1 m1 d1] 37))
        have TB := Lib.hid (tab_on TB.out ((Below.refl _ _).alloc (Nat.le_refl _) (.cells #[.bool s1, .slice A1 n1 c1, .bool t1, .slice B1 m1 d1] 37)))
        have BW := Lib.hid (BW.out.alloc BW.out.size (.cells #[.bool s1, .slice A1 n1 c1, .bool t1, .slice B1 m1 d1] 37))
        have X1 := Lib.hid (Bk.new 37 w #[.bool s1, .slice A1 n1 c1, .bool t1, .slice B1 m1 d1])
        have S1 := Lib.hid (S1.out.alloc (.cells #[.bool s2, .slice A2 n2 c2, .bool t2, .slice B2 m2 d2] 37))
        have T1 := Lib.hid (T1.out.alloc (.cells #[.bool s2, .slice A2 n2 c2, .bool t2, .slice B2 m2 d2] 37))
        have S2 := Lib.hid (S2.out.alloc (.cells #[.bool s2, .slice A2 n2 c2, .bool t2, .slice B2 m2 d2] 37))
        have T2 := Lib.hid (T2.out.alloc (.cells #[.bool s2, .slice A2 n2 c2, .bool t2, .slice B2 m2 d2] 37))
        have S3 := Lib.hid (S3.out.alloc (.cells #[.bool s2, .slice A2 n2 c2, .bool t2, .slice B2 m2 d2] 37))
        have T3 := Lib.hid (T3.out.alloc (.cells #[.bool s2, .slice A2 n2 c2, .bool t2, .slice B2 m2 d2] 37))
        have TB := Lib.hid (tab_on TB.out ((Below.refl _ _).alloc (Nat.le_refl _) (.cells #[.bool s2, .slice A2 n2 c2, .bool t2, .slice B2 m2 d2] 37)))
        have BW := Lib.hid (BW.out.alloc BW.out.size (.cells #[.bool s2, .slice A2 n2 c2, .bool t2, .slice B2 m2 d2] 37))
        have X1 := Lib.hid (X1.out.alloc (.cells #[.bool s2, .slice A2 n2 c2, .bool t2, .slice B2 m2 d2] 37))
        have X2 := Lib.hid (Bk.new 37 (w.alloc (.cells #[.bool s1, .slice A1 n1 c1, .bool t1, .slice B1 m1 d1] 37)) #[.bool s2, .slice A2 n2 c2, .bool t2, .slice B2 m2 d2])
        rw [alloc_sz] at X2
        have S1 := Lib.hid (S1.out.alloc (.cells #[.bool s3, .slice A3 n3 c3, .bool t3, .slice B3 m3 d3] 37))
        have T1 := Lib.hid (T1.out.alloc (.cells #[.bool s3, .slice A3 n3 c3, .bool t3, .slice B3 m3 d3] 37))
        have S2 := Lib.hid (S2.out.alloc (.cells #[.bool s3, .slice A3 n3 c3, .bool t3, .slice B3 m3 d3] 37))
        have T2 := Lib.hid (T2.out.alloc (.cells #[.bool s3, .slice A3 n3 c3, .bool t3, .slice B3 m3 d3] 37))
        have S3 := Lib.hid (S3.out.alloc (.cells #[.bool s3, .slice A3 n3 c3, .bool t3, .slice B3 m3 d3] 37))
        have T3 := Lib.hid (T3.out.alloc (.cells #[.bool s3, .slice A3 n3 c3, .bool t3, .slice B3 m3 d3] 37))
        have TB := Lib.hid (tab_on TB.out ((Below.refl _ _).alloc (Nat.le_refl _) (.cells #[.bool s3, .slice A3 n3 c3, .bool t3, .slice B3 m3 d3] 37)))
        have BW := Lib.hid (BW.out.alloc BW.out.size (.cells #[.bool s3, .slice A3 n3 c3, .bool t3, .slice B3 m3 d3] 37))
        have X1 := Lib.hid (X1.out.alloc (.cells #[.bool s3, .slice A3 n3 c3, .bool t3, .slice B3 m3 d3] 37))
        have X2 := Lib.hid (X2.out.alloc (.cells #[.bool s3, .slice A3 n3 c3, .bool t3, .slice B3 m3 d3] 37))
        have X3 := Lib.hid (Bk.new 37 ((w.alloc (.cells #[.bool s1, .slice A1 n1 c1, .bool t1, .slice B1 m1 d1] 37)).alloc (.cells #[.bool s2, .slice A2 n2 c2, .bool t2, .slice B2 m2 d2] 37)) #[.bool s3, .slice A3 n3 c3, .bool t3, .slice B3 m3 d3])
        rw [alloc_sz, alloc_sz] at X3
        generalize (((w.alloc (.cells #[.bool s1, .slice A1 n1 c1, .bool t1, .slice B1 m1 d1] 37)).alloc (.cells #[.bool s2, .slice A2 n2 c2, .bool t2, .slice B2 m2 d2] 37)).alloc (.cells #[.bool s3, .slice A3 n3 c3, .bool t3, .slice B3 m3 d3] 37)) = W0 at *
        have e0 : W0.cell? ⟨w.heap.size, 0, none⟩ = some (.bool s1) := X1.out.c 0 rfl
        have e1 : W0.cell? ⟨w.heap.size, 1, none⟩ = some (.slice A1 n1 c1) := X1.out.c 1 rfl
        have e2 : W0.cell? ⟨w.heap.size, 2, none⟩ = some (.bool t1) := X1.out.c 2 rfl
        have e3 : W0.cell? ⟨w.heap.size, 3, none⟩ = some (.slice B1 m1 d1) := X1.out.c 3 rfl
        have e4 : W0.cell? ⟨w.heap.size + 1, 0, none⟩ = some (.bool s2) := X2.out.c 0 rfl
        have e5 : W0.cell? ⟨w.heap.size + 1, 1, none⟩ = some (.slice A2 n2 c2) := X2.out.c 1 rfl
        have e6 : W0.cell? ⟨w.heap.size + 1, 2, none⟩ = some (.bool t2) := X2.out.c 2 rfl
        have e7 : W0.cell? ⟨w.heap.size + 1, 3, none⟩ = some (.slice B2 m2 d2) := X2.out.c 3 rfl
        have e8 : W0.cell? ⟨w.heap.size + 1 + 1, 0, none⟩ = some (.bool s3) := X3.out.c 0 rfl
        have e9 : W0.cell? ⟨w.heap.size + 1 + 1, 1, none⟩ = some (.slice A3 n3 c3) := X3.out.c 1 rfl
        have e10 : W0.cell? ⟨w.heap.size + 1 + 1, 2, none⟩ = some (.bool t3) := X3.out.c 2 rfl
        have e11 : W0.cell? ⟨w.heap.size + 1 + 1, 3, none⟩ = some (.slice B3 m3 d3) := X3.out.c 3 rfl
        go_wp2_with fail
        clear e0 e1 e2 e3 e4 e5 e6 e7 e8 e9 e10 e11
        have ln1 := X1.out.lt
        have ln2 := X2.out.lt
        have ln3 := X3.out.lt
        have S1 := Lib.hid (S1.out.alloc (.cells #[.bool s1, .slice A1 n1 c1, .bool t1, .slice B1 m1 d1, .bool s2, .slice A2 n2 c2, .bool t2, .slice B2 m2 d2, .bool s3, .slice A3 n3 c3, .bool t3, .slice B3 m3 d3] 37))
        have T1 := Lib.hid (T1.out.alloc (.cells #[.bool s1, .slice A1 n1 c1, .bool t1, .slice B1 m1 d1, .bool s2, .slice A2 n2 c2, .bool t2, .slice B2 m2 d2, .bool s3, .slice A3 n3 c3, .bool t3, .slice B3 m3 d3] 37))
        have S2 := Lib.hid (S2.out.alloc (.cells #[.bool s1, .slice A1 n1 c1, .bool t1, .slice B1 m1 d1, .bool s2, .slice A2 n2 c2, .bool t2, .slice B2 m2 d2, .bool s3, .slice A3 n3 c3, .bool t3, .slice B3 m3 d3] 37))
        have T2 := Lib.hid (T2.out.alloc (.cells #[.bool s1, .slice A1 n1 c1, .bool t1, .slice B1 m1 d1, .bool s2, .slice A2 n2 c2, .bool t2, .slice B2 m2 d2, .bool s3, .slice A3 n3 c3, .bool t3, .slice B3 m3 d3] 37))
        have S3 := Lib.hid (S3.out.alloc (.cells #[.bool s1, .slice A1 n1 c1, .bool t1, .slice B1 m1 d1, .bool s2, .slice A2 n2 c2, .bool t2, .slice B2 m2 d2, .bool s3, .slice A3 n3 c3, .bool t3, .slice B3 m3 d3] 37))
        have T3 := Lib.hid (T3.out.alloc (.cells #[.bool s1, .slice A1 n1 c1, .bool t1, .slice B1 m1 d1, .bool s2, .slice A2 n2 c2, .bool t2, .slice B2 m2 d2, .bool s3, .slice A3 n3 c3, .bool t3, .slice B3 m3 d3] 37))
        have TB := Lib.hid (tab_on TB.out ((Below.refl _ _).alloc (Nat.le_refl _) (.cells #[.bool s1, .slice A1 n1 c1, .bool t1, .slice B1 m1 d1, .bool s2, .slice A2 n2 c2, .bool t2, .slice B2 m2 d2, .bool s3, .slice A3 n3 c3, .bool t3, .slice B3 m3 d3] 37)))
        have BW := Lib.hid (BW.out.alloc BW.out.size (.cells #[.bool s1, .slice A1 n1 c1, .bool t1, .slice B1 m1 d1, .bool s2, .slice A2 n2 c2, .bool t2, .slice B2 m2 d2, .bool s3, .slice A3 n3 c3, .bool t3, .slice B3 m3 d3] 37))
        have X1 := Lib.hid (X1.out.alloc (.cells #[.bool s1, .slice A1 n1 c1, .bool t1, .slice B1 m1 d1, .bool s2, .slice A2 n2 c2, .bool t2, .slice B2 m2 d2, .bool s3, .slice A3 n3 c3, .bool t3, .slice B3 m3 d3] 37))
        have X2 := Lib.hid (X2.out.alloc (.cells #[.bool s1, .slice A1 n1 c1, .bool t1, .slice B1 m1 d1, .bool s2, .slice A2 n2 c2, .bool t2, .slice B2 m2 d2, .bool s3, .slice A3 n3 c3, .bool t3, .slice B3 m3 d3] 37))
        have X3 := Lib.hid (X3.out.alloc (.cells #[.bool s1, .slice A1 n1 c1, .bool t1, .slice B1 m1 d1, .bool s2, .slice A2 n2 c2, .bool t2, .slice B2 m2 d2, .bool s3, .slice A3 n3 c3, .bool t3, .slice B3 m3 d3] 37))
        have XL := Lib.hid (Bk.new 37 W0 #[.bool s1, .slice A1 n1 c1, .bool t1, .slice B1 m1 d1, .bool s2, .slice A2 n2 c2, .bool t2, .slice B2 m2 d2, .bool s3, .slice A3 n3 c3, .bool t3, .slice B3 m3 d3])
        generalize (W0.alloc (.cells #[.bool s1, .slice A1 n1 c1, .bool t1, .slice B1 m1 d1, .bool s2, .slice A2 n2 c2, .bool t2, .slice B2 m2 d2, .bool s3, .slice A3 n3 c3, .bool t3, .slice B3 m3 d3] 37)) = WL at *
        have e0 : WL.cell? ⟨w.heap.size, 0, none⟩ = some (.bool s1) := X1.out.c 0 rfl
        have e1 : WL.cell? ⟨w.heap.size, 1, none⟩ = some (.slice A1 n1 c1) := X1.out.c 1 rfl
        have e2 : WL.cell? ⟨w.heap.size, 2, none⟩ = some (.bool t1) := X1.out.c 2 rfl
        have e3 : WL.cell? ⟨w.heap.size, 3, none⟩ = some (.slice B1 m1 d1) := X1.out.c 3 rfl
        have e4 : WL.cell? ⟨w.heap.size + 1, 0, none⟩ = some (.bool s2) := X2.out.c 0 rfl
        have e5 : WL.cell? ⟨w.heap.size + 1, 1, none⟩ = some (.slice A2 n2 c2) := X2.out.c 1 rfl
        have e6 : WL.cell? ⟨w.heap.size + 1, 2, none⟩ = some (.bool t2) := X2.out.c 2 rfl
        have e7 : WL.cell? ⟨w.heap.size + 1, 3, none⟩ = some (.slice B2 m2 d2) := X2.out.c 3 rfl
        have e8 : WL.cell? ⟨w.heap.size + 1 + 1, 0, none⟩ = some (.bool s3) := X3.out.c 0 rfl
        have e9 : WL.cell? ⟨w.heap.size + 1 + 1, 1, none⟩ = some (.slice A3 n3 c3) := X3.out.c 1 rfl
        have e10 : WL.cell? ⟨w.heap.size + 1 + 1, 2, none⟩ = some (.bool t3) := X3.out.c 2 rfl
        have e11 : WL.cell? ⟨w.heap.size + 1 + 1, 3, none⟩ = some (.slice B3 m3 d3) := X3.out.c 3 rfl
        ((with_reducible refine (light3_any W0.heap.size s1 t1 A1 B1 n1 c1 m1 d1 s2 t2 A2 B2 n2 c2 m2 d2 s3 t3 A3 B3 n3 c3 m3 d3 _ XL.out).mono ?_); rintro e w1 ⟨rfl, hb⟩)
        rw [HL.out]
        clear e0 e1 e2 e3 e4 e5 e6 e7 e8 e9 e10 e11
        have S1 := Lib.hid (S1.out.below hb)
        have T1 := Lib.hid (T1.out.below hb)
        have S2 := Lib.hid (S2.out.below hb)
        have T2 := Lib.hid (T2.out.below hb)
        have S3 := Lib.hid (S3.out.below hb)
        have T3 := Lib.hid (T3.out.below hb)
        have TB := Lib.hid (tab_on TB.out hb)
        have BW := Lib.hid (below_on BW.out hb)
        have X1 := Lib.hid (X1.out.below hb)
        have X2 := Lib.hid (X2.out.below hb)
        have X3 := Lib.hid (X3.out.below hb)
        have XL := Lib.hid (XL.out.below hb)
        clear hb
        clear XL
        have e0 : w1.cell? ⟨w.heap.size, 0, none⟩ = some (.bool s1) := X1.out.c 0 rfl
        have e1 : w1.cell? ⟨w.heap.size, 1, none⟩ = some (.slice A1 n1 c1) := X1.out.c 1 rfl
        have e2 : w1.cell? ⟨w.heap.size, 2, none⟩ = some (.bool t1) := X1.out.c 2 rfl
        have e3 : w1.cell? ⟨w.heap.size, 3, none⟩ = some (.slice B1 m1 d1) := X1.out.c 3 rfl
        have e4 : w1.cell? ⟨w.heap.size + 1, 0, none⟩ = some (.bool s2) := X2.out.c 0 rfl
        have e5 : w1.cell? ⟨w.heap.size + 1, 1, none⟩ = some (.slice A2 n2 c2) := X2.out.c 1 rfl
        have e6 : w1.cell? ⟨w.heap.size + 1, 2, none⟩ = some (.bool t2) := X2.out.c 2 rfl
        have e7 : w1.cell? ⟨w.heap.size + 1, 3, none⟩ = some (.slice B2 m2 d2) := X2.out.c 3 rfl
        have e8 : w1.cell? ⟨w.heap.size + 1 + 1, 0, none⟩ = some (.bool s3) := X3.out.c 0 rfl
        have e9 : w1.cell? ⟨w.heap.size + 1 + 1, 1, none⟩ = some (.slice A3 n3 c3) := X3.out.c 1 rfl
        have e10 : w1.cell? ⟨w.heap.size + 1 + 1, 2, none⟩ = some (.bool t3) := X3.out.c 2 rfl
        have e11 : w1.cell? ⟨w.heap.size + 1 + 1, 3, none⟩ = some (.slice B3 m3 d3) := X3.out.c 3 rfl
        go_wp2_with fail
        ((with_reducible refine (rvalid_any s1 t1 A1 B1 n1 c1 m1 d1 x1 y1 _ S1.out T1.out).mono ?_); rintro e v1 ⟨rfl, hb⟩)
        rw [HV1.out]
        clear e0 e1 e2 e3 e4 e5 e6 e7 e8 e9 e10 e11
        have S1 := Lib.hid (S1.out.below hb)
        have T1 := Lib.hid (T1.out.below hb)
        have S2 := Lib.hid (S2.out.below hb)
        have T2 := Lib.hid (T2.out.below hb)
        have S3 := Lib.hid (S3.out.below hb)
        have T3 := Lib.hid (T3.out.below hb)
        have TB := Lib.hid (tab_on TB.out hb)
        have BW := Lib.hid (below_on BW.out hb)
        have X1 := Lib.hid (X1.out.below hb)
        have X2 := Lib.hid (X2.out.below hb)
        have X3 := Lib.hid (X3.out.below hb)
        clear hb
        have e0 : v1.cell? ⟨w.heap.size, 0, none⟩ = some (.bool s1) := X1.out.c 0 rfl
        have e1 : v1.cell? ⟨w.heap.size, 1, none⟩ = some (.slice A1 n1 c1) := X1.out.c 1 rfl
        have e2 : v1.cell? ⟨w.heap.size, 2, none⟩ = some (.bool t1) := X1.out.c 2 rfl
        have e3 : v1.cell? ⟨w.heap.size, 3, none⟩ = some (.slice B1 m1 d1) := X1.out.c 3 rfl
        have e4 : v1.cell? ⟨w.heap.size + 1, 0, none⟩ = some (.bool s2) := X2.out.c 0 rfl
        have e5 : v1.cell? ⟨w.heap.size + 1, 1, none⟩ = some (.slice A2 n2 c2) := X2.out.c 1 rfl
        have e6 : v1.cell? ⟨w.heap.size + 1, 2, none⟩ = some (.bool t2) := X2.out.c 2 rfl
        have e7 : v1.cell? ⟨w.heap.size + 1, 3, none⟩ = some (.slice B2 m2 d2) := X2.out.c 3 rfl
        have e8 : v1.cell? ⟨w.heap.size + 1 + 1, 0, none⟩ = some (.bool s3) := X3.out.c 0 rfl
        have e9 : v1.cell? ⟨w.heap.size + 1 + 1, 1, none⟩ = some (.slice A3 n3 c3) := X3.out.c 1 rfl
        have e10 : v1.cell? ⟨w.heap.size + 1 + 1, 2, none⟩ = some (.bool t3) := X3.out.c 2 rfl
        have e11 : v1.cell? ⟨w.heap.size + 1 + 1, 3, none⟩ = some (.slice B3 m3 d3) := X3.out.c 3 rfl
        go_wp2_with fail
        ((with_reducible refine (rvalid_any s2 t2 A2 B2 n2 c2 m2 d2 x2 y2 _ S2.out T2.out).mono ?_); rintro e v2 ⟨rfl, hb⟩)
        rw [HV2.out]
        clear e0 e1 e2 e3 e4 e5 e6 e7 e8 e9 e10 e11
        have S1 := Lib.hid (S1.out.below hb)
        have T1 := Lib.hid (T1.out.below hb)
        have S2 := Lib.hid (S2.out.below hb)
        have T2 := Lib.hid (T2.out.below hb)
        have S3 := Lib.hid (S3.out.below hb)
        have T3 := Lib.hid (T3.out.below hb)
        have TB := Lib.hid (tab_on TB.out hb)
        have BW := Lib.hid (below_on BW.out hb)
        have X1 := Lib.hid (X1.out.below hb)
        have X2 := Lib.hid (X2.out.below hb)
        have X3 := Lib.hid (X3.out.below hb)
        clear hb
        have e0 : v2.cell? ⟨w.heap.size, 0, none⟩ = some (.bool s1) := X1.out.c 0 rfl
        have e1 : v2.cell? ⟨w.heap.size, 1, none⟩ = some (.slice A1 n1 c1) := X1.out.c 1 rfl
        have e2 : v2.cell? ⟨w.heap.size, 2, none⟩ = some (.bool t1) := X1.out.c 2 rfl
        have e3 : v2.cell? ⟨w.heap.size, 3, none⟩ = some (.slice B1 m1 d1) := X1.out.c 3 rfl
        have e4 : v2.cell? ⟨w.heap.size + 1, 0, none⟩ = some (.bool s2) := X2.out.c 0 rfl
        have e5 : v2.cell? ⟨w.heap.size + 1, 1, none⟩ = some (.slice A2 n2 c2) := X2.out.c 1 rfl
        have e6 : v2.cell? ⟨w.heap.size + 1, 2, none⟩ = some (.bool t2) := X2.out.c 2 rfl
        have e7 : v2.cell? ⟨w.heap.size + 1, 3, none⟩ = some (.slice B2 m2 d2) := X2.out.c 3 rfl
        have e8 : v2.cell? ⟨w.heap.size + 1 + 1, 0, none⟩ = some (.bool s3) := X3.out.c 0 rfl
        have e9 : v2.cell? ⟨w.heap.size + 1 + 1, 1, none⟩ = some (.slice A3 n3 c3) := X3.out.c 1 rfl
        have e10 : v2.cell? ⟨w.heap.size + 1 + 1, 2, none⟩ = some (.bool t3) := X3.out.c 2 rfl
        have e11 : v2.cell? ⟨w.heap.size + 1 + 1, 3, none⟩ = some (.slice B3 m3 d3) := X3.out.c 3 rfl
        go_wp2_with fail
        ((with_reducible refine (awake3_any _ TB.out).mono ?_); rintro e w9 ⟨rfl, hb⟩)
        clear e0 e1 e2 e3 e4 e5 e6 e7 e8 e9 e10 e11
        have S1 := Lib.hid (S1.out.below hb)
        have T1 := Lib.hid (T1.out.below hb)
        have S2 := Lib.hid (S2.out.below hb)
        have T2 := Lib.hid (T2.out.below hb)
        have S3 := Lib.hid (S3.out.below hb)
        have T3 := Lib.hid (T3.out.below hb)
        have TB := Lib.hid (tab_on TB.out hb)
        have BW := Lib.hid (below_on BW.out hb)
        have X1 := Lib.hid (X1.out.below hb)
        have X2 := Lib.hid (X2.out.below hb)
        have X3 := Lib.hid (X3.out.below hb)
        clear hb
        go_wp2_with fail
        go_ret
        exact ⟨rfl, BW.out⟩
    · have HL := Lib.hid hl
      have HV1 := Lib.hid e1
      clear hl e1
      have BW := Lib.hid (Below.refl w.heap.size w)
      go_enter Tryd.func8, Tryd.ntmps8
      go_upto_region 1 with fail
      have S1 := Lib.hid (S1.out.alloc (.cells #[.bool s1, .slice A1 n1 c1, .bool t1, .slice B1 m1 d1] 37))
      have T1 := Lib.hid (T1.out.alloc (.cells #[.bool s1, .slice A1 n1 c1, .bool t1, .slice B1 m1 d1] 37))
      have S2 := Lib.hid (S2.out.alloc (.cells #[.bool s1, .slice A1 n1 c1, .bool t1, .slice B1 m1 d1] 37))
      have T2 := Lib.hid (T2.out.alloc (.cells #[.bool s1, .slice A1 n1 c1, .bool t1, .slice B1 m1 d1] 37))
      have S3 := Lib.hid (S3.out.alloc (.cells #[.bool s1, .slice A1 n1 c1, .bool t1, .slice B1 m1 d1] 37))
      have T3 := Lib.hid (T3.out.alloc (.cells #[.bool s1, .slice A1 n1 c1, .bool t1, .slice B1 m1 d1] 37))
      have TB := Lib.hid (tab_on TB.out ((Below.refl _ _).alloc (Nat.le_refl _) (.cells #[.bool s1, .slice A1 n1 c1, .bool t1, .slice B1 m1 d1] 37)))
      have BW := Lib.hid (BW.out.alloc BW.out.size (.cells #[.bool s1, .slice A1 n1 c1, .bool t1, .slice B1 m1 d1] 37))
      have X1 := Lib.hid (Bk.new 37 w #[.bool s1, .slice A1 n1 c1, .bool t1, .slice B1 m1 d1])
      have S1 := Lib.hid (S1.out.alloc (.cells #[.bool s2, .slice A2 n2 c2, .bool t2, .slice B2 m2 d2] 37))
      have T1 := Lib.hid (T1.out.alloc (.cells #[.bool s2, .slice A2 n2 c2, .bool t2, .slice B2 m2 d2] 37))
      have S2 := Lib.hid (S2.out.alloc (.cells #[.bool s2, .slice A2 n2 c2, .bool t2, .slice B2 m2 d2] 37))
      have T2 := Lib.hid (T2.out.alloc (.cells #[.bool s2, .slice A2 n2 c2, .bool t2, .slice B2 m2 d2] 37))
      have S3 := Lib.hid (S3.out.alloc (.cells #[.bool s2, .slice A2 n2 c2, .bool t2, .slice B2 m2 d2] 37))
      have T3 := Lib.hid (T3.out.alloc (.cells #[.bool s2, .slice A2 n2 c2, .bool t2, .slice B2 m2 d2] 37))
      have TB := Lib.hid (tab_on TB.out ((Below.refl _ _).alloc (Nat.le_refl _) (.cells #[.bool s2, .slice A2 n2 c2, .bool t2, .slice B2 m2 d2] 37)))
      have BW := Lib.hid (BW.out.alloc BW.out.size (.cells #[.bool s2, .slice A2 n2 c2, .bool t2, .slice B2 m2 d2] 37))
      have X1 := Lib.hid (X1.out.alloc (.cells #[.bool s2, .slice A2 n2 c2, .bool t2, .slice B2 m2 d2] 37))
      have X2 := Lib.hid (Bk.new 37 (w.alloc (.cells #[.bool s1, .slice A1 n1 c1, .bool t1, .slice B1 m1 d1] 37)) #[.bool s2, .slice A2 n2 c2, .bool t2, .slice B2 m2 d2])
      rw [alloc_sz] at X2
      have S1 := Lib.hid (S1.out.alloc (.cells #[.bool s3, .slice A3 n3 c3, .bool t3, .slice B3 m3 d3] 37))
      have T1 := Lib.hid (T1.out.alloc (.cells #[.bool s3, .slice A3 n3 c3, .bool t3, .slice B3 m3 d3] 37))
      have S2 := Lib.hid (S2.out.alloc (.cells #[.bool s3, .slice A3 n3 c3, .bool t3, .slice B3 m3 d3] 37))
      have T2 := Lib.hid (T2.out.alloc (.cells #[.bool s3, .slice A3 n3 c3, .bool t3, .slice B3 m3 d3] 37))
      have S3 := Lib.hid (S3.out.alloc (.cells #[.bool s3, .slice A3 n3 c3, .bool t3, .slice B3 m3 d3] 37))
      have T3 := Lib.hid (T3.out.alloc (.cells #[.bool s3, .slice A3 n3 c3, .bool t3, .slice B3 m3 d3] 37))
      have TB := Lib.hid (tab_on TB.out ((Below.refl _ _).alloc (Nat.le_refl _) (.cells #[.bool s3, .slice A3 n3 c3, .bool t3, .slice B3 m3 d3] 37)))
      have BW := Lib.hid (BW.out.alloc BW.out.size (.cells #[.bool s3, .slice A3 n3 c3, .bool t3, .slice B3 m3 d3] 37))
      have X1 := Lib.hid (X1.out.alloc (.cells #[.bool s3, .slice A3 n3 c3, .bool t3, .slice B3 m3 d3] 37))
      have X2 := Lib.hid (X2.out.alloc (.cells #[.bool s3, .slice A3 n3 c3, .bool t3, .slice B3 m3 d3] 37))
      have X3 := Lib.hid (Bk.new 37 ((w.alloc (.cells #[.bool s1, .slice A1 n1 c1, .bool t1, .slice B1 m1 d1] 37)).alloc (.cells #[.bool s2, .slice A2 n2 c2, .bool t2, .slice B2 m2 d2] 37)) #[.bool s3, .slice A3 n3 c3, .bool t3, .slice B3 m3 d3])
      rw [alloc_sz, alloc_sz] at X3
      generalize (((w.alloc (.cells #[.bool s1, .slice A1 n1 c1, .bool t1, .slice B1 m1 d1] 37)).alloc (.cells #[.bool s2, .slice A2 n2 c2, .bool t2, .slice B2 m2 d2] 37)).alloc (.cells #[.bool s3, .slice A3 n3 c3, .bool t3, .slice B3 m3 d3] 37)) = W0 at *
      have e0 : W0.cell? ⟨w.heap.size, 0, none⟩ = some (.bool s1) := X1.out.c 0 rfl
      have e1 : W0.cell? ⟨w.heap.size, 1, none⟩ = some (.slice A1 n1 c1) := X1.out.c 1 rfl
      have e2 : W0.cell? ⟨w.heap.size, 2, none⟩ = some (.bool t1) := X1.out.c 2 rfl
      have e3 : W0.cell? ⟨w.heap.size, 3, none⟩ = some (.slice B1 m1 d1) := X1.out.c 3 rfl
      have e4 : W0.cell? ⟨w.heap.size + 1, 0, none⟩ = some (.bool s2) := X2.out.c 0 rfl
      have e5 : W0.cell? ⟨w.heap.size + 1, 1, none⟩ = some (.slice A2 n2 c2) := X2.out.c 1 rfl
      have e6 : W0.cell? ⟨w.heap.size + 1, 2, none⟩ = some (.bool t2) := X2.out.c 2 rfl
      have e7 : W0.cell? ⟨w.heap.size + 1, 3, none⟩ = some (.slice B2 m2 d2) := X2.out.c 3 rfl
      have e8 : W0.cell? ⟨w.heap.size + 1 + 1, 0, none⟩ = some (.bool s3) := X3.out.c 0 rfl
      have e9 : W0.cell? ⟨w.heap.size + 1 + 1, 1, none⟩ = some (.slice A3 n3 c3) := X3.out.c 1 rfl
      have e10 : W0.cell? ⟨w.heap.size + 1 + 1, 2, none⟩ = some (.bool t3) := X3.out.c 2 rfl
      have e11 : W0.cell? ⟨w.heap.size + 1 + 1, 3, none⟩ = some (.slice B3 m3 d3) := X3.out.c 3 rfl
      go_wp2_with fail
      clear e0 e1 e2 e3 e4 e5 e6 e7 e8 e9 e10 e11
      have ln1 := X1.out.lt
      have ln2 := X2.out.lt
      have ln3 := X3.out.lt
      have S1 := Lib.hid (S1.out.alloc (.cells #[.bool s1, .slice A1 n1 c1, .bool t1, .slice B1 m1 d1, .bool s2, .slice A2 n2 c2, .bool t2, .slice B2 m2 d2, .bool s3, .slice A3 n3 c3, .bool t3, .slice B3 m3 d3] 37))
      have T1 := Lib.hid (T1.out.alloc (.cells #[.bool s1, .slice A1 n1 c1, .bool t1, .slice B1 m1 d1, .bool s2, .slice A2 n2 c2, .bool t2, .slice B2 m2 d2, .bool s3, .slice A3 n3 c3, .bool t3, .slice B3 m3 d3] 37))
      have S2 := Lib.hid (S2.out.alloc (.cells #[.bool s1, .slice A1 n1 c1, .bool t1, .slice B1 m1 d1, .bool s2, .slice A2 n2 c2, .bool t2, .slice B2 m2 d2, .bool s3, .slice A3 n3 c3, .bool t3, .slice B3 m3 d3] 37))
      have T2 := Lib.hid (T2.out.alloc (.cells #[.bool s1, .slice A1 n1 c1, .bool t1, .slice B1 m1 d1, .bool s2, .slice A2 n2 c2, .bool t2, .slice B2 m2 d2, .bool s3, .slice A3 n3 c3, .bool t3, .slice B3 m3 d3] 37))
      have S3 := Lib.hid (S3.out.alloc (.cells #[.bool s1, .slice A1 n1 c1, .bool t1, .slice B1 m1 d1, .bool s2, .slice A2 n2 c2, .bool t2, .slice B2 m2 d2, .bool s3, .slice A3 n3 c3, .bool t3, .slice B3 m3 d3] 37))
      have T3 := Lib.hid (T3.out.alloc (.cells #[.bool s1, .slice A1 n1 c1, .bool t1, .slice B1 m1 d1, .bool s2, .slice A2 n2 c2, .bool t2, .slice B2 m2 d2, .bool s3, .slice A3 n3 c3, .bool t3, .slice B3 m3 d3] 37))
      have TB := Lib.hid (tab_on TB.out ((Below.refl _ _).alloc (Nat.le_refl _) (.cells #[.bool s1, .slice A1 n1 c1, .bool t1, .slice B1 m1 d1, .bool s2, .slice A2 n2 c2, .bool t2, .slice B2 m2 d2, .bool s3, .slice A3 n3 c3, .bool t3, .slice B3 m3 d3] 37)))
      have BW := Lib.hid (BW.out.alloc BW.out.size (.cells #[.bool s1, .slice A1 n1 c1, .bool t1, .slice B1 m1 d1, .bool s2, .slice A2 n2 c2, .bool t2, .slice B2 m2 d2, .bool s3, .slice A3 n3 c3, .bool t3, .slice B3 m3 d3] 37))
      have X1 := Lib.hid (X1.out.alloc (.cells #[.bool s1, .slice A1 n1 c1, .bool t1, .slice B1 m1 d1, .bool s2, .slice A2 n2 c2, .bool t2, .slice B2 m2 d2, .bool s3, .slice A3 n3 c3, .bool t3, .slice B3 m3 d3] 37))
      have X2 := Lib.hid (X2.out.alloc (.cells #[.bool s1, .slice A1 n1 c1, .bool t1, .slice B1 m1 d1, .bool s2, .slice A2 n2 c2, .bool t2, .slice B2 m2 d2, .bool s3, .slice A3 n3 c3, .bool t3, .slice B3 m3 d3] 37))
      have X3 := Lib.hid (X3.out.alloc (.cells #[.bool s1, .slice A1 n1 c1, .bool t1, .slice B1 m1 d1, .bool s2, .slice A2 n2 c2, .bool t2, .slice B2 m2 d2, .bool s3, .slice A3 n3 c3, .bool t3, .slice B3 m3 d3] 37))
      have XL := Lib.hid (Bk.new 37 W0 #[.bool s1, .slice A1 n1 c1, .bool t1, .slice B1 m1 d1, .bool s2, .slice A2 n2 c2, .bool t2, .slice B2 m2 d2, .bool s3, .slice A3 n3 c3, .bool t3, .slice B3 m3 d3])
      generalize (W0.alloc (.cells #[.bool s1, .slice A1 n1 c1, .bool t1, .slice B1 m1 d1, .bool s2, .slice A2 n2 c2, .bool t2, .slice B2 m2 d2, .bool s3, .slice A3 n3 c3, .bool t3, .slice B3 m3 d3] 37)) = WL at *
      have e0 : WL.cell? ⟨w.heap.size, 0, none⟩ = some (.bool s1) := X1.out.c 0 rfl
      have e1 : WL.cell? ⟨w.heap.size, 1, none⟩ = some (.slice A1 n1 c1) := X1.out.c 1 rfl
      have e2 : WL.cell? ⟨w.heap.size, 2, none⟩ = some (.bool t1) := X1.out.c 2 rfl
      have e3 : WL.cell? ⟨w.heap.size, 3, none⟩ = some (.slice B1 m1 d1) := X1.out.c 3 rfl
      have e4 : WL.cell? ⟨w.heap.size + 1, 0, none⟩ = some (.bool s2) := X2.out.c 0 rfl
      have e5 : WL.cell? ⟨w.heap.size + 1, 1, none⟩ = some (.slice A2 n2 c2) := X2.out.c 1 rfl
      have e6 : WL.cell? ⟨w.heap.size + 1, 2, none⟩ = some (.bool t2) := X2.out.c 2 rfl
      have e7 : WL.cell? ⟨w.heap.size + 1, 3, none⟩ = some (.slice B2 m2 d2) := X2.out.c 3 rfl
      have e8 : WL.cell? ⟨w.heap.size + 1 + 1, 0, none⟩ = some (.bool s3) := X3.out.c 0 rfl
      have e9 : WL.cell? ⟨w.heap.size + 1 + 1, 1, none⟩ = some (.slice A3 n3 c3) := X3.out.c 1 rfl
      have e10 : WL.cell? ⟨w.heap.size + 1 + 1, 2, none⟩ = some (.bool t3) := X3.out.c 2 rfl
      have e11 : WL.cell? ⟨w.heap.size + 1 + 1, 3, none⟩ = some (.slice B3 m3 d3) := X3.out.c 3 rfl
      ((with_reducible refine (light3_any W0.heap.size s1 t1 A1 B1 n1 c1 m1 d1 s2 t2 A2 B2 n2 c2 m2 d2 s3 t3 A3 B3 n3 c3 m3 d3 _ XL.out).mono ?_); rintro e w1 ⟨rfl, hb⟩)
      rw [HL.out]
      clear e0 e1 e2 e3 e4 e5 e6 e7 e8 e9 e10 e11
      have S1 := Lib.hid (S1.out.below hb)
      have T1 := Lib.hid (T1.out.below hb)
      have S2 := Lib.hid (S2.out.below hb)
      have T2 := Lib.hid (T2.out.below hb)
      have S3 := Lib.hid (S3.out.below hb)
      have T3 := Lib.hid (T3.out.below hb)
      have TB := Lib.hid (tab_on TB.out hb)
      have BW := Lib.hid (below_on BW.out hb)
      have X1 := Lib.hid (X1.out.below hb)
      have X2 := Lib.hid (X2.out.below hb)
      have X3 := Lib.hid (X3.out.below hb)
      have XL := Lib.hid (XL.out.below hb)
      clear hb
      clear XL
      have e0 : w1.cell? ⟨w.heap.size, 0, none⟩ = some (.bool s1) := X1.out.c 0 rfl
      have e1 : w1.cell? ⟨w.heap.size, 1, none⟩ = some (.slice A1 n1 c1) := X1.out.c 1 rfl
      have e2 : w1.cell? ⟨w.heap.size, 2, none⟩ = some (.bool t1) := X1.out.c 2 rfl
      have e3 : w1.cell? ⟨w.heap.size, 3, none⟩ = some (.slice B1 m1 d1) := X1.out.c 3 rfl
      have e4 : w1.cell? ⟨w.heap.size + 1, 0, none⟩ = some (.bool s2) := X2.out.c 0 rfl
      have e5 : w1.cell? ⟨w.heap.size + 1, 1, none⟩ = some (.slice A2 n2 c2) := X2.out.c 1 rfl
      have e6 : w1.cell? ⟨w.heap.size + 1, 2, none⟩ = some (.bool t2) := X2.out.c 2 rfl
      have e7 : w1.cell? ⟨w.heap.size + 1, 3, none⟩ = some (.slice B2 m2 d2) := X2.out.c 3 rfl
      have e8 : w1.cell? ⟨w.heap.size + 1 + 1, 0, none⟩ = some (.bool s3) := X3.out.c 0 rfl
      have e9 : w1.cell? ⟨w.heap.size + 1 + 1, 1, none⟩ = some (.slice A3 n3 c3) := X3.out.c 1 rfl
      have e10 : w1.cell? ⟨w.heap.size + 1 + 1, 2, none⟩ = some (.bool t3) := X3.out.c 2 rfl
      have e11 : w1.cell? ⟨w.heap.size + 1 + 1, 3, none⟩ = some (.slice B3 m3 d3) := X3.out.c 3 rfl
      go_wp2_with fail
      ((with_reducible refine (rvalid_any s1 t1 A1 B1 n1 c1 m1 d1 x1 y1 _ S1.out T1.out).mono ?_); rintro e v1 ⟨rfl, hb⟩)
      rw [HV1.out]
      clear e0 e1 e2 e3 e4 e5 e6 e7 e8 e9 e10 e11
      have S1 := Lib.hid (S1.out.below hb)
      have T1 := Lib.hid (T1.out.below hb)
      have S2 := Lib.hid (S2.out.below hb)
      have T2 := Lib.hid (T2.out.below hb)
      have S3 := Lib.hid (S3.out.below hb)
      have T3 := Lib.hid (T3.out.below hb)
      have TB := Lib.hid (tab_on TB.out hb)
      have BW := Lib.hid (below_on BW.out hb)
      have X1 := Lib.hid (X1.out.below hb)
      have X2 := Lib.hid (X2.out.below hb)
      have X3 := Lib.hid (X3.out.below hb)
      clear hb
      have e0 : v1.cell? ⟨w.heap.size, 0, none⟩ = some (.bool s1) := X1.out.c 0 rfl
      have e1 : v1.cell? ⟨w.heap.size, 1, none⟩ = some (.slice A1 n1 c1) := X1.out.c 1 rfl
      have e2 : v1.cell? ⟨w.heap.size, 2, none⟩ = some (.bool t1) := X1.out.c 2 rfl
      have e3 : v1.cell? ⟨w.heap.size, 3, none⟩ = some (.slice B1 m1 d1) := X1.out.c 3 rfl
      have e4 : v1.cell? ⟨w.heap.size + 1, 0, none⟩ = some (.bool s2) := X2.out.c 0 rfl
      have e5 : v1.cell? ⟨w.heap.size + 1, 1, none⟩ = some (.slice A2 n2 c2) := X2.out.c 1 rfl
      have e6 : v1.cell? ⟨w.heap.size + 1, 2, none⟩ = some (.bool t2) := X2.out.c 2 rfl
      have e7 : v1.cell? ⟨w.heap.size + 1, 3, none⟩ = some (.slice B2 m2 d2) := X2.out.c 3 rfl
      have e8 : v1.cell? ⟨w.heap.size + 1 + 1, 0, none⟩ = some (.bool s3) := X3.out.c 0 rfl
      have e9 : v1.cell? ⟨w.heap.size + 1 + 1, 1, none⟩ = some (.slice A3 n3 c3) := X3.out.c 1 rfl
      have e10 : v1.cell? ⟨w.heap.size + 1 + 1, 2, none⟩ = some (.bool t3) := X3.out.c 2 rfl
      have e11 : v1.cell? ⟨w.heap.size + 1 + 1, 3, none⟩ = some (.slice B3 m3 d3) := X3.out.c 3 rfl
      go_wp2_with fail
      ((with_reducible refine (awake3_any _ TB.out).mono ?_); rintro e w9 ⟨rfl, hb⟩)
      clear e0 e1 e2 e3 e4 e5 e6 e7 e8 e9 e10 e11
      have S1 := Lib.hid (S1.out.below hb)
      have T1 := Lib.hid (T1.out.below hb)
      have S2 := Lib.hid (S2.out.below hb)
      have T2 := Lib.hid (T2.out.below hb)
      have S3 := Lib.hid (S3.out.below hb)
      have T3 := Lib.hid (T3.out.below hb)
      have TB := Lib.hid (tab_on TB.out hb)
      have BW := Lib.hid (below_on BW.out hb)
      have X1 := Lib.hid (X1.out.below hb)
      have X2 := Lib.hid (X2.out.below hb)
      have X3 := Lib.hid (X3.out.below hb)
      clear hb
      go_wp2_with fail
      go_ret
      exact ⟨rfl, BW.out⟩
  · have HL := Lib.hid hl
    clear hl
    have BW := Lib.hid (Below.refl w.heap.size w)
    go_enter Tryd.func8, Tryd.ntmps8
    go_upto_region 1 with fail
    have S1 := Lib.hid (S1.out.alloc (.cells #[.bool s1, .slice A1 n1 c1, .bool t1, .slice B1 m1 d1] 37))
    have T1 := Lib.hid (T1.out.alloc (.cells #[.bool s1, .slice A1 n1 c1, .bool t1, .slice B1 m1 d1] 37))
    have S2 := Lib.hid (S2.out.alloc (.cells #[.bool s1, .slice A1 n1 c1, .bool t1, .slice B1 m1 d1] 37))
    have T2 := Lib.hid (T2.out.alloc (.cells #[.bool s1, .slice A1 n1 c1, .bool t1, .slice B1 m1 d1] 37))
    have S3 := Lib.hid (S3.out.alloc (.cells #[.bool s1, .slice A1 n1 c1, .bool t1, .slice B1 m1 d1] 37))
    have T3 := Lib.hid (T3.out.alloc (.cells #[.bool s1, .slice A1 n1 c1, .bool t1, .slice B1 m1 d1] 37))
    have TB := Lib.hid (tab_on TB.out ((Below.refl _ _).alloc (Nat.le_refl _) (.cells #[.bool s1, .slice A1 n1 c1, .bool t1, .slice B1 m1 d1] 37)))
    have BW := Lib.hid (BW.out.alloc BW.out.size (.cells #[.bool s1, .slice A1 n1 c1, .bool t1, .slice B1 m1 d1] 37))
    have X1 := Lib.hid (Bk.new 37 w #[.bool s1, .slice A1 n1 c1, .bool t1, .slice B1 m1 d1])
    have S1 := Lib.hid (S1.out.alloc (.cells #[.bool s2, .slice A2 n2 c2, .bool t2, .slice B2 m2 d2] 37))
    have T1 := Lib.hid (T1.out.alloc (.cells #[.bool s2, .slice A2 n2 c2, .bool t2, .slice B2 m2 d2] 37))
    have S2 := Lib.hid (S2.out.alloc (.cells #[.bool s2, .slice A2 n2 c2, .bool t2, .slice B2 m2 d2] 37))
    have T2 := Lib.hid (T2.out.alloc (.cells #[.bool s2, .slice A2 n2 c2, .bool t2, .slice B2 m2 d2] 37))
    have S3 := Lib.hid (S3.out.alloc (.cells #[.bool s2, .slice A2 n2 c2, .bool t2, .slice B2 m2 d2] 37))
    have T3 := Lib.hid (T3.out.alloc (.cells #[.bool s2, .slice A2 n2 c2, .bool t2, .slice B2 m2 d2] 37))
    have TB := Lib.hid (tab_on TB.out ((Below.refl _ _).alloc (Nat.le_refl _) (.cells #[.bool s2, .slice A2 n2 c2, .bool t2, .slice B2 m2 d2] 37)))
    have BW := Lib.hid (BW.out.alloc BW.out.size (.cells #[.bool s2, .slice A2 n2 c2, .bool t2, .slice B2 m2 d2] 37))
    have X1 := Lib.hid (X1.out.alloc (.cells #[.bool s2, .slice A2 n2 c2, .bool t2, .slice B2 m2 d2] 37))
    have X2 := Lib.hid (Bk.new 37 (w.alloc (.cells #[.bool s1, .slice A1 n1 c1, .bool t1, .slice B1 m1 d1] 37)) #[.bool s2, .slice A2 n2 c2, .bool t2, .slice B2 m2 d2])
    rw [alloc_sz] at X2
    have S1 := Lib.hid (S1.out.alloc (.cells #[.bool s3, .slice A3 n3 c3, .bool t3, .slice B3 m3 d3] 37))
    have T1 := Lib.hid (T1.out.alloc (.cells #[.bool s3, .slice A3 n3 c3, .bool t3, .slice B3 m3 d3] 37))
    have S2 := Lib.hid (S2.out.alloc (.cells #[.bool s3, .slice A3 n3 c3, .bool t3, .slice B3 m3 d3] 37))
    have T2 := Lib.hid (T2.out.alloc (.cells #[.bool s3, .slice A3 n3 c3, .bool t3, .slice B3 m3 d3] 37))
    have S3 := Lib.hid (S3.out.alloc (.cells #[.bool s3, .slice A3 n3 c3, .bool t3, .slice B3 m3 d3] 37))
    have T3 := Lib.hid (T3.out.alloc (.cells #[.bool s3, .slice A3 n3 c3, .bool t3, .slice B3 m3 d3] 37))
    have TB := Lib.hid (tab_on TB.out ((Below.refl _ _).alloc (Nat.le_refl _) (.cells #[.bool s3, .slice A3 n3 c3, .bool t3, .slice B3 m3 d3] 37)))
    have BW := Lib.hid (BW.out.alloc BW.out.size (.cells #[.bool s3, .slice A3 n3 c3, .bool t3, .slice B3 m3 d3] 37))
    have X1 := Lib.hid (X1.out.alloc (.cells #[.bool s3, .slice A3 n3 c3, .bool t3, .slice B3 m3 d3] 37))
    have X2 := Lib.hid (X2.out.alloc (.cells #[.bool s3, .slice A3 n3 c3, .bool t3, .slice B3 m3 d3] 37))
    have X3 := Lib.hid (Bk.new 37 ((w.alloc (.cells #[.bool s1, .slice A1 n1 c1, .bool t1, .slice B1 m1 d1] 37)).alloc (.cells #[.bool s2, .slice A2 n2 c2, .bool t2, .slice B2 m2 d2] 37)) #[.bool s3, .slice A3 n3 c3, .bool t3, .slice B3 m3 d3])
    rw [alloc_sz, alloc_sz] at X3
    generalize (((w.alloc (.cells #[.bool s1, .slice A1 n1 c1, .bool t1, .slice B1 m1 d1] 37)).alloc (.cells #[.bool s2, .slice A2 n2 c2, .bool t2, .slice B2 m2 d2] 37)).alloc (.cells #[.bool s3, .slice A3 n3 c3, .bool t3, .slice B3 m3 d3] 37)) = W0 at *
    have e0 : W0.cell? ⟨w.heap.size, 0, none⟩ = some (.bool s1) := X1.out.c 0 rfl
    have e1 : W0.cell? ⟨w.heap.size, 1, none⟩ = some (.slice A1 n1 c1) := X1.out.c 1 rfl
    have e2 : W0.cell? ⟨w.heap.size, 2, none⟩ = some (.bool t1) := X1.out.c 2 rfl
    have e3 : W0.cell? ⟨w.heap.size, 3, none⟩ = some (.slice B1 m1 d1) := X1.out.c 3 rfl
    have e4 : W0.cell? ⟨w.heap.size + 1, 0, none⟩ = some (.bool s2) := X2.out.c 0 rfl
    have e5 : W0.cell? ⟨w.heap.size + 1, 1, none⟩ = some (.slice A2 n2 c2) := X2.out.c 1 rfl
    have e6 : W0.cell? ⟨w.heap.size + 1, 2, none⟩ = some (.bool t2) := X2.out.c 2 rfl
    have e7 : W0.cell? ⟨w.heap.size + 1, 3, none⟩ = some (.slice B2 m2 d2) := X2.out.c 3 rfl
    have e8 : W0.cell? ⟨w.heap.size + 1 + 1, 0, none⟩ = some (.bool s3) := X3.out.c 0 rfl
    have e9 : W0.cell? ⟨w.heap.size + 1 + 1, 1, none⟩ = some (.slice A3 n3 c3) := X3.out.c 1 rfl
    have e10 : W0.cell? ⟨w.heap.size + 1 + 1, 2, none⟩ = some (.bool t3) := X3.out.c 2 rfl
    have e11 : W0.cell? ⟨w.heap.size + 1 + 1, 3, none⟩ = some (.slice B3 m3 d3) := X3.out.c 3 rfl
    go_wp2_with fail
    clear e0 e1 e2 e3 e4 e5 e6 e7 e8 e9 e10 e11
    have ln1 := X1.out.lt
    have ln2 := X2.out.lt
    have ln3 := X3.out.lt
    have S1 := Lib.hid (S1.out.alloc (.cells #[.bool s1, .slice A1 n1 c1, .bool t1, .slice B1 m1 d1, .bool s2, .slice A2 n2 c2, .bool t2, .slice B2 m2 d2, .bool s3, .slice A3 n3 c3, .bool t3, .slice B3 m3 d3] 37))
    have T1 := Lib.hid (T1.out.alloc (.cells #[.bool s1, .slice A1 n1 c1, .bool t1, .slice B1 m1 d1, .bool s2, .slice A2 n2 c2, .bool t2, .slice B2 m2 d2, .bool s3, .slice A3 n3 c3, .bool t3, .slice B3 m3 d3] 37))
    have S2 := Lib.hid (S2.out.alloc (.cells #[.bool s1, .slice A1 n1 c1, .bool t1, .slice B1 m1 d1, .bool s2, .slice A2 n2 c2, .bool t2, .slice B2 m2 d2, .bool s3, .slice A3 n3 c3, .bool t3, .slice B3 m3 d3] 37))
    have T2 := Lib.hid (T2.out.alloc (.cells #[.bool s1, .slice A1 n1 c1, .bool t1, .slice B1 m1 d1, .bool s2, .slice A2 n2 c2, .bool t2, .slice B2 m2 d2, .bool s3, .slice A3 n3 c3, .bool t3, .slice B3 m3 d3] 37))
    have S3 := Lib.hid (S3.out.alloc (.cells #[.bool s1, .slice A1 n1 c1, .bool t1, .slice B1 m1 d1, .bool s2, .slice A2 n2 c2, .bool t2, .slice B2 m2 d2, .bool s3, .slice A3 n3 c3, .bool t3, .slice B3 m3 d3] 37))
    have T3 := Lib.hid (T3.out.alloc (.cells #[.bool s1, .slice A1 n1 c1, .bool t1, .slice B1 m1 d1, .bool s2, .slice A2 n2 c2, .bool t2, .slice B2 m2 d2, .bool s3, .slice A3 n3 c3, .bool t3, .slice B3 m3 d3] 37))
    have TB := Lib.hid (tab_on TB.out ((Below.refl _ _).alloc (Nat.le_refl _) (.cells #[.bool s1, .slice A1 n1 c1, .bool t1, .slice B1 m1 d1, .bool s2, .slice A2 n2 c2, .bool t2, .slice B2 m2 d2, .bool s3, .slice A3 n3 c3, .bool t3, .slice B3 m3 d3] 37)))
    have BW := Lib.hid (BW.out.alloc BW.out.size (.cells #[.bool s1, .slice A1 n1 c1, .bool t1, .slice B1 m1 d1, .bool s2, .slice A2 n2 c2, .bool t2, .slice B2 m2 d2, .bool s3, .slice A3 n3 c3, .bool t3, .slice B3 m3 d3] 37))
    have X1 := Lib.hid (X1.out.alloc (.cells #[.bool s1, .slice A1 n1 c1, .bool t1, .slice B1 m1 d1, .bool s2, .slice A2 n2 c2, .bool t2, .slice B2 m2 d2, .bool s3, .slice A3 n3 c3, .bool t3, .slice B3 m3 d3] 37))
    have X2 := Lib.hid (X2.out.alloc (.cells #[.bool s1, .slice A1 n1 c1, .bool t1, .slice B1 m1 d1, .bool s2, .slice A2 n2 c2, .bool t2, .slice B2 m2 d2, .bool s3, .slice A3 n3 c3, .bool t3, .slice B3 m3 d3] 37))
    have X3 := Lib.hid (X3.out.alloc (.cells #[.bool s1, .slice A1 n1 c1, .bool t1, .slice B1 m1 d1, .bool s2, .slice A2 n2 c2, .bool t2, .slice B2 m2 d2, .bool s3, .slice A3 n3 c3, .bool t3, .slice B3 m3 d3] 37))
    have XL := Lib.hid (Bk.new 37 W0 #[.bool s1, .slice A1 n1 c1, .bool t1, .slice B1 m1 d1, .bool s2, .slice A2 n2 c2, .bool t2, .slice B2 m2 d2, .bool s3, .slice A3 n3 c3, .bool t3, .slice B3 m3 d3])
    generalize (W0.alloc (.cells #[.bool s1, .slice A1 n1 c1, .bool t1, .slice B1 m1 d1, .bool s2, .slice A2 n2 c2, .bool t2, .slice B2 m2 d2, .bool s3, .slice A3 n3 c3, .bool t3, .slice B3 m3 d3] 37)) = WL at *
    have e0 : WL.cell? ⟨w.heap.size, 0, none⟩ = some (.bool s1) := X1.out.c 0 rfl
    have e1 : WL.cell? ⟨w.heap.size, 1, none⟩ = some (.slice A1 n1 c1) := X1.out.c 1 rfl
    have e2 : WL.cell? ⟨w.heap.size, 2, none⟩ = some (.bool t1) := X1.out.c 2 rfl
    have e3 : WL.cell? ⟨w.heap.size, 3, none⟩ = some (.slice B1 m1 d1) := X1.out.c 3 rfl
    have e4 : WL.cell? ⟨w.heap.size + 1, 0, none⟩ = some (.bool s2) := X2.out.c 0 rfl
    have e5 : WL.cell? ⟨w.heap.size + 1, 1, none⟩ = some (.slice A2 n2 c2) := X2.out.c 1 rfl
    have e6 : WL.cell? ⟨w.heap.size + 1, 2, none⟩ = some (.bool t2) := X2.out.c 2 rfl
    have e7 : WL.cell? ⟨w.heap.size + 1, 3, none⟩ = some (.slice B2 m2 d2) := X2.out.c 3 rfl
    have e8 : WL.cell? ⟨w.heap.size + 1 + 1, 0, none⟩ = some (.bool s3) := X3.out.c 0 rfl
    have e9 : WL.cell? ⟨w.heap.size + 1 + 1, 1, none⟩ = some (.slice A3 n3 c3) := X3.out.c 1 rfl
    have e10 : WL.cell? ⟨w.heap.size + 1 + 1, 2, none⟩ = some (.bool t3) := X3.out.c 2 rfl
    have e11 : WL.cell? ⟨w.heap.size + 1 + 1, 3, none⟩ = some (.slice B3 m3 d3) := X3.out.c 3 rfl
    ((with_reducible refine (light3_any W0.heap.size s1 t1 A1 B1 n1 c1 m1 d1 s2 t2 A2 B2 n2 c2 m2 d2 s3 t3 A3 B3 n3 c3 m3 d3 _ XL.out).mono ?_); rintro e w1 ⟨rfl, hb⟩)
    rw [HL.out]
    clear e0 e1 e2 e3 e4 e5 e6 e7 e8 e9 e10 e11
    have S1 := Lib.hid (S1.out.below hb)
    have T1 := Lib.hid (T1.out.below hb)
    have S2 := Lib.hid (S2.out.below hb)
    have T2 := Lib.hid (T2.out.below hb)
    have S3 := Lib.hid (S3.out.below hb)
    have T3 := Lib.hid (T3.out.below hb)
    have TB := Lib.hid (tab_on TB.out hb)
    have BW := Lib.hid (below_on BW.out hb)
    have X1 := Lib.hid (X1.out.below hb)
    have X2 := Lib.hid (X2.out.below hb)
    have X3 := Lib.hid (X3.out.below hb)
    have XL := Lib.hid (XL.out.below hb)
    clear hb
    clear XL
    have e0 : w1.cell? ⟨w.heap.size, 0, none⟩ = some (.bool s1) := X1.out.c 0 rfl
    have e1 : w1.cell? ⟨w.heap.size, 1, none⟩ = some (.slice A1 n1 c1) := X1.out.c 1 rfl
    have e2 : w1.cell? ⟨w.heap.size, 2, none⟩ = some (.bool t1) := X1.out.c 2 rfl
    have e3 : w1.cell? ⟨w.heap.size, 3, none⟩ = some (.slice B1 m1 d1) := X1.out.c 3 rfl
    have e4 : w1.cell? ⟨w.heap.size + 1, 0, none⟩ = some (.bool s2) := X2.out.c 0 rfl
    have e5 : w1.cell? ⟨w.heap.size + 1, 1, none⟩ = some (.slice A2 n2 c2) := X2.out.c 1 rfl
    have e6 : w1.cell? ⟨w.heap.size + 1, 2, none⟩ = some (.bool t2) := X2.out.c 2 rfl
    have e7 : w1.cell? ⟨w.heap.size + 1, 3, none⟩ = some (.slice B2 m2 d2) := X2.out.c 3 rfl
    have e8 : w1.cell? ⟨w.heap.size + 1 + 1, 0, none⟩ = some (.bool s3) := X3.out.c 0 rfl
    have e9 : w1.cell? ⟨w.heap.size + 1 + 1, 1, none⟩ = some (.slice A3 n3 c3) := X3.out.c 1 rfl
    have e10 : w1.cell? ⟨w.heap.size + 1 + 1, 2, none⟩ = some (.bool t3) := X3.out.c 2 rfl
    have e11 : w1.cell? ⟨w.heap.size + 1 + 1, 3, none⟩ = some (.slice B3 m3 d3) := X3.out.c 3 rfl
    go_wp2_with fail
    ((with_reducible refine (awake3_any _ TB.out).mono ?_); rintro e w9 ⟨rfl, hb⟩)
    clear e0 e1 e2 e3 e4 e5 e6 e7 e8 e9 e10 e11
    have S1 := Lib.hid (S1.out.below hb)
    have T1 := Lib.hid (T1.out.below hb)
    have S2 := Lib.hid (S2.out.below hb)
    have T2 := Lib.hid (T2.out.below hb)
    have S3 := Lib.hid (S3.out.below hb)
    have T3 := Lib.hid (T3.out.below hb)
    have TB := Lib.hid (tab_on TB.out hb)
    have BW := Lib.hid (below_on BW.out hb)
    have X1 := Lib.hid (X1.out.below hb)
    have X2 := Lib.hid (X2.out.below hb)
    have X3 := Lib.hid (X3.out.below hb)
    clear hb
    go_wp2_with fail
    go_ret
    exact ⟨rfl, BW.out⟩

set_option maxRecDepth 100000 in
theorem contract (H : Type) (enc : TypeId × Value → H) (W : World) (base : Nat) (args : Array Value) (ds gs : List (DataW H)) (before : List MemPlace)
    (hval : ∀ (j : Nat) t v, Tryd.f8.params[j]? = some t → args[j]? = some v → Value.okWide Tryd.prog W .any base t v)
    (hW : DataW.Whole enc Tryd.prog Tryd.f8.params.toList Rows.ratOrdersSpec.vars false W args.toList ds gs before) (hL : laidMetH Tryd.prog Rows.ratOrdersRow.laid W) :
    Calls Tryd.prog 8 args W fun e W' => ∃ v, e = .returned v ∧ Rows.ratOrdersSpec.post enc Tryd.prog Tryd.f8 false true false false W args v W' := by
  have hW' := hW
  obtain ⟨p, q, hA0, hV, rfl, hfz, hnd⟩ := hW
  have hA : DataW.TrodAll enc Tryd.prog W 0 (fun _ => true) true Tryd.f8.params.toList args.toList ds p := hA0
  have hlt : ∀ x ∈ p, x.block < W.heap.size := fun x hx => hW'.lt x (by simp [hx])
  have hAll := hA
  rw [Tryd.params8] at hA hval
  obtain ⟨v0, vs0, d0, ds0, p0, q0, hargs, rfl, rfl, h0, r0⟩ := trodAll_cons hA
  obtain ⟨v1, vs1, d1, ds1, p1, q1, rfl, rfl, rfl, h1, r1⟩ := trodAll_cons r0
  obtain ⟨v2, vs2, d2, ds2, p2, q2, rfl, rfl, rfl, h2, r2⟩ := trodAll_cons r1
  obtain ⟨rfl, rfl, rfl⟩ := trodAll_nil r2
  obtain rfl : args = #[v0, v1, v2] := by cases args; simp_all
  obtain ⟨rfl, rfl⟩ := trodVars_none hV
  obtain ⟨s1, A1, n1, c1, x1, t1, B1, m1, d1', y1, rfl, g1, k1⟩ := open_rat (hval 0 37 v0 rfl rfl) h0
  obtain ⟨s2, A2, n2, c2, x2, t2, B2, m2, d2', y2, rfl, g2, k2⟩ := open_rat (hval 1 37 v1 rfl rfl) h1
  obtain ⟨s3, A3, n3, c3, x3, t3, B3, m3, d3', y3, rfl, g3, k3⟩ := open_rat (hval 2 37 v2 rfl rfl) h2
  refine (walk s1 t1 A1 B1 n1 c1 m1 d1' x1 y1 s2 t2 A2 B2 n2 c2 m2 d2' x2 y2 s3 t3 A3 B3 n3 c3 m3 d3' x3 y3 W g1 k1 g2 k2 g3 k3 (tab_of_laid hL)).mono fun e W' ⟨he, hg⟩ => ?_
  subst he
  refine ⟨_, rfl, _, _, _, [], _, [], hW', trodAll_mk1 (shut_bool Tryd.underlying4 _), trodAll_below hg (fun t ht => ?_) hAll hlt, rfl, hg.frame _, fun h => by cases h⟩
  rw [Tryd.params8] at ht
  simp only [List.mem_cons, List.not_mem_nil, or_false] at ht
  rcases ht with rfl | rfl | rfl
  · exact read_rat
  · exact read_rat
  · exact read_rat

set_option maxRecDepth 100000 in
theorem reads (os : Os) {H : Type} (enc : TypeId × Value → H) : ∃ places, DataW.whole enc Tryd.prog ((World.doorLaid Tryd.prog 24 os).forCall (fun _ _ => 0) ⟨#[], #[Value.agg #[.bool false, .slice none 0 0, .bool false, .slice none 0 0], Value.agg #[.bool false, .slice none 0 0, .bool false, .slice none 0 0], Value.agg #[.bool false, .slice none 0 0, .bool false, .slice none 0 0]], []⟩).memory Tryd.f8.params.toList Rows.ratOrdersSpec.vars false #[Value.agg #[.bool false, .slice none 0 0, .bool false, .slice none 0 0], Value.agg #[.bool false, .slice none 0 0, .bool false, .slice none 0 0], Value.agg #[.bool false, .slice none 0 0, .bool false, .slice none 0 0]].toList 8 = some ([.agg [.agg [.lit (.bool false), .nil], .agg [.lit (.bool false), .nil]], .agg [.agg [.lit (.bool false), .nil], .agg [.lit (.bool false), .nil]], .agg [.agg [.lit (.bool false), .nil], .agg [.lit (.bool false), .nil]]], [], places) :=
  ⟨[], by kernel_rfl⟩

set_option maxRecDepth 100000 in
theorem lifted (os : Os) (started : os.Started) (H : Type) (enc : TypeId × Value → H) (F : Stop.Interp) :
    ReturnsInHanded {} Tryd.checked os 8 .any ((OpenSpec.ofChange Rows.ratOrdersSpec).preRow enc Tryd.prog Tryd.f8 Rows.ratOrdersRow.domain false Rows.ratOrdersRow.laid) (((OpenSpec.ofChange Rows.ratOrdersSpec).at F).post enc Tryd.prog Tryd.f8 false true false false) := by
  obtain ⟨places, hx⟩ := reads os enc
  refine returnsInHanded_of_row (C := Tryd.checked) (s := OpenSpec.ofChange Rows.ratOrdersSpec) own started (by kernel_rfl) Tryd.func8
    (witness_row_at (enc := enc) (C := Tryd.checked) false (World.doorLaid Tryd.prog 24 os) #[Value.agg #[.bool false, .slice none 0 0, .bool false, .slice none 0 0], Value.agg #[.bool false, .slice none 0 0, .bool false, .slice none 0 0], Value.agg #[.bool false, .slice none 0 0, .bool false, .slice none 0 0]] rfl (by kernel_rfl) (by kernel_rfl) (by kernel_rfl)
      (OpenSpec.preRow_of_cond 8 hx (by kernel_rfl) (fun k hk => by cases hk) (by kernel_rfl) (laid_met os _))) ?_
  intro W base args ds gs before hval hW _ _ _ hL _ _
  exact contract H enc W base args ds gs before hval hW hL

theorem said : Rows.RatOrdersSaid :=
  OpenClaim.holds_of_cond 8 Tryd.f8 rfl rfl rfl rfl rfl rfl rfl ⟨rfl, rfl, rfl, rfl, rfl⟩ rfl rfl rfl rfl rfl (by kernel_rfl) Tryd.func8 (by kernel_rfl)
    (of_decide_eq_true (by kernel_rfl)) (by unfold Func.isWrapper; first | (rw [if_pos (by decide +kernel)]; kernel_rfl) | (rw [if_neg (by decide +kernel)]; exact ⟨rfl, rfl⟩))
    (fun os started H enc _ F => by rw [OpenClaim.pre_eq_preRow]; exact lifted os started H enc F)

theorem plain (f : FuncId) (fn : Func) (hf : Tryd.pinned.checked.prog.funcNamed "liquidcheck/liquidchecklaw03.RatOrders" = some f) (hfn : Tryd.pinned.checked.prog.funcs[f]? = some fn) :
    false = Tryd.pinned.checked.prog.looks [] ∧ ∀ (j : Nat) t, fn.params[j]? = some t → Tryd.pinned.checked.prog.wantsStandIn t = false := by
  obtain rfl : f = 8 := Option.some.inj ((show Tryd.prog.funcNamed "liquidcheck/liquidchecklaw03.RatOrders" = some 8 by kernel_rfl).symm.trans hf) |>.symm
  obtain rfl : fn = Tryd.f8 := (Option.some.inj (Tryd.func8.symm.trans hfn)).symm
  refine ⟨by kernel_rfl, fun j t ht => ?_⟩
  rw [Tryd.params8] at ht
  have hm := Array.mem_of_getElem? ht
  simp only [List.mem_toArray, List.mem_cons, List.not_mem_nil, or_false] at hm
  rcases hm with rfl | rfl | rfl
  · exact (show Tryd.prog.wantsStandIn 37 = false by kernel_rfl)
  · exact (show Tryd.prog.wantsStandIn 37 = false by kernel_rfl)
  · exact (show Tryd.prog.wantsStandIn 37 = false by kernel_rfl)

theorem card : Rows.RatOrdersCardSaid :=
  Claim7.holds_tied_plain_at .later [] _ _ _ _ said (fun _ h => by cases h) (by kernel_rfl) (fun _ h => by cases h) ratOrders_row_tie rfl ⟨rfl, rfl⟩ (by kernel_rfl) rfl plain (by kernel_rfl)
end Go.Proofs.YtamlkmmhbejgfaaDoor.ratOrders
