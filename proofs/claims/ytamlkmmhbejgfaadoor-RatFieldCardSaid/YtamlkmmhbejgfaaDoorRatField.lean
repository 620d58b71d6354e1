/-
  THE STATEMENT RatField IS PROVED: for every three fractions (the listed library tables holding what the program's text lays, tied by the card), the law returns true and its arguments read as before.
-/
import Derived.Test.YtamlkmmhbejgfaaDoorCards
import Derived.Test.YtamlkmmhbejgfaaDoorTie
import Derived.Test.YtamlkmmhbejgfaaDoorRatLaid
import Derived.Test.YtamlkmmhbejgfaaDoorRatN
import Derived.Test.YtamlkmmhbejgfaaDoorRatLaid
import Derived.Test.YtamlkmmhbejgfaaDoorRatFew
import Derived.Test.YtamlkmmhbejgfaaDoorRatMathF
namespace Go.Proofs.YtamlkmmhbejgfaaDoor.ratField
open Go.ChangeShapes Go.WideShapes Go.ChangeAt Go.RowKit
open Go.ChangeMaps (open_string shut_string)

theorem radd_some (p q p' q' : Int) (A1 B1 A2 B2 : Option Addr) (n1 c1 m1 d1 n2 c2 m2 d2 : Nat) (w : World) (ha : Sl w A1 n1 c1 (lOf p)) (hb : Sl w B1 m1 d1 (lOf q)) (hc : Sl w A2 n2 c2 (lOf p')) (hd : Sl w B2 m2 d2 (lOf q')) :
    Calls Tryd.prog 35 #[.agg #[.bool (nOf (p)), .slice A1 n1 c1, .bool (nOf (q)), .slice B1 m1 d1], .agg #[.bool (nOf (p')), .slice A2 n2 c2, .bool (nOf (q')), .slice B2 m2 d2]] w fun e w' => ∃ n d b, ∃ T k r U l s, e = .returned (.tuple #[.agg #[.bool (nOf (n)), .slice T k r, .bool (nOf (d)), .slice U l s], .bool (b)]) ∧ Sl w' T k r (lOf (n)) ∧ Sl w' U l s (lOf (d)) ∧ Below w.heap.size w w' :=
  (radd_any (nOf p) (nOf q) (nOf p') (nOf q') A1 B1 A2 B2 n1 c1 m1 d1 n2 c2 m2 d2 (lOf p) (lOf q) (lOf p') (lOf q') w ha hb hc hd).mono fun _ _ h => ⟨_, _, _, h⟩
theorem rsub_some (p q p' q' : Int) (A1 B1 A2 B2 : Option Addr) (n1 c1 m1 d1 n2 c2 m2 d2 : Nat) (w : World) (ha : Sl w A1 n1 c1 (lOf p)) (hb : Sl w B1 m1 d1 (lOf q)) (hc : Sl w A2 n2 c2 (lOf p')) (hd : Sl w B2 m2 d2 (lOf q')) :
    Calls Tryd.prog 36 #[.agg #[.bool (nOf (p)), .slice A1 n1 c1, .bool (nOf (q)), .slice B1 m1 d1], .agg #[.bool (nOf (p')), .slice A2 n2 c2, .bool (nOf (q')), .slice B2 m2 d2]] w fun e w' => ∃ n d b, ∃ T k r U l s, e = .returned (.tuple #[.agg #[.bool (nOf (n)), .slice T k r, .bool (nOf (d)), .slice U l s], .bool (b)]) ∧ Sl w' T k r (lOf (n)) ∧ Sl w' U l s (lOf (d)) ∧ Below w.heap.size w w' :=
  (rsub_any (nOf p) (nOf q) (nOf p') (nOf q') A1 B1 A2 B2 n1 c1 m1 d1 n2 c2 m2 d2 (lOf p) (lOf q) (lOf p') (lOf q') w ha hb hc hd).mono fun _ _ h => ⟨_, _, _, h⟩
theorem rmul_some (p q p' q' : Int) (A1 B1 A2 B2 : Option Addr) (n1 c1 m1 d1 n2 c2 m2 d2 : Nat) (w : World) (ha : Sl w A1 n1 c1 (lOf p)) (hb : Sl w B1 m1 d1 (lOf q)) (hc : Sl w A2 n2 c2 (lOf p')) (hd : Sl w B2 m2 d2 (lOf q')) :
    Calls Tryd.prog 31 #[.agg #[.bool (nOf (p)), .slice A1 n1 c1, .bool (nOf (q)), .slice B1 m1 d1], .agg #[.bool (nOf (p')), .slice A2 n2 c2, .bool (nOf (q')), .slice B2 m2 d2]] w fun e w' => ∃ n d b, ∃ T k r U l s, e = .returned (.tuple #[.agg #[.bool (nOf (n)), .slice T k r, .bool (nOf (d)), .slice U l s], .bool (b)]) ∧ Sl w' T k r (lOf (n)) ∧ Sl w' U l s (lOf (d)) ∧ Below w.heap.size w w' :=
  (rmul_any (nOf p) (nOf q) (nOf p') (nOf q') A1 B1 A2 B2 n1 c1 m1 d1 n2 c2 m2 d2 (lOf p) (lOf q) (lOf p') (lOf q') w ha hb hc hd).mono fun _ _ h => ⟨_, _, _, h⟩
theorem rdiv_some (p q p' q' : Int) (A1 B1 A2 B2 : Option Addr) (n1 c1 m1 d1 n2 c2 m2 d2 : Nat) (w : World) (ha : Sl w A1 n1 c1 (lOf p)) (hb : Sl w B1 m1 d1 (lOf q)) (hc : Sl w A2 n2 c2 (lOf p')) (hd : Sl w B2 m2 d2 (lOf q')) :
    Calls Tryd.prog 33 #[.agg #[.bool (nOf (p)), .slice A1 n1 c1, .bool (nOf (q)), .slice B1 m1 d1], .agg #[.bool (nOf (p')), .slice A2 n2 c2, .bool (nOf (q')), .slice B2 m2 d2]] w fun e w' => ∃ n d b, ∃ T k r U l s, e = .returned (.tuple #[.agg #[.bool (nOf (n)), .slice T k r, .bool (nOf (d)), .slice U l s], .bool (b)]) ∧ Sl w' T k r (lOf (n)) ∧ Sl w' U l s (lOf (d)) ∧ Below w.heap.size w w' :=
  (rdiv_any (nOf p) (nOf q) (nOf p') (nOf q') A1 B1 A2 B2 n1 c1 m1 d1 n2 c2 m2 d2 (lOf p) (lOf q) (lOf p') (lOf q') w ha hb hc hd).mono fun _ _ h => ⟨_, _, _, h⟩

set_option maxRecDepth 100000 in
set_option maxHeartbeats 16000000 in
theorem walk (s1 t1 : Bool) (A1 B1 : Option Addr) (n1 c1 m1 d1 : Nat) (x1 y1 : List Int) (s2 t2 : Bool) (A2 B2 : Option Addr) (n2 c2 m2 d2 : Nat) (x2 y2 : List Int) (s3 t3 : Bool) (A3 B3 : Option Addr) (n3 c3 m3 d3 : Nat) (x3 y3 : List Int) (w : World) (h1 : Sl w A1 n1 c1 x1) (k1 : Sl w B1 m1 d1 y1) (h2 : Sl w A2 n2 c2 x2) (k2 : Sl w B2 m2 d2 y2) (h3 : Sl w A3 n3 c3 x3) (k3 : Sl w B3 m3 d3 y3) (htab : Tab w) :
    Calls Tryd.prog 7 #[.agg #[.bool s1, .slice A1 n1 c1, .bool t1, .slice B1 m1 d1], .agg #[.bool s2, .slice A2 n2 c2, .bool t2, .slice B2 m2 d2], .agg #[.bool s3, .slice A3 n3 c3, .bool t3, .slice B3 m3 d3]] w fun e w' => e = .returned (.bool true) ∧ Below w.heap.size w w' := by
  have S1 := Lib.hid h1
  have T1 := Lib.hid k1
  have S2 := Lib.hid h2
  have T2 := Lib.hid k2
  have S3 := Lib.hid h3
  have T3 := Lib.hid k3
  have TB := Lib.hid htab
  have TB0 := Lib.hid htab
  clear h1 k1 h2 k2 h3 k3 htab
  rcases Bool.eq_false_or_eq_true (fewB n1 m1 && fewB n2 m2 && fewB n3 m3) with hl | hl
  · rcases Bool.eq_false_or_eq_true (validR s1 x1 t1 y1) with e1 | e1
    · rcases Bool.eq_false_or_eq_true (validR s2 x2 t2 y2) with e2 | e2
      · rcases Bool.eq_false_or_eq_true (validR s3 x3 t3 y3) with e3 | e3
        · have HL := Lib.hid hl
          obtain ⟨-, -, u1, u2, u3, u4⟩ := fr_valid e1
          have F1 := Lib.hid (fr_ok s1 x1 t1 y1)
          generalize hP : frN s1 x1 t1 y1 = p1 at *
          generalize hQ : frD s1 x1 t1 y1 = q1 at *
          clear hP hQ e1
          subst u1; subst u2; subst u3; subst u4
          obtain ⟨-, -, u1, u2, u3, u4⟩ := fr_valid e2
          have F2 := Lib.hid (fr_ok s2 x2 t2 y2)
          generalize hP : frN s2 x2 t2 y2 = p2 at *
          generalize hQ : frD s2 x2 t2 y2 = q2 at *
          clear hP hQ e2
          subst u1; subst u2; subst u3; subst u4
          obtain ⟨-, -, u1, u2, u3, u4⟩ := fr_valid e3
          have F3 := Lib.hid (fr_ok s3 x3 t3 y3)
          generalize hP : frN s3 x3 t3 y3 = p3 at *
          generalize hQ : frD s3 x3 t3 y3 = q3 at *
          clear hP hQ e3
          subst u1; subst u2; subst u3; subst u4
          clear hl
          have BW := Lib.hid (Below.refl w.heap.size w)
          go_enter Tryd.func7, Tryd.ntmps7
          go_upto_region 1 with fail
          have S1 := Lib.hid (S1.out.alloc (.cells #[.bool (nOf (p1)), .slice A1 n1 c1, .bool (nOf (q1)), .slice B1 m1 d1] 37))
          have T1 := Lib.hid (T1.out.alloc (.cells #[.bool (nOf (p1)), .slice A1 n1 c1, .bool (nOf (q1)), .slice B1 m1 d1] 37))
          have S2 := Lib.hid (S2.out.alloc (.cells #[.bool (nOf (p1)), .slice A1 n1 c1, .bool (nOf (q1)), .slice B1 m1 d1] 37))
          have T2 := Lib.hid (T2.out.alloc (.cells #[.bool (nOf (p1)), .slice A1 n1 c1, .bool (nOf (q1)), .slice B1 m1 d1] 37))
          have S3 := Lib.hid (S3.out.alloc (.cells #[.bool (nOf (p1)), .slice A1 n1 c1, .bool (nOf (q1)), .slice B1 m1 d1] 37))
          have T3 := Lib.hid (T3.out.alloc (.cells #[.bool (nOf (p1)), .slice A1 n1 c1, .bool (nOf (q1)), .slice B1 m1 d1] 37))
          have TB := Lib.hid (tab_on TB.out ((Below.refl _ _).alloc (Nat.le_refl _) (.cells #[.bool (nOf (p1)), .slice A1 n1 c1, .bool (nOf (q1)), .slice B1 m1 d1] 37)))
          have BW := Lib.hid (BW.out.alloc BW.out.size (.cells #[.bool (nOf (p1)), .slice A1 n1 c1, .bool (nOf (q1)), .slice B1 m1 d1] 37))
          have X1 := Lib.hid (Bk.new 37 w #[.bool (nOf (p1)), .slice A1 n1 c1, .bool (nOf (q1)), .slice B1 m1 d1])
          have S1 := Lib.hid (S1.out.alloc (.cells #[.bool (nOf (p2)), .slice A2 n2 c2, .bool (nOf (q2)), .slice B2 m2 d2] 37))
          have T1 := Lib.hid (T1.out.alloc (.cells #[.bool (nOf (p2)), .slice A2 n2 c2, .bool (nOf (q2)), .slice B2 m2 d2] 37))
          have S2 := Lib.hid (S2.out.alloc (.cells #[.bool (nOf (p2)), .slice A2 n2 c2, .bool (nOf (q2)), .slice B2 m2 d2] 37))
          have T2 := Lib.hid (T2.out.alloc (.cells #[.bool (nOf (p2)), .slice A2 n2 c2, .bool (nOf (q2)), .slice B2 m2 d2] 37))
          have S3 := Lib.hid (S3.out.alloc (.cells #[.bool (nOf (p2)), .slice A2 n2 c2, .bool (nOf (q2)), .slice B2 m2 d2] 37))
          have T3 := Lib.hid (T3.out.alloc (.cells #[.bool (nOf (p2)), .slice A2 n2 c2, .bool (nOf (q2)), .slice B2 m2 d2] 37))
          have TB := Lib.hid (tab_on TB.out ((Below.refl _ _).alloc (Nat.le_refl _) (.cells #[.bool (nOf (p2)), .slice A2 n2 c2, .bool (nOf (q2)), .slice B2 m2 d2] 37)))
          have BW := Lib.hid (BW.out.alloc BW.out.size (.cells #[.bool (nOf (p2)), .slice A2 n2 c2, .bool (nOf (q2)), .slice B2 m2 d2] 37))
          have X1 := Lib.hid (X1.out.alloc (.cells #[.bool (nOf (p2)), .slice A2 n2 c2, .bool (nOf (q2)), .slice B2 m2 d2] 37))
          have X2 := Lib.hid (Bk.new 37 (w.alloc (.cells #[.bool (nOf (p1)), .slice A1 n1 c1, .bool (nOf (q1)), .slice B1 m1 d1] 37)) #[.bool (nOf (p2)), .slice A2 n2 c2, .bool (nOf (q2)), .slice B2 m2 d2])
          rw [alloc_sz] at X2
          have S1 := Lib.hid (S1.out.alloc (.cells #[.bool (nOf (p3)), .slice A3 n3 c3, .bool (nOf (q3)), .slice B3 m3 d3] 37))
          have T1 := Lib.hid (T1.out.alloc (.cells #[.bool (nOf (p3)), .slice A3 n3 c3, .bool (nOf (q3)), .slice B3 m3 d3] 37))
          have S2 := Lib.hid (S2.out.alloc (.cells #[.bool (nOf (p3)), .slice A3 n3 c3, .bool (nOf (q3)), .slice B3 m3 d3] 37))
          have T2 := Lib.hid (T2.out.alloc (.cells #[.bool (nOf (p3)), .slice A3 n3 c3, .bool (nOf (q3)), .slice B3 m3 d3] 37))
          have S3 := Lib.hid (S3.out.alloc (.cells #[.bool (nOf (p3)), .slice A3 n3 c3, .bool (nOf (q3)), .slice B3 m3 d3] 37))
          have T3 := Lib.hid (T3.out.alloc (.cells #[.bool (nOf (p3)), .slice A3 n3 c3, .bool (nOf (q3)), .slice B3 m3 d3] 37))
          have TB := Lib.hid (tab_on TB.out ((Below.refl _ _).alloc (Nat.le_refl _) (.cells #[.bool (nOf (p3)), .slice A3 n3 c3, .bool (nOf (q3)), .slice B3 m3 d3] 37)))
          have BW := Lib.hid (BW.out.alloc BW.out.size (.cells #[.bool (nOf (p3)), .slice A3 n3 c3, .bool (nOf (q3)), .slice B3 m3 d3] 37))
          have X1 := Lib.hid (X1.out.alloc (.cells #[.bool (nOf (p3)), .slice A3 n3 c3, .bool (nOf (q3)), .slice B3 m3 d3] 37))
          have X2 := Lib.hid (X2.out.alloc (.cells #[.bool (nOf (p3)), .slice A3 n3 c3, .bool (nOf (q3)), .slice B3 m3 d3] 37))
          have X3 := Lib.hid (Bk.new 37 ((w.alloc (.cells #[.bool (nOf (p1)), .slice A1 n1 c1, .bool (nOf (q1)), .slice B1 m1 d1] 37)).alloc (.cells #[.bool (nOf (p2)), .slice A2 n2 c2, .bool (nOf (q2)), .slice B2 m2 d2] 37)) #[.bool (nOf (p3)), .slice A3 n3 c3, .bool (nOf (q3)), .slice B3 m3 d3])
          rw [alloc_sz, alloc_sz] at X3
          generalize (((w.alloc (.cells #[.bool (nOf (p1)), .slice A1 n1 c1, .bool (nOf (q1)), .slice B1 m1 d1] 37)).alloc (.cells #[.bool (nOf (p2)), .slice A2 n2 c2, .bool (nOf (q2)), .slice B2 m2 d2] 37)).alloc (.cells #[.bool (nOf (p3)), .slice A3 n3 c3, .bool (nOf (q3)), .slice B3 m3 d3] 37)) = W0 at *
          have e0 : W0.cell? ⟨w.heap.size, 0, none⟩ = some (.bool (nOf (p1))) := X1.out.c 0 rfl
          have e1 : W0.cell? ⟨w.heap.size, 1, none⟩ = some (.slice A1 n1 c1) := X1.out.c 1 rfl
          have e2 : W0.cell? ⟨w.heap.size, 2, none⟩ = some (.bool (nOf (q1))) := X1.out.c 2 rfl
          have e3 : W0.cell? ⟨w.heap.size, 3, none⟩ = some (.slice B1 m1 d1) := X1.out.c 3 rfl
          have e4 : W0.cell? ⟨w.heap.size + 1, 0, none⟩ = some (.bool (nOf (p2))) := X2.out.c 0 rfl
          have e5 : W0.cell? ⟨w.heap.size + 1, 1, none⟩ = some (.slice A2 n2 c2) := X2.out.c 1 rfl
          have e6 : W0.cell? ⟨w.heap.size + 1, 2, none⟩ = some (.bool (nOf (q2))) := X2.out.c 2 rfl
          have e7 : W0.cell? ⟨w.heap.size + 1, 3, none⟩ = some (.slice B2 m2 d2) := X2.out.c 3 rfl
          have e8 : W0.cell? ⟨w.heap.size + 1 + 1, 0, none⟩ = some (.bool (nOf (p3))) := X3.out.c 0 rfl
          have e9 : W0.cell? ⟨w.heap.size + 1 + 1, 1, none⟩ = some (.slice A3 n3 c3) := X3.out.c 1 rfl
          have e10 : W0.cell? ⟨w.heap.size + 1 + 1, 2, none⟩ = some (.bool (nOf (q3))) := X3.out.c 2 rfl
          have e11 : W0.cell? ⟨w.heap.size + 1 + 1, 3, none⟩ = some (.slice B3 m3 d3) := X3.out.c 3 rfl
          go_wp2_with fail
          clear e0 e1 e2 e3 e4 e5 e6 e7 e8 e9 e10 e11
          have ln1 := X1.out.lt
          have ln2 := X2.out.lt
          have ln3 := X3.out.lt
          have S1 := Lib.hid (S1.out.alloc (.cells #[.bool (nOf (p1)), .slice A1 n1 c1, .bool (nOf (q1)), .slice B1 m1 d1, .bool (nOf (p2)), .slice A2 n2 c2, .bool (nOf (q2)), .slice B2 m2 d2, .bool (nOf (p3)), .slice A3 n3 c3, .bool (nOf (q3)), .slice B3 m3 d3] 37))
          have T1 := Lib.hid (T1.out.alloc (.cells #[.bool (nOf (p1)), .slice A1 n1 c1, .bool (nOf (q1)), .slice B1 m1 d1, .bool (nOf (p2)), .slice A2 n2 c2, .bool (nOf (q2)), .slice B2 m2 d2, .bool (nOf (p3)), .slice A3 n3 c3, .bool (nOf (q3)), .slice B3 m3 d3] 37))
          have S2 := Lib.hid (S2.out.alloc (.cells #[.bool (nOf (p1)), .slice A1 n1 c1, .bool (nOf (q1)), .slice B1 m1 d1, .bool (nOf (p2)), .slice A2 n2 c2, .bool (nOf (q2)), .slice B2 m2 d2, .bool (nOf (p3)), .slice A3 n3 c3, .bool (nOf (q3)), .slice B3 m3 d3] 37))
          have T2 := Lib.hid (T2.out.alloc (.cells #[.bool (nOf (p1)), .slice A1 n1 c1, .bool (nOf (q1)), .slice B1 m1 d1, .bool (nOf (p2)), .slice A2 n2 c2, .bool (nOf (q2)), .slice B2 m2 d2, .bool (nOf (p3)), .slice A3 n3 c3, .bool (nOf (q3)), .slice B3 m3 d3] 37))
          have S3 := Lib.hid (S3.out.alloc (.cells #[.bool (nOf (p1)), .slice A1 n1 c1, .bool (nOf (q1)), .slice B1 m1 d1, .bool (nOf (p2)), .slice A2 n2 c2, .bool (nOf (q2)), .slice B2 m2 d2, .bool (nOf (p3)), .slice A3 n3 c3, .bool (nOf (q3)), .slice B3 m3 d3] 37))
          have T3 := Lib.hid (T3.out.alloc (.cells #[.bool (nOf (p1)), .slice A1 n1 c1, .bool (nOf (q1)), .slice B1 m1 d1, .bool (nOf (p2)), .slice A2 n2 c2, .bool (nOf (q2)), .slice B2 m2 d2, .bool (nOf (p3)), .slice A3 n3 c3, .bool (nOf (q3)), .slice B3 m3 d3] 37))
          have TB := Lib.hid (tab_on TB.out ((Below.refl _ _).alloc (Nat.le_refl _) (.cells #[.bool (nOf (p1)), .slice A1 n1 c1, .bool (nOf (q1)), .slice B1 m1 d1, .bool (nOf (p2)), .slice A2 n2 c2, .bool (nOf (q2)), .slice B2 m2 d2, .bool (nOf (p3)), .slice A3 n3 c3, .bool (nOf (q3)), .slice B3 m3 d3] 37)))
          have BW := Lib.hid (BW.out.alloc BW.out.size (.cells #[.bool (nOf (p1)), .slice A1 n1 c1, .bool (nOf (q1)), .slice B1 m1 d1, .bool (nOf (p2)), .slice A2 n2 c2, .bool (nOf (q2)), .slice B2 m2 d2, .bool (nOf (p3)), .slice A3 n3 c3, .bool (nOf (q3)), .slice B3 m3 d3] 37))
          have X1 := Lib.hid (X1.out.alloc (.cells #[.bool (nOf (p1)), .slice A1 n1 c1, .bool (nOf (q1)), .slice B1 m1 d1, .bool (nOf (p2)), .slice A2 n2 c2, .bool (nOf (q2)), .slice B2 m2 d2, .bool (nOf (p3)), .slice A3 n3 c3, .bool (nOf (q3)), .slice B3 m3 d3] 37))
          have X2 := Lib.hid (X2.out.alloc (.cells #[.bool (nOf (p1)), .slice A1 n1 c1, .bool (nOf (q1)), .slice B1 m1 d1, .bool (nOf (p2)), .slice A2 n2 c2, .bool (nOf (q2)), .slice B2 m2 d2, .bool (nOf (p3)), .slice A3 n3 c3, .bool (nOf (q3)), .slice B3 m3 d3] 37))
          have X3 := Lib.hid (X3.out.alloc (.cells #[.bool (nOf (p1)), .slice A1 n1 c1, .bool (nOf (q1)), .slice B1 m1 d1, .bool (nOf (p2)), .slice A2 n2 c2, .bool (nOf (q2)), .slice B2 m2 d2, .bool (nOf (p3)), .slice A3 n3 c3, .bool (nOf (q3)), .slice B3 m3 d3] 37))
          have XL := Lib.hid (Bk.new 37 W0 #[.bool (nOf (p1)), .slice A1 n1 c1, .bool (nOf (q1)), .slice B1 m1 d1, .bool (nOf (p2)), .slice A2 n2 c2, .bool (nOf (q2)), .slice B2 m2 d2, .bool (nOf (p3)), .slice A3 n3 c3, .bool (nOf (q3)), .slice B3 m3 d3])
          generalize (W0.alloc (.cells #[.bool (nOf (p1)), .slice A1 n1 c1, .bool (nOf (q1)), .slice B1 m1 d1, .bool (nOf (p2)), .slice A2 n2 c2, .bool (nOf (q2)), .slice B2 m2 d2, .bool (nOf (p3)), .slice A3 n3 c3, .bool (nOf (q3)), .slice B3 m3 d3] 37)) = WL at *
          have e0 : WL.cell? ⟨w.heap.size, 0, none⟩ = some (.bool (nOf (p1))) := X1.out.c 0 rfl
          have e1 : WL.cell? ⟨w.heap.size, 1, none⟩ = some (.slice A1 n1 c1) := X1.out.c 1 rfl
          have e2 : WL.cell? ⟨w.heap.size, 2, none⟩ = some (.bool (nOf (q1))) := X1.out.c 2 rfl
          have e3 : WL.cell? ⟨w.heap.size, 3, none⟩ = some (.slice B1 m1 d1) := X1.out.c 3 rfl
          have e4 : WL.cell? ⟨w.heap.size + 1, 0, none⟩ = some (.bool (nOf (p2))) := X2.out.c 0 rfl
          have e5 : WL.cell? ⟨w.heap.size + 1, 1, none⟩ = some (.slice A2 n2 c2) := X2.out.c 1 rfl
          have e6 : WL.cell? ⟨w.heap.size + 1, 2, none⟩ = some (.bool (nOf (q2))) := X2.out.c 2 rfl
          have e7 : WL.cell? ⟨w.heap.size + 1, 3, none⟩ = some (.slice B2 m2 d2) := X2.out.c 3 rfl
          have e8 : WL.cell? ⟨w.heap.size + 1 + 1, 0, none⟩ = some (.bool (nOf (p3))) := X3.out.c 0 rfl
          have e9 : WL.cell? ⟨w.heap.size + 1 + 1, 1, none⟩ = some (.slice A3 n3 c3) := X3.out.c 1 rfl
          have e10 : WL.cell? ⟨w.heap.size + 1 + 1, 2, none⟩ = some (.bool (nOf (q3))) := X3.out.c 2 rfl
          have e11 : WL.cell? ⟨w.heap.size + 1 + 1, 3, none⟩ = some (.slice B3 m3 d3) := X3.out.c 3 rfl
          ((with_reducible refine (light3_any W0.heap.size (nOf p1) (nOf q1) A1 B1 n1 c1 m1 d1 (nOf p2) (nOf q2) A2 B2 n2 c2 m2 d2 (nOf p3) (nOf q3) A3 B3 n3 c3 m3 d3 _ XL.out).mono ?_); rintro e w1 ⟨rfl, hb⟩)
          rw [HL.out]
          clear e0 e1 e2 e3 e4 e5 e6 e7 e8 e9 e10 e11
          have S1 := Lib.hid (S1.out.below hb)
          have T1 := Lib.hid (T1.out.below hb)
          have S2 := Lib.hid (S2.out.below hb)
          have T2 := Lib.hid (T2.out.below hb)
          have S3 := Lib.hid (S3.out.below hb)
          have T3 := Lib.hid (T3.out.below hb)
          have TB := Lib.hid (tab_on TB.out hb)
          have BW := Lib.hid (below_on BW.out hb)
          have X1 := Lib.hid (X1.out.below hb)
          have X2 := Lib.hid (X2.out.below hb)
          have X3 := Lib.hid (X3.out.below hb)
          have XL := Lib.hid (XL.out.below hb)
          clear hb
          clear XL
          have e0 : w1.cell? ⟨w.heap.size, 0, none⟩ = some (.bool (nOf (p1))) := X1.out.c 0 rfl
          have e1 : w1.cell? ⟨w.heap.size, 1, none⟩ = some (.slice A1 n1 c1) := X1.out.c 1 rfl
          have e2 : w1.cell? ⟨w.heap.size, 2, none⟩ = some (.bool (nOf (q1))) := X1.out.c 2 rfl
          have e3 : w1.cell? ⟨w.heap.size, 3, none⟩ = some (.slice B1 m1 d1) := X1.out.c 3 rfl
          have e4 : w1.cell? ⟨w.heap.size + 1, 0, none⟩ = some (.bool (nOf (p2))) := X2.out.c 0 rfl
          have e5 : w1.cell? ⟨w.heap.size + 1, 1, none⟩ = some (.slice A2 n2 c2) := X2.out.c 1 rfl
          have e6 : w1.cell? ⟨w.heap.size + 1, 2, none⟩ = some (.bool (nOf (q2))) := X2.out.c 2 rfl
          have e7 : w1.cell? ⟨w.heap.size + 1, 3, none⟩ = some (.slice B2 m2 d2) := X2.out.c 3 rfl
          have e8 : w1.cell? ⟨w.heap.size + 1 + 1, 0, none⟩ = some (.bool (nOf (p3))) := X3.out.c 0 rfl
          have e9 : w1.cell? ⟨w.heap.size + 1 + 1, 1, none⟩ = some (.slice A3 n3 c3) := X3.out.c 1 rfl
          have e10 : w1.cell? ⟨w.heap.size + 1 + 1, 2, none⟩ = some (.bool (nOf (q3))) := X3.out.c 2 rfl
          have e11 : w1.cell? ⟨w.heap.size + 1 + 1, 3, none⟩ = some (.slice B3 m3 d3) := X3.out.c 3 rfl
          go_wp2_with fail
          ((with_reducible refine (rvalid_ok true p1 q1 A1 B1 n1 c1 m1 d1 _ S1.out T1.out F1.out.valid).mono ?_); rintro e v1 ⟨rfl, hb⟩)
          clear e0 e1 e2 e3 e4 e5 e6 e7 e8 e9 e10 e11
          have S1 := Lib.hid (S1.out.below hb)
          have T1 := Lib.hid (T1.out.below hb)
          have S2 := Lib.hid (S2.out.below hb)
          have T2 := Lib.hid (T2.out.below hb)
          have S3 := Lib.hid (S3.out.below hb)
          have T3 := Lib.hid (T3.out.below hb)
          have TB := Lib.hid (tab_on TB.out hb)
          have BW := Lib.hid (below_on BW.out hb)
          have X1 := Lib.hid (X1.out.below hb)
          have X2 := Lib.hid (X2.out.below hb)
          have X3 := Lib.hid (X3.out.below hb)
          clear hb
          have e0 : v1.cell? ⟨w.heap.size, 0, none⟩ = some (.bool (nOf (p1))) := X1.out.c 0 rfl
          have e1 : v1.cell? ⟨w.heap.size, 1, none⟩ = some (.slice A1 n1 c1) := X1.out.c 1 rfl
          have e2 : v1.cell? ⟨w.heap.size, 2, none⟩ = some (.bool (nOf (q1))) := X1.out.c 2 rfl
          have e3 : v1.cell? ⟨w.heap.size, 3, none⟩ = some (.slice B1 m1 d1) := X1.out.c 3 rfl
          have e4 : v1.cell? ⟨w.heap.size + 1, 0, none⟩ = some (.bool (nOf (p2))) := X2.out.c 0 rfl
          have e5 : v1.cell? ⟨w.heap.size + 1, 1, none⟩ = some (.slice A2 n2 c2) := X2.out.c 1 rfl
          have e6 : v1.cell? ⟨w.heap.size + 1, 2, none⟩ = some (.bool (nOf (q2))) := X2.out.c 2 rfl
          have e7 : v1.cell? ⟨w.heap.size + 1, 3, none⟩ = some (.slice B2 m2 d2) := X2.out.c 3 rfl
          have e8 : v1.cell? ⟨w.heap.size + 1 + 1, 0, none⟩ = some (.bool (nOf (p3))) := X3.out.c 0 rfl
          have e9 : v1.cell? ⟨w.heap.size + 1 + 1, 1, none⟩ = some (.slice A3 n3 c3) := X3.out.c 1 rfl
          have e10 : v1.cell? ⟨w.heap.size + 1 + 1, 2, none⟩ = some (.bool (nOf (q3))) := X3.out.c 2 rfl
          have e11 : v1.cell? ⟨w.heap.size + 1 + 1, 3, none⟩ = some (.slice B3 m3 d3) := X3.out.c 3 rfl
          go_wp2_with fail
          ((with_reducible refine (rvalid_ok true p2 q2 A2 B2 n2 c2 m2 d2 _ S2.out T2.out F2.out.valid).mono ?_); rintro e v2 ⟨rfl, hb⟩)
          clear e0 e1 e2 e3 e4 e5 e6 e7 e8 e9 e10 e11
          have S1 := Lib.hid (S1.out.below hb)
          have T1 := Lib.hid (T1.out.below hb)
          have S2 := Lib.hid (S2.out.below hb)
          have T2 := Lib.hid (T2.out.below hb)
          have S3 := Lib.hid (S3.out.below hb)
          have T3 := Lib.hid (T3.out.below hb)
          have TB := Lib.hid (tab_on TB.out hb)
          have BW := Lib.hid (below_on BW.out hb)
          have X1 := Lib.hid (X1.out.below hb)
          have X2 := Lib.hid (X2.out.below hb)
          have X3 := Lib.hid (X3.out.below hb)
          clear hb
          have e0 : v2.cell? ⟨w.heap.size, 0, none⟩ = some (.bool (nOf (p1))) := X1.out.c 0 rfl
          have e1 : v2.cell? ⟨w.heap.size, 1, none⟩ = some (.slice A1 n1 c1) := X1.out.c 1 rfl
          have e2 : v2.cell? ⟨w.heap.size, 2, none⟩ = some (.bool (nOf (q1))) := X1.out.c 2 rfl
          have e3 : v2.cell? ⟨w.heap.size, 3, none⟩ = some (.slice B1 m1 d1) := X1.out.c 3 rfl
          have e4 : v2.cell? ⟨w.heap.size + 1, 0, none⟩ = some (.bool (nOf (p2))) := X2.out.c 0 rfl
          have e5 : v2.cell? ⟨w.heap.size + 1, 1, none⟩ = some (.slice A2 n2 c2) := X2.out.c 1 rfl
          have e6 : v2.cell? ⟨w.heap.size + 1, 2, none⟩ = some (.bool (nOf (q2))) := X2.out.c 2 rfl
          have e7 : v2.cell? ⟨w.heap.size + 1, 3, none⟩ = some (.slice B2 m2 d2) := X2.out.c 3 rfl
          have e8 : v2.cell? ⟨w.heap.size + 1 + 1, 0, none⟩ = some (.bool (nOf (p3))) := X3.out.c 0 rfl
          have e9 : v2.cell? ⟨w.heap.size + 1 + 1, 1, none⟩ = some (.slice A3 n3 c3) := X3.out.c 1 rfl
          have e10 : v2.cell? ⟨w.heap.size + 1 + 1, 2, none⟩ = some (.bool (nOf (q3))) := X3.out.c 2 rfl
          have e11 : v2.cell? ⟨w.heap.size + 1 + 1, 3, none⟩ = some (.slice B3 m3 d3) := X3.out.c 3 rfl
          go_wp2_with fail
          ((with_reducible refine (rvalid_ok true p3 q3 A3 B3 n3 c3 m3 d3 _ S3.out T3.out F3.out.valid).mono ?_); rintro e v3 ⟨rfl, hb⟩)
          clear e0 e1 e2 e3 e4 e5 e6 e7 e8 e9 e10 e11
          have S1 := Lib.hid (S1.out.below hb)
          have T1 := Lib.hid (T1.out.below hb)
          have S2 := Lib.hid (S2.out.below hb)
          have T2 := Lib.hid (T2.out.below hb)
          have S3 := Lib.hid (S3.out.below hb)
          have T3 := Lib.hid (T3.out.below hb)
          have TB := Lib.hid (tab_on TB.out hb)
          have BW := Lib.hid (below_on BW.out hb)
          have X1 := Lib.hid (X1.out.below hb)
          have X2 := Lib.hid (X2.out.below hb)
          have X3 := Lib.hid (X3.out.below hb)
          clear hb
          obtain ⟨R, rs, rp, rk⟩ := bundle (P := fun w' => Sl w' A1 n1 c1 (lOf p1) ∧ Sl w' B1 m1 d1 (lOf q1) ∧ Sl w' A2 n2 c2 (lOf p2) ∧ Sl w' B2 m2 d2 (lOf q2) ∧ Sl w' A3 n3 c3 (lOf p3) ∧ Sl w' B3 m3 d3 (lOf q3) ∧ Bk 37 w' (w.heap.size) #[.bool (nOf (p1)), .slice A1 n1 c1, .bool (nOf (q1)), .slice B1 m1 d1] ∧ Bk 37 w' (w.heap.size + 1) #[.bool (nOf (p2)), .slice A2 n2 c2, .bool (nOf (q2)), .slice B2 m2 d2] ∧ Bk 37 w' (w.heap.size + 1 + 1) #[.bool (nOf (p3)), .slice A3 n3 c3, .bool (nOf (q3)), .slice B3 m3 d3]) (st_and st_sl (st_and st_sl (st_and st_sl (st_and st_sl (st_and st_sl (st_and st_sl (st_and st_bk (st_and st_bk (st_bk))))))))) (w := v3) ⟨S1.out, T1.out, S2.out, T2.out, S3.out, T3.out, X1.out, X2.out, X3.out⟩
          have RS := Lib.hid rs
          have RP := Lib.hid rp
          have K := Lib.hid rk
          clear rs rp rk S1 T1 S2 T2 S3 T3 X1 X2 X3
          obtain ⟨e0, e1, e2, e3⟩ := (RP.out _ K.out).2.2.2.2.2.2.1.c4
          obtain ⟨e4, e5, e6, e7⟩ := (RP.out _ K.out).2.2.2.2.2.2.2.1.c4
          obtain ⟨e8, e9, e10, e11⟩ := (RP.out _ K.out).2.2.2.2.2.2.2.2.c4
          go_wp2_with fail
          ((with_reducible refine (radd_ok p1 q1 p2 q2 p1 q1 p2 q2 (resN (p1 * q2 + p2 * q1) (q1 * q2)) (resD (p1 * q2 + p2 * q1) (q1 * q2)) (resB (p1 * q2 + p2 * q1) (q1 * q2)) A1 B1 A2 B2 n1 c1 m1 d1 n2 c2 m2 d2 _ (RP.out _ K.out).1 (RP.out _ K.out).2.1 (RP.out _ K.out).2.2.1 (RP.out _ K.out).2.2.2.1 (fr_of F1.out).1 (fr_of F1.out).2 (fr_of F2.out).1 (fr_of F2.out).2 rfl rfl rfl).mono ?_); rintro e w2 ⟨G4, g4, h4, I4, i4, j4, rfl, hs, ht, hb⟩)
          clear e0 e1 e2 e3 e4 e5 e6 e7 e8 e9 e10 e11
          have TB := Lib.hid (tab_on TB.out hb)
          have BW := Lib.hid (below_on BW.out hb)
          have K := Lib.hid (RS.out _ _ K.out hb)
          clear hb
          have U4 := Lib.hid hs
          have V4 := Lib.hid ht
          clear hs ht
          obtain ⟨e0, e1, e2, e3⟩ := (RP.out _ K.out).2.2.2.2.2.2.1.c4
          obtain ⟨e4, e5, e6, e7⟩ := (RP.out _ K.out).2.2.2.2.2.2.2.1.c4
          obtain ⟨e8, e9, e10, e11⟩ := (RP.out _ K.out).2.2.2.2.2.2.2.2.c4
          go_upto_region 4 with fail
          clear e0 e1 e2 e3 e4 e5 e6 e7 e8 e9 e10 e11
          have K := Lib.hid (RS.out _ _ K.out ((Below.refl _ _).alloc (Nat.le_refl _) (.cells #[.bool (nOf (resN (p1 * q2 + p2 * q1) (q1 * q2))), .slice G4 g4 h4, .bool (nOf (resD (p1 * q2 + p2 * q1) (q1 * q2))), .slice I4 i4 j4] 37)))
          have TB := Lib.hid (tab_on TB.out ((Below.refl _ _).alloc (Nat.le_refl _) (.cells #[.bool (nOf (resN (p1 * q2 + p2 * q1) (q1 * q2))), .slice G4 g4 h4, .bool (nOf (resD (p1 * q2 + p2 * q1) (q1 * q2))), .slice I4 i4 j4] 37)))
          have BW := Lib.hid (BW.out.alloc BW.out.size (.cells #[.bool (nOf (resN (p1 * q2 + p2 * q1) (q1 * q2))), .slice G4 g4 h4, .bool (nOf (resD (p1 * q2 + p2 * q1) (q1 * q2))), .slice I4 i4 j4] 37))
          have U4 := Lib.hid (U4.out.alloc (.cells #[.bool (nOf (resN (p1 * q2 + p2 * q1) (q1 * q2))), .slice G4 g4 h4, .bool (nOf (resD (p1 * q2 + p2 * q1) (q1 * q2))), .slice I4 i4 j4] 37))
          have V4 := Lib.hid (V4.out.alloc (.cells #[.bool (nOf (resN (p1 * q2 + p2 * q1) (q1 * q2))), .slice G4 g4 h4, .bool (nOf (resD (p1 * q2 + p2 * q1) (q1 * q2))), .slice I4 i4 j4] 37))
          have YS := Lib.hid (Bk.new 37 w2 #[.bool (nOf (resN (p1 * q2 + p2 * q1) (q1 * q2))), .slice G4 g4 h4, .bool (nOf (resD (p1 * q2 + p2 * q1) (q1 * q2))), .slice I4 i4 j4])
          generalize (w2.alloc (.cells #[.bool (nOf (resN (p1 * q2 + p2 * q1) (q1 * q2))), .slice G4 g4 h4, .bool (nOf (resD (p1 * q2 + p2 * q1) (q1 * q2))), .slice I4 i4 j4] 37)) = W4 at *
          obtain ⟨e0, e1, e2, e3⟩ := (RP.out _ K.out).2.2.2.2.2.2.1.c4
          obtain ⟨e4, e5, e6, e7⟩ := (RP.out _ K.out).2.2.2.2.2.2.2.1.c4
          obtain ⟨e8, e9, e10, e11⟩ := (RP.out _ K.out).2.2.2.2.2.2.2.2.c4
          go_wp2_with fail
          ((with_reducible refine (radd_ok p2 q2 p1 q1 p2 q2 p1 q1 (resN (p1 * q2 + p2 * q1) (q1 * q2)) (resD (p1 * q2 + p2 * q1) (q1 * q2)) (resB (p1 * q2 + p2 * q1) (q1 * q2)) A2 B2 A1 B1 n2 c2 m2 d2 n1 c1 m1 d1 _ (RP.out _ K.out).2.2.1 (RP.out _ K.out).2.2.2.1 (RP.out _ K.out).1 (RP.out _ K.out).2.1 (fr_of F2.out).1 (fr_of F2.out).2 (fr_of F1.out).1 (fr_of F1.out).2 (by rw [Int.add_comm (p2 * q1), Int.mul_comm q2 q1]) (by rw [Int.add_comm (p2 * q1), Int.mul_comm q2 q1]) (by rw [Int.add_comm (p2 * q1), Int.mul_comm q2 q1])).mono ?_); rintro e w3 ⟨G5, g5, h5, I5, i5, j5, rfl, hs, ht, hb⟩)
          clear e0 e1 e2 e3 e4 e5 e6 e7 e8 e9 e10 e11
          have TB := Lib.hid (tab_on TB.out hb)
          have BW := Lib.hid (below_on BW.out hb)
          have U4 := Lib.hid (U4.out.below hb)
          have V4 := Lib.hid (V4.out.below hb)
          have YS := Lib.hid (YS.out.below hb)
          have K := Lib.hid (RS.out _ _ K.out hb)
          clear hb
          have U5 := Lib.hid hs
          have V5 := Lib.hid ht
          clear hs ht
          obtain ⟨e0, e1, e2, e3⟩ := (RP.out _ K.out).2.2.2.2.2.2.1.c4
          obtain ⟨e4, e5, e6, e7⟩ := (RP.out _ K.out).2.2.2.2.2.2.2.1.c4
          obtain ⟨e8, e9, e10, e11⟩ := (RP.out _ K.out).2.2.2.2.2.2.2.2.c4
          go_upto_region 5 with fail
          clear e0 e1 e2 e3 e4 e5 e6 e7 e8 e9 e10 e11
          have K := Lib.hid (RS.out _ _ K.out ((Below.refl _ _).alloc (Nat.le_refl _) (.cells #[.bool (nOf (resN (p1 * q2 + p2 * q1) (q1 * q2))), .slice G5 g5 h5, .bool (nOf (resD (p1 * q2 + p2 * q1) (q1 * q2))), .slice I5 i5 j5] 37)))
          have ln4 := YS.out.lt
          have TB := Lib.hid (tab_on TB.out ((Below.refl _ _).alloc (Nat.le_refl _) (.cells #[.bool (nOf (resN (p1 * q2 + p2 * q1) (q1 * q2))), .slice G5 g5 h5, .bool (nOf (resD (p1 * q2 + p2 * q1) (q1 * q2))), .slice I5 i5 j5] 37)))
          have BW := Lib.hid (BW.out.alloc BW.out.size (.cells #[.bool (nOf (resN (p1 * q2 + p2 * q1) (q1 * q2))), .slice G5 g5 h5, .bool (nOf (resD (p1 * q2 + p2 * q1) (q1 * q2))), .slice I5 i5 j5] 37))
          have U4 := Lib.hid (U4.out.alloc (.cells #[.bool (nOf (resN (p1 * q2 + p2 * q1) (q1 * q2))), .slice G5 g5 h5, .bool (nOf (resD (p1 * q2 + p2 * q1) (q1 * q2))), .slice I5 i5 j5] 37))
          have V4 := Lib.hid (V4.out.alloc (.cells #[.bool (nOf (resN (p1 * q2 + p2 * q1) (q1 * q2))), .slice G5 g5 h5, .bool (nOf (resD (p1 * q2 + p2 * q1) (q1 * q2))), .slice I5 i5 j5] 37))
          have YS := Lib.hid (YS.out.alloc (.cells #[.bool (nOf (resN (p1 * q2 + p2 * q1) (q1 * q2))), .slice G5 g5 h5, .bool (nOf (resD (p1 * q2 + p2 * q1) (q1 * q2))), .slice I5 i5 j5] 37))
          have U5 := Lib.hid (U5.out.alloc (.cells #[.bool (nOf (resN (p1 * q2 + p2 * q1) (q1 * q2))), .slice G5 g5 h5, .bool (nOf (resD (p1 * q2 + p2 * q1) (q1 * q2))), .slice I5 i5 j5] 37))
          have V5 := Lib.hid (V5.out.alloc (.cells #[.bool (nOf (resN (p1 * q2 + p2 * q1) (q1 * q2))), .slice G5 g5 h5, .bool (nOf (resD (p1 * q2 + p2 * q1) (q1 * q2))), .slice I5 i5 j5] 37))
          have YT := Lib.hid (Bk.new 37 w3 #[.bool (nOf (resN (p1 * q2 + p2 * q1) (q1 * q2))), .slice G5 g5 h5, .bool (nOf (resD (p1 * q2 + p2 * q1) (q1 * q2))), .slice I5 i5 j5])
          generalize (w3.alloc (.cells #[.bool (nOf (resN (p1 * q2 + p2 * q1) (q1 * q2))), .slice G5 g5 h5, .bool (nOf (resD (p1 * q2 + p2 * q1) (q1 * q2))), .slice I5 i5 j5] 37)) = W5 at *
          obtain ⟨e0, e1, e2, e3⟩ := (RP.out _ K.out).2.2.2.2.2.2.1.c4
          obtain ⟨e4, e5, e6, e7⟩ := (RP.out _ K.out).2.2.2.2.2.2.2.1.c4
          obtain ⟨e8, e9, e10, e11⟩ := (RP.out _ K.out).2.2.2.2.2.2.2.2.c4
          go_wp2_with fail
          ((with_reducible refine (rmul_ok p1 q1 p2 q2 p1 q1 p2 q2 (resN (p1 * p2) (q1 * q2)) (resD (p1 * p2) (q1 * q2)) (resB (p1 * p2) (q1 * q2)) A1 B1 A2 B2 n1 c1 m1 d1 n2 c2 m2 d2 _ (RP.out _ K.out).1 (RP.out _ K.out).2.1 (RP.out _ K.out).2.2.1 (RP.out _ K.out).2.2.2.1 (fr_of F1.out).1 (fr_of F1.out).2 (fr_of F2.out).1 (fr_of F2.out).2 rfl rfl rfl).mono ?_); rintro e w4 ⟨G6, g6, h6, I6, i6, j6, rfl, hs, ht, hb⟩)
          clear e0 e1 e2 e3 e4 e5 e6 e7 e8 e9 e10 e11
          have TB := Lib.hid (tab_on TB.out hb)
          have BW := Lib.hid (below_on BW.out hb)
          have U4 := Lib.hid (U4.out.below hb)
          have V4 := Lib.hid (V4.out.below hb)
          have YS := Lib.hid (YS.out.below hb)
          have U5 := Lib.hid (U5.out.below hb)
          have V5 := Lib.hid (V5.out.below hb)
          have YT := Lib.hid (YT.out.below hb)
          have K := Lib.hid (RS.out _ _ K.out hb)
          clear hb
          have U6 := Lib.hid hs
          have V6 := Lib.hid ht
          clear hs ht
          obtain ⟨e0, e1, e2, e3⟩ := (RP.out _ K.out).2.2.2.2.2.2.1.c4
          obtain ⟨e4, e5, e6, e7⟩ := (RP.out _ K.out).2.2.2.2.2.2.2.1.c4
          obtain ⟨e8, e9, e10, e11⟩ := (RP.out _ K.out).2.2.2.2.2.2.2.2.c4
          go_upto_region 6 with fail
          clear e0 e1 e2 e3 e4 e5 e6 e7 e8 e9 e10 e11
          have K := Lib.hid (RS.out _ _ K.out ((Below.refl _ _).alloc (Nat.le_refl _) (.cells #[.bool (nOf (resN (p1 * p2) (q1 * q2))), .slice G6 g6 h6, .bool (nOf (resD (p1 * p2) (q1 * q2))), .slice I6 i6 j6] 37)))
          have ln5 := YS.out.lt
          have ln6 := YT.out.lt
          have TB := Lib.hid (tab_on TB.out ((Below.refl _ _).alloc (Nat.le_refl _) (.cells #[.bool (nOf (resN (p1 * p2) (q1 * q2))), .slice G6 g6 h6, .bool (nOf (resD (p1 * p2) (q1 * q2))), .slice I6 i6 j6] 37)))
          have BW := Lib.hid (BW.out.alloc BW.out.size (.cells #[.bool (nOf (resN (p1 * p2) (q1 * q2))), .slice G6 g6 h6, .bool (nOf (resD (p1 * p2) (q1 * q2))), .slice I6 i6 j6] 37))
          have U4 := Lib.hid (U4.out.alloc (.cells #[.bool (nOf (resN (p1 * p2) (q1 * q2))), .slice G6 g6 h6, .bool (nOf (resD (p1 * p2) (q1 * q2))), .slice I6 i6 j6] 37))
          have V4 := Lib.hid (V4.out.alloc (.cells #[.bool (nOf (resN (p1 * p2) (q1 * q2))), .slice G6 g6 h6, .bool (nOf (resD (p1 * p2) (q1 * q2))), .slice I6 i6 j6] 37))
          have YS := Lib.hid (YS.out.alloc (.cells #[.bool (nOf (resN (p1 * p2) (q1 * q2))), .slice G6 g6 h6, .bool (nOf (resD (p1 * p2) (q1 * q2))), .slice I6 i6 j6] 37))
          have U5 := Lib.hid (U5.out.alloc (.cells #[.bool (nOf (resN (p1 * p2) (q1 * q2))), .slice G6 g6 h6, .bool (nOf (resD (p1 * p2) (q1 * q2))), .slice I6 i6 j6] 37))
          have V5 := Lib.hid (V5.out.alloc (.cells #[.bool (nOf (resN (p1 * p2) (q1 * q2))), .slice G6 g6 h6, .bool (nOf (resD (p1 * p2) (q1 * q2))), .slice I6 i6 j6] 37))
          have YT := Lib.hid (YT.out.alloc (.cells #[.bool (nOf (resN (p1 * p2) (q1 * q2))), .slice G6 g6 h6, .bool (nOf (resD (p1 * p2) (q1 * q2))), .slice I6 i6 j6] 37))
          have U6 := Lib.hid (U6.out.alloc (.cells #[.bool (nOf (resN (p1 * p2) (q1 * q2))), .slice G6 g6 h6, .bool (nOf (resD (p1 * p2) (q1 * q2))), .slice I6 i6 j6] 37))
          have V6 := Lib.hid (V6.out.alloc (.cells #[.bool (nOf (resN (p1 * p2) (q1 * q2))), .slice G6 g6 h6, .bool (nOf (resD (p1 * p2) (q1 * q2))), .slice I6 i6 j6] 37))
          have YP := Lib.hid (Bk.new 37 w4 #[.bool (nOf (resN (p1 * p2) (q1 * q2))), .slice G6 g6 h6, .bool (nOf (resD (p1 * p2) (q1 * q2))), .slice I6 i6 j6])
          generalize (w4.alloc (.cells #[.bool (nOf (resN (p1 * p2) (q1 * q2))), .slice G6 g6 h6, .bool (nOf (resD (p1 * p2) (q1 * q2))), .slice I6 i6 j6] 37)) = W6 at *
          obtain ⟨e0, e1, e2, e3⟩ := (RP.out _ K.out).2.2.2.2.2.2.1.c4
          obtain ⟨e4, e5, e6, e7⟩ := (RP.out _ K.out).2.2.2.2.2.2.2.1.c4
          obtain ⟨e8, e9, e10, e11⟩ := (RP.out _ K.out).2.2.2.2.2.2.2.2.c4
          go_wp2_with fail
          ((with_reducible refine (rmul_ok p2 q2 p1 q1 p2 q2 p1 q1 (resN (p1 * p2) (q1 * q2)) (resD (p1 * p2) (q1 * q2)) (resB (p1 * p2) (q1 * q2)) A2 B2 A1 B1 n2 c2 m2 d2 n1 c1 m1 d1 _ (RP.out _ K.out).2.2.1 (RP.out _ K.out).2.2.2.1 (RP.out _ K.out).1 (RP.out _ K.out).2.1 (fr_of F2.out).1 (fr_of F2.out).2 (fr_of F1.out).1 (fr_of F1.out).2 (by rw [Int.mul_comm p2 p1, Int.mul_comm q2 q1]) (by rw [Int.mul_comm p2 p1, Int.mul_comm q2 q1]) (by rw [Int.mul_comm p2 p1, Int.mul_comm q2 q1])).mono ?_); rintro e w5 ⟨G7, g7, h7, I7, i7, j7, rfl, hs, ht, hb⟩)
          clear e0 e1 e2 e3 e4 e5 e6 e7 e8 e9 e10 e11
          have TB := Lib.hid (tab_on TB.out hb)
          have BW := Lib.hid (below_on BW.out hb)
          have U4 := Lib.hid (U4.out.below hb)
          have V4 := Lib.hid (V4.out.below hb)
          have YS := Lib.hid (YS.out.below hb)
          have U5 := Lib.hid (U5.out.below hb)
          have V5 := Lib.hid (V5.out.below hb)
          have YT := Lib.hid (YT.out.below hb)
          have U6 := Lib.hid (U6.out.below hb)
          have V6 := Lib.hid (V6.out.below hb)
          have YP := Lib.hid (YP.out.below hb)
          have K := Lib.hid (RS.out _ _ K.out hb)
          clear hb
          have U7 := Lib.hid hs
          have V7 := Lib.hid ht
          clear hs ht
          obtain ⟨e0, e1, e2, e3⟩ := (RP.out _ K.out).2.2.2.2.2.2.1.c4
          obtain ⟨e4, e5, e6, e7⟩ := (RP.out _ K.out).2.2.2.2.2.2.2.1.c4
          obtain ⟨e8, e9, e10, e11⟩ := (RP.out _ K.out).2.2.2.2.2.2.2.2.c4
          go_upto_region 7 with fail
          clear e0 e1 e2 e3 e4 e5 e6 e7 e8 e9 e10 e11
          have K := Lib.hid (RS.out _ _ K.out ((Below.refl _ _).alloc (Nat.le_refl _) (.cells #[.bool (nOf (resN (p1 * p2) (q1 * q2))), .slice G7 g7 h7, .bool (nOf (resD (p1 * p2) (q1 * q2))), .slice I7 i7 j7] 37)))
          have ln7 := YS.out.lt
          have ln8 := YT.out.lt
          have ln9 := YP.out.lt
          have TB := Lib.hid (tab_on TB.out ((Below.refl _ _).alloc (Nat.le_refl _) (.cells #[.bool (nOf (resN (p1 * p2) (q1 * q2))), .slice G7 g7 h7, .bool (nOf (resD (p1 * p2) (q1 * q2))), .slice I7 i7 j7] 37)))
          have BW := Lib.hid (BW.out.alloc BW.out.size (.cells #[.bool (nOf (resN (p1 * p2) (q1 * q2))), .slice G7 g7 h7, .bool (nOf (resD (p1 * p2) (q1 * q2))), .slice I7 i7 j7] 37))
          have U4 := Lib.hid (U4.out.alloc (.cells #[.bool (nOf (resN (p1 * p2) (q1 * q2))), .slice G7 g7 h7, .bool (nOf (resD (p1 * p2) (q1 * q2))), .slice I7 i7 j7] 37))
          have V4 := Lib.hid (V4.out.alloc (.cells #[.bool (nOf (resN (p1 * p2) (q1 * q2))), .slice G7 g7 h7, .bool (nOf (resD (p1 * p2) (q1 * q2))), .slice I7 i7 j7] 37))
          have YS := Lib.hid (YS.out.alloc (.cells #[.bool (nOf (resN (p1 * p2) (q1 * q2))), .slice G7 g7 h7, .bool (nOf (resD (p1 * p2) (q1 * q2))), .slice I7 i7 j7] 37))
          have U5 := Lib.hid (U5.out.alloc (.cells #[.bool (nOf (resN (p1 * p2) (q1 * q2))), .slice G7 g7 h7, .bool (nOf (resD (p1 * p2) (q1 * q2))), .slice I7 i7 j7] 37))
          have V5 := Lib.hid (V5.out.alloc (.cells #[.bool (nOf (resN (p1 * p2) (q1 * q2))), .slice G7 g7 h7, .bool (nOf (resD (p1 * p2) (q1 * q2))), .slice I7 i7 j7] 37))
          have YT := Lib.hid (YT.out.alloc (.cells #[.bool (nOf (resN (p1 * p2) (q1 * q2))), .slice G7 g7 h7, .bool (nOf (resD (p1 * p2) (q1 * q2))), .slice I7 i7 j7] 37))
          have U6 := Lib.hid (U6.out.alloc (.cells #[.bool (nOf (resN (p1 * p2) (q1 * q2))), .slice G7 g7 h7, .bool (nOf (resD (p1 * p2) (q1 * q2))), .slice I7 i7 j7] 37))
          have V6 := Lib.hid (V6.out.alloc (.cells #[.bool (nOf (resN (p1 * p2) (q1 * q2))), .slice G7 g7 h7, .bool (nOf (resD (p1 * p2) (q1 * q2))), .slice I7 i7 j7] 37))
          have YP := Lib.hid (YP.out.alloc (.cells #[.bool (nOf (resN (p1 * p2) (q1 * q2))), .slice G7 g7 h7, .bool (nOf (resD (p1 * p2) (q1 * q2))), .slice I7 i7 j7] 37))
          have U7 := Lib.hid (U7.out.alloc (.cells #[.bool (nOf (resN (p1 * p2) (q1 * q2))), .slice G7 g7 h7, .bool (nOf (resD (p1 * p2) (q1 * q2))), .slice I7 i7 j7] 37))
          have V7 := Lib.hid (V7.out.alloc (.cells #[.bool (nOf (resN (p1 * p2) (q1 * q2))), .slice G7 g7 h7, .bool (nOf (resD (p1 * p2) (q1 * q2))), .slice I7 i7 j7] 37))
          have YQ := Lib.hid (Bk.new 37 w5 #[.bool (nOf (resN (p1 * p2) (q1 * q2))), .slice G7 g7 h7, .bool (nOf (resD (p1 * p2) (q1 * q2))), .slice I7 i7 j7])
          generalize (w5.alloc (.cells #[.bool (nOf (resN (p1 * p2) (q1 * q2))), .slice G7 g7 h7, .bool (nOf (resD (p1 * p2) (q1 * q2))), .slice I7 i7 j7] 37)) = W7 at *
          generalize hb1 : resB (p1 * q2 + p2 * q1) (q1 * q2) = b1 at *
          generalize hb2 : resB (p1 * p2) (q1 * q2) = b2 at *
          have HB1 := Lib.hid hb1
          have HB2 := Lib.hid hb2
          clear hb1 hb2
          obtain ⟨e0, e1, e2, e3⟩ := YS.out.c4
          obtain ⟨e4, e5, e6, e7⟩ := YT.out.c4
          go_wp2_with fail
          ((with_reducible refine (samer_ok (resN (p1 * q2 + p2 * q1) (q1 * q2)) (resD (p1 * q2 + p2 * q1) (q1 * q2)) (resN (p1 * q2 + p2 * q1) (q1 * q2)) (resD (p1 * q2 + p2 * q1) (q1 * q2)) G4 I4 G5 I5 g4 h4 i4 j4 g5 h5 i5 j5 _ U4.out V4.out U5.out V5.out rfl rfl).mono ?_); rintro e w6 ⟨rfl, hb⟩)
          clear e0 e1 e2 e3 e4 e5 e6 e7
          have TB := Lib.hid (tab_on TB.out hb)
          have BW := Lib.hid (below_on BW.out hb)
          have U4 := Lib.hid (U4.out.below hb)
          have V4 := Lib.hid (V4.out.below hb)
          have YS := Lib.hid (YS.out.below hb)
          have U5 := Lib.hid (U5.out.below hb)
          have V5 := Lib.hid (V5.out.below hb)
          have YT := Lib.hid (YT.out.below hb)
          have U6 := Lib.hid (U6.out.below hb)
          have V6 := Lib.hid (V6.out.below hb)
          have YP := Lib.hid (YP.out.below hb)
          have U7 := Lib.hid (U7.out.below hb)
          have V7 := Lib.hid (V7.out.below hb)
          have YQ := Lib.hid (YQ.out.below hb)
          have K := Lib.hid (RS.out _ _ K.out hb)
          clear hb
          obtain ⟨e0, e1, e2, e3⟩ := YP.out.c4
          obtain ⟨e4, e5, e6, e7⟩ := YQ.out.c4
          go_wp2_with fail
          ((with_reducible refine (samer_ok (resN (p1 * p2) (q1 * q2)) (resD (p1 * p2) (q1 * q2)) (resN (p1 * p2) (q1 * q2)) (resD (p1 * p2) (q1 * q2)) G6 I6 G7 I7 g6 h6 i6 j6 g7 h7 i7 j7 _ U6.out V6.out U7.out V7.out rfl rfl).mono ?_); rintro e w7 ⟨rfl, hb⟩)
          clear e0 e1 e2 e3 e4 e5 e6 e7
          have TB := Lib.hid (tab_on TB.out hb)
          have BW := Lib.hid (below_on BW.out hb)
          have U4 := Lib.hid (U4.out.below hb)
          have V4 := Lib.hid (V4.out.below hb)
          have YS := Lib.hid (YS.out.below hb)
          have U5 := Lib.hid (U5.out.below hb)
          have V5 := Lib.hid (V5.out.below hb)
          have YT := Lib.hid (YT.out.below hb)
          have U6 := Lib.hid (U6.out.below hb)
          have V6 := Lib.hid (V6.out.below hb)
          have YP := Lib.hid (YP.out.below hb)
          have U7 := Lib.hid (U7.out.below hb)
          have V7 := Lib.hid (V7.out.below hb)
          have YQ := Lib.hid (YQ.out.below hb)
          have K := Lib.hid (RS.out _ _ K.out hb)
          clear hb
          clear YT YQ U5 V5 U7 V7
          obtain ⟨e0, e1, e2, e3⟩ := (RP.out _ K.out).2.2.2.2.2.2.1.c4
          obtain ⟨e4, e5, e6, e7⟩ := (RP.out _ K.out).2.2.2.2.2.2.2.1.c4
          obtain ⟨e8, e9, e10, e11⟩ := (RP.out _ K.out).2.2.2.2.2.2.2.2.c4
          go_wp2_with fail
          ((with_reducible refine (awake3_any _ TB.out).mono ?_); rintro e w8 ⟨rfl, hb⟩)
          clear e0 e1 e2 e3 e4 e5 e6 e7 e8 e9 e10 e11
          have TB := Lib.hid (tab_on TB.out hb)
          have BW := Lib.hid (below_on BW.out hb)
          have U4 := Lib.hid (U4.out.below hb)
          have V4 := Lib.hid (V4.out.below hb)
          have YS := Lib.hid (YS.out.below hb)
          have U6 := Lib.hid (U6.out.below hb)
          have V6 := Lib.hid (V6.out.below hb)
          have YP := Lib.hid (YP.out.below hb)
          have K := Lib.hid (RS.out _ _ K.out hb)
          clear hb
          clear TB
          rcases Bool.eq_false_or_eq_true b1 with f1 | f1
          · subst f1
            have FS := Lib.hid (Fr.res HB1.out)
            have SA := Lib.hid (sub_add F1.out F2.out HB1.out)
            obtain ⟨e0, e1, e2, e3⟩ := YS.out.c4
            obtain ⟨e4, e5, e6, e7⟩ := (RP.out _ K.out).2.2.2.2.2.2.2.1.c4
            go_wp2_with fail
            ((with_reducible refine (rsub_ok (resN (p1 * q2 + p2 * q1) (q1 * q2)) (resD (p1 * q2 + p2 * q1) (q1 * q2)) p2 q2 (resN (p1 * q2 + p2 * q1) (q1 * q2)) (resD (p1 * q2 + p2 * q1) (q1 * q2)) p2 q2 p1 q1 true G4 I4 A2 B2 g4 h4 i4 j4 n2 c2 m2 d2 _ U4.out V4.out (RP.out _ K.out).2.2.1 (RP.out _ K.out).2.2.2.1 (fr_of FS.out).1 (fr_of FS.out).2 (fr_of F2.out).1 (fr_of F2.out).2 SA.out.1 SA.out.2.1 SA.out.2.2).mono ?_); rintro e w10 ⟨G10, g10, h10, I10, i10, j10, rfl, hs, ht, hb⟩)
            clear e0 e1 e2 e3 e4 e5 e6 e7
            have BW := Lib.hid (below_on BW.out hb)
            have U4 := Lib.hid (U4.out.below hb)
            have V4 := Lib.hid (V4.out.below hb)
            have YS := Lib.hid (YS.out.below hb)
            have U6 := Lib.hid (U6.out.below hb)
            have V6 := Lib.hid (V6.out.below hb)
            have YP := Lib.hid (YP.out.below hb)
            have K := Lib.hid (RS.out _ _ K.out hb)
            clear hb
            have U10 := Lib.hid hs
            have V10 := Lib.hid ht
            clear hs ht
            obtain ⟨e0, e1, e2, e3⟩ := YS.out.c4
            obtain ⟨e4, e5, e6, e7⟩ := (RP.out _ K.out).2.2.2.2.2.2.2.1.c4
            go_upto_region 10 with fail
            clear e0 e1 e2 e3 e4 e5 e6 e7
            have K := Lib.hid (RS.out _ _ K.out ((Below.refl _ _).alloc (Nat.le_refl _) (.cells #[.bool (nOf (p1)), .slice G10 g10 h10, .bool (nOf (q1)), .slice I10 i10 j10] 37)))
            have ln10 := YS.out.lt
            have ln11 := YP.out.lt
            have BW := Lib.hid (BW.out.alloc BW.out.size (.cells #[.bool (nOf (p1)), .slice G10 g10 h10, .bool (nOf (q1)), .slice I10 i10 j10] 37))
            have U4 := Lib.hid (U4.out.alloc (.cells #[.bool (nOf (p1)), .slice G10 g10 h10, .bool (nOf (q1)), .slice I10 i10 j10] 37))
            have V4 := Lib.hid (V4.out.alloc (.cells #[.bool (nOf (p1)), .slice G10 g10 h10, .bool (nOf (q1)), .slice I10 i10 j10] 37))
            have YS := Lib.hid (YS.out.alloc (.cells #[.bool (nOf (p1)), .slice G10 g10 h10, .bool (nOf (q1)), .slice I10 i10 j10] 37))
            have U6 := Lib.hid (U6.out.alloc (.cells #[.bool (nOf (p1)), .slice G10 g10 h10, .bool (nOf (q1)), .slice I10 i10 j10] 37))
            have V6 := Lib.hid (V6.out.alloc (.cells #[.bool (nOf (p1)), .slice G10 g10 h10, .bool (nOf (q1)), .slice I10 i10 j10] 37))
            have YP := Lib.hid (YP.out.alloc (.cells #[.bool (nOf (p1)), .slice G10 g10 h10, .bool (nOf (q1)), .slice I10 i10 j10] 37))
            have U10 := Lib.hid (U10.out.alloc (.cells #[.bool (nOf (p1)), .slice G10 g10 h10, .bool (nOf (q1)), .slice I10 i10 j10] 37))
            have V10 := Lib.hid (V10.out.alloc (.cells #[.bool (nOf (p1)), .slice G10 g10 h10, .bool (nOf (q1)), .slice I10 i10 j10] 37))
            have YD := Lib.hid (Bk.new 37 w10 #[.bool (nOf (p1)), .slice G10 g10 h10, .bool (nOf (q1)), .slice I10 i10 j10])
            generalize (w10.alloc (.cells #[.bool (nOf (p1)), .slice G10 g10 h10, .bool (nOf (q1)), .slice I10 i10 j10] 37)) = W10 at *
            obtain ⟨e0, e1, e2, e3⟩ := YD.out.c4
            obtain ⟨e4, e5, e6, e7⟩ := (RP.out _ K.out).2.2.2.2.2.2.1.c4
            go_wp2_with fail
            ((with_reducible refine (samer_ok p1 q1 p1 q1 G10 I10 A1 B1 g10 h10 i10 j10 n1 c1 m1 d1 _ U10.out V10.out (RP.out _ K.out).1 (RP.out _ K.out).2.1 rfl rfl).mono ?_); rintro e w11 ⟨rfl, hb⟩)
            clear e0 e1 e2 e3 e4 e5 e6 e7
            have BW := Lib.hid (below_on BW.out hb)
            have U4 := Lib.hid (U4.out.below hb)
            have V4 := Lib.hid (V4.out.below hb)
            have YS := Lib.hid (YS.out.below hb)
            have U6 := Lib.hid (U6.out.below hb)
            have V6 := Lib.hid (V6.out.below hb)
            have YP := Lib.hid (YP.out.below hb)
            have U10 := Lib.hid (U10.out.below hb)
            have V10 := Lib.hid (V10.out.below hb)
            have YD := Lib.hid (YD.out.below hb)
            have K := Lib.hid (RS.out _ _ K.out hb)
            clear hb
            clear YD U10 V10
            go_upto_region 12 with fail
            rcases Bool.eq_false_or_eq_true b2 with f2 | f2
            · subst f2
              by_cases h0 : p2 = 0
              · have hn0 : n2 = 0 := by have := ((RP.out _ K.out).2.2.1).len; rw [h0, lOf_zero] at this; simpa using this.symm
                have hn1 : ¬ 0 < n2 := by omega
                have hn2 : ¬ (0 : Int) < (n2 : Int) := by omega
                clear h0 hn0
                obtain ⟨e0, e1, e2, e3⟩ := YP.out.c4
                obtain ⟨e4, e5, e6, e7⟩ := (RP.out _ K.out).2.2.2.2.2.2.2.1.c4
                go_wp2_with fail
                ((with_reducible refine (rdiv_some (resN (p1 * p2) (q1 * q2)) (resD (p1 * p2) (q1 * q2)) p2 q2 G6 I6 A2 B2 g6 h6 i6 j6 n2 c2 m2 d2 _ U6.out V6.out (RP.out _ K.out).2.2.1 (RP.out _ K.out).2.2.2.1).mono ?_); rintro e y1 ⟨N13, D13, b13, G13, g13, h13, I13, i13, j13, rfl, hs, ht, hb⟩)
                clear e0 e1 e2 e3 e4 e5 e6 e7
                have BW := Lib.hid (below_on BW.out hb)
                have U4 := Lib.hid (U4.out.below hb)
                have V4 := Lib.hid (V4.out.below hb)
                have YS := Lib.hid (YS.out.below hb)
                have U6 := Lib.hid (U6.out.below hb)
                have V6 := Lib.hid (V6.out.below hb)
                have YP := Lib.hid (YP.out.below hb)
                have K := Lib.hid (RS.out _ _ K.out hb)
                clear hb
                have U13 := Lib.hid hs
                have V13 := Lib.hid ht
                clear hs ht
                obtain ⟨e0, e1, e2, e3⟩ := YP.out.c4
                obtain ⟨e4, e5, e6, e7⟩ := (RP.out _ K.out).2.2.2.2.2.2.2.1.c4
                go_upto_region 13 with fail
                clear e0 e1 e2 e3 e4 e5 e6 e7
                have K := Lib.hid (RS.out _ _ K.out ((Below.refl _ _).alloc (Nat.le_refl _) (.cells #[.bool (nOf (N13)), .slice G13 g13 h13, .bool (nOf (D13)), .slice I13 i13 j13] 37)))
                have ln12 := YS.out.lt
                have ln13 := YP.out.lt
                have BW := Lib.hid (BW.out.alloc BW.out.size (.cells #[.bool (nOf (N13)), .slice G13 g13 h13, .bool (nOf (D13)), .slice I13 i13 j13] 37))
                have U4 := Lib.hid (U4.out.alloc (.cells #[.bool (nOf (N13)), .slice G13 g13 h13, .bool (nOf (D13)), .slice I13 i13 j13] 37))
                have V4 := Lib.hid (V4.out.alloc (.cells #[.bool (nOf (N13)), .slice G13 g13 h13, .bool (nOf (D13)), .slice I13 i13 j13] 37))
                have YS := Lib.hid (YS.out.alloc (.cells #[.bool (nOf (N13)), .slice G13 g13 h13, .bool (nOf (D13)), .slice I13 i13 j13] 37))
                have U6 := Lib.hid (U6.out.alloc (.cells #[.bool (nOf (N13)), .slice G13 g13 h13, .bool (nOf (D13)), .slice I13 i13 j13] 37))
                have V6 := Lib.hid (V6.out.alloc (.cells #[.bool (nOf (N13)), .slice G13 g13 h13, .bool (nOf (D13)), .slice I13 i13 j13] 37))
                have YP := Lib.hid (YP.out.alloc (.cells #[.bool (nOf (N13)), .slice G13 g13 h13, .bool (nOf (D13)), .slice I13 i13 j13] 37))
                have U13 := Lib.hid (U13.out.alloc (.cells #[.bool (nOf (N13)), .slice G13 g13 h13, .bool (nOf (D13)), .slice I13 i13 j13] 37))
                have V13 := Lib.hid (V13.out.alloc (.cells #[.bool (nOf (N13)), .slice G13 g13 h13, .bool (nOf (D13)), .slice I13 i13 j13] 37))
                have YE := Lib.hid (Bk.new 37 y1 #[.bool (nOf (N13)), .slice G13 g13 h13, .bool (nOf (D13)), .slice I13 i13 j13])
                generalize (y1.alloc (.cells #[.bool (nOf (N13)), .slice G13 g13 h13, .bool (nOf (D13)), .slice I13 i13 j13] 37)) = W13 at *
                clear YP U6 V6 YE U13 V13
                obtain ⟨e0, e1, e2, e3⟩ := (RP.out _ K.out).2.2.2.2.2.2.2.1.c4
                go_upto_region 15 with fail
                clear e0 e1 e2 e3
                obtain ⟨e0, e1, e2, e3⟩ := YS.out.c4
                obtain ⟨e4, e5, e6, e7⟩ := (RP.out _ K.out).2.2.2.2.2.2.1.c4
                obtain ⟨e8, e9, e10, e11⟩ := (RP.out _ K.out).2.2.2.2.2.2.2.1.c4
                obtain ⟨e12, e13, e14, e15⟩ := (RP.out _ K.out).2.2.2.2.2.2.2.2.c4
                go_wp2_with fail
                ((with_reducible refine (rmul_ok (resN (p1 * q2 + p2 * q1) (q1 * q2)) (resD (p1 * q2 + p2 * q1) (q1 * q2)) p3 q3 (resN (p1 * q2 + p2 * q1) (q1 * q2)) (resD (p1 * q2 + p2 * q1) (q1 * q2)) p3 q3 (resN ((resN (p1 * q2 + p2 * q1) (q1 * q2)) * p3) ((resD (p1 * q2 + p2 * q1) (q1 * q2)) * q3)) (resD ((resN (p1 * q2 + p2 * q1) (q1 * q2)) * p3) ((resD (p1 * q2 + p2 * q1) (q1 * q2)) * q3)) (resB ((resN (p1 * q2 + p2 * q1) (q1 * q2)) * p3) ((resD (p1 * q2 + p2 * q1) (q1 * q2)) * q3)) G4 I4 A3 B3 g4 h4 i4 j4 n3 c3 m3 d3 _ U4.out V4.out (RP.out _ K.out).2.2.2.2.1 (RP.out _ K.out).2.2.2.2.2.1 (fr_of FS.out).1 (fr_of FS.out).2 (fr_of F3.out).1 (fr_of F3.out).2 rfl rfl rfl).mono ?_); rintro e x1 ⟨G16, g16, h16, I16, i16, j16, rfl, hs, ht, hb⟩)
                clear e0 e1 e2 e3 e4 e5 e6 e7 e8 e9 e10 e11 e12 e13 e14 e15
                have BW := Lib.hid (below_on BW.out hb)
                have U4 := Lib.hid (U4.out.below hb)
                have V4 := Lib.hid (V4.out.below hb)
                have YS := Lib.hid (YS.out.below hb)
                have K := Lib.hid (RS.out _ _ K.out hb)
                clear hb
                have U16 := Lib.hid hs
                have V16 := Lib.hid ht
                clear hs ht
                obtain ⟨e0, e1, e2, e3⟩ := YS.out.c4
                obtain ⟨e4, e5, e6, e7⟩ := (RP.out _ K.out).2.2.2.2.2.2.1.c4
                obtain ⟨e8, e9, e10, e11⟩ := (RP.out _ K.out).2.2.2.2.2.2.2.1.c4
                obtain ⟨e12, e13, e14, e15⟩ := (RP.out _ K.out).2.2.2.2.2.2.2.2.c4
                go_upto_region 16 with fail
                clear e0 e1 e2 e3 e4 e5 e6 e7 e8 e9 e10 e11 e12 e13 e14 e15
                have K := Lib.hid (RS.out _ _ K.out ((Below.refl _ _).alloc (Nat.le_refl _) (.cells #[.bool (nOf (resN ((resN (p1 * q2 + p2 * q1) (q1 * q2)) * p3) ((resD (p1 * q2 + p2 * q1) (q1 * q2)) * q3))), .slice G16 g16 h16, .bool (nOf (resD ((resN (p1 * q2 + p2 * q1) (q1 * q2)) * p3) ((resD (p1 * q2 + p2 * q1) (q1 * q2)) * q3))), .slice I16 i16 j16] 37)))
                have ln14 := YS.out.lt
                have BW := Lib.hid (BW.out.alloc BW.out.size (.cells #[.bool (nOf (resN ((resN (p1 * q2 + p2 * q1) (q1 * q2)) * p3) ((resD (p1 * q2 + p2 * q1) (q1 * q2)) * q3))), .slice G16 g16 h16, .bool (nOf (resD ((resN (p1 * q2 + p2 * q1) (q1 * q2)) * p3) ((resD (p1 * q2 + p2 * q1) (q1 * q2)) * q3))), .slice I16 i16 j16] 37))
                have U4 := Lib.hid (U4.out.alloc (.cells #[.bool (nOf (resN ((resN (p1 * q2 + p2 * q1) (q1 * q2)) * p3) ((resD (p1 * q2 + p2 * q1) (q1 * q2)) * q3))), .slice G16 g16 h16, .bool (nOf (resD ((resN (p1 * q2 + p2 * q1) (q1 * q2)) * p3) ((resD (p1 * q2 + p2 * q1) (q1 * q2)) * q3))), .slice I16 i16 j16] 37))
                have V4 := Lib.hid (V4.out.alloc (.cells #[.bool (nOf (resN ((resN (p1 * q2 + p2 * q1) (q1 * q2)) * p3) ((resD (p1 * q2 + p2 * q1) (q1 * q2)) * q3))), .slice G16 g16 h16, .bool (nOf (resD ((resN (p1 * q2 + p2 * q1) (q1 * q2)) * p3) ((resD (p1 * q2 + p2 * q1) (q1 * q2)) * q3))), .slice I16 i16 j16] 37))
                have YS := Lib.hid (YS.out.alloc (.cells #[.bool (nOf (resN ((resN (p1 * q2 + p2 * q1) (q1 * q2)) * p3) ((resD (p1 * q2 + p2 * q1) (q1 * q2)) * q3))), .slice G16 g16 h16, .bool (nOf (resD ((resN (p1 * q2 + p2 * q1) (q1 * q2)) * p3) ((resD (p1 * q2 + p2 * q1) (q1 * q2)) * q3))), .slice I16 i16 j16] 37))
                have U16 := Lib.hid (U16.out.alloc (.cells #[.bool (nOf (resN ((resN (p1 * q2 + p2 * q1) (q1 * q2)) * p3) ((resD (p1 * q2 + p2 * q1) (q1 * q2)) * q3))), .slice G16 g16 h16, .bool (nOf (resD ((resN (p1 * q2 + p2 * q1) (q1 * q2)) * p3) ((resD (p1 * q2 + p2 * q1) (q1 * q2)) * q3))), .slice I16 i16 j16] 37))
                have V16 := Lib.hid (V16.out.alloc (.cells #[.bool (nOf (resN ((resN (p1 * q2 + p2 * q1) (q1 * q2)) * p3) ((resD (p1 * q2 + p2 * q1) (q1 * q2)) * q3))), .slice G16 g16 h16, .bool (nOf (resD ((resN (p1 * q2 + p2 * q1) (q1 * q2)) * p3) ((resD (p1 * q2 + p2 * q1) (q1 * q2)) * q3))), .slice I16 i16 j16] 37))
                have ZX := Lib.hid (Bk.new 37 x1 #[.bool (nOf (resN ((resN (p1 * q2 + p2 * q1) (q1 * q2)) * p3) ((resD (p1 * q2 + p2 * q1) (q1 * q2)) * q3))), .slice G16 g16 h16, .bool (nOf (resD ((resN (p1 * q2 + p2 * q1) (q1 * q2)) * p3) ((resD (p1 * q2 + p2 * q1) (q1 * q2)) * q3))), .slice I16 i16 j16])
                generalize (x1.alloc (.cells #[.bool (nOf (resN ((resN (p1 * q2 + p2 * q1) (q1 * q2)) * p3) ((resD (p1 * q2 + p2 * q1) (q1 * q2)) * q3))), .slice G16 g16 h16, .bool (nOf (resD ((resN (p1 * q2 + p2 * q1) (q1 * q2)) * p3) ((resD (p1 * q2 + p2 * q1) (q1 * q2)) * q3))), .slice I16 i16 j16] 37)) = W16 at *
                clear YS U4 V4
                obtain ⟨e0, e1, e2, e3⟩ := (RP.out _ K.out).2.2.2.2.2.2.1.c4
                obtain ⟨e4, e5, e6, e7⟩ := (RP.out _ K.out).2.2.2.2.2.2.2.1.c4
                obtain ⟨e8, e9, e10, e11⟩ := (RP.out _ K.out).2.2.2.2.2.2.2.2.c4
                go_wp2_with fail
                ((with_reducible refine (rmul_ok p1 q1 p3 q3 p1 q1 p3 q3 (resN (p1 * p3) (q1 * q3)) (resD (p1 * p3) (q1 * q3)) (resB (p1 * p3) (q1 * q3)) A1 B1 A3 B3 n1 c1 m1 d1 n3 c3 m3 d3 _ (RP.out _ K.out).1 (RP.out _ K.out).2.1 (RP.out _ K.out).2.2.2.2.1 (RP.out _ K.out).2.2.2.2.2.1 (fr_of F1.out).1 (fr_of F1.out).2 (fr_of F3.out).1 (fr_of F3.out).2 rfl rfl rfl).mono ?_); rintro e x2 ⟨G17, g17, h17, I17, i17, j17, rfl, hs, ht, hb⟩)
                clear e0 e1 e2 e3 e4 e5 e6 e7 e8 e9 e10 e11
                have BW := Lib.hid (below_on BW.out hb)
                have U16 := Lib.hid (U16.out.below hb)
                have V16 := Lib.hid (V16.out.below hb)
                have ZX := Lib.hid (ZX.out.below hb)
                have K := Lib.hid (RS.out _ _ K.out hb)
                clear hb
                have U17 := Lib.hid hs
                have V17 := Lib.hid ht
                clear hs ht
                obtain ⟨e0, e1, e2, e3⟩ := (RP.out _ K.out).2.2.2.2.2.2.1.c4
                obtain ⟨e4, e5, e6, e7⟩ := (RP.out _ K.out).2.2.2.2.2.2.2.1.c4
                obtain ⟨e8, e9, e10, e11⟩ := (RP.out _ K.out).2.2.2.2.2.2.2.2.c4
                go_upto_region 17 with fail
                clear e0 e1 e2 e3 e4 e5 e6 e7 e8 e9 e10 e11
                have K := Lib.hid (RS.out _ _ K.out ((Below.refl _ _).alloc (Nat.le_refl _) (.cells #[.bool (nOf (resN (p1 * p3) (q1 * q3))), .slice G17 g17 h17, .bool (nOf (resD (p1 * p3) (q1 * q3))), .slice I17 i17 j17] 37)))
                have ln15 := ZX.out.lt
                have BW := Lib.hid (BW.out.alloc BW.out.size (.cells #[.bool (nOf (resN (p1 * p3) (q1 * q3))), .slice G17 g17 h17, .bool (nOf (resD (p1 * p3) (q1 * q3))), .slice I17 i17 j17] 37))
                have U16 := Lib.hid (U16.out.alloc (.cells #[.bool (nOf (resN (p1 * p3) (q1 * q3))), .slice G17 g17 h17, .bool (nOf (resD (p1 * p3) (q1 * q3))), .slice I17 i17 j17] 37))
                have V16 := Lib.hid (V16.out.alloc (.cells #[.bool (nOf (resN (p1 * p3) (q1 * q3))), .slice G17 g17 h17, .bool (nOf (resD (p1 * p3) (q1 * q3))), .slice I17 i17 j17] 37))
                have ZX := Lib.hid (ZX.out.alloc (.cells #[.bool (nOf (resN (p1 * p3) (q1 * q3))), .slice G17 g17 h17, .bool (nOf (resD (p1 * p3) (q1 * q3))), .slice I17 i17 j17] 37))
                have U17 := Lib.hid (U17.out.alloc (.cells #[.bool (nOf (resN (p1 * p3) (q1 * q3))), .slice G17 g17 h17, .bool (nOf (resD (p1 * p3) (q1 * q3))), .slice I17 i17 j17] 37))
                have V17 := Lib.hid (V17.out.alloc (.cells #[.bool (nOf (resN (p1 * p3) (q1 * q3))), .slice G17 g17 h17, .bool (nOf (resD (p1 * p3) (q1 * q3))), .slice I17 i17 j17] 37))
                have ZY := Lib.hid (Bk.new 37 x2 #[.bool (nOf (resN (p1 * p3) (q1 * q3))), .slice G17 g17 h17, .bool (nOf (resD (p1 * p3) (q1 * q3))), .slice I17 i17 j17])
                generalize (x2.alloc (.cells #[.bool (nOf (resN (p1 * p3) (q1 * q3))), .slice G17 g17 h17, .bool (nOf (resD (p1 * p3) (q1 * q3))), .slice I17 i17 j17] 37)) = W17 at *
                obtain ⟨e0, e1, e2, e3⟩ := (RP.out _ K.out).2.2.2.2.2.2.1.c4
                obtain ⟨e4, e5, e6, e7⟩ := (RP.out _ K.out).2.2.2.2.2.2.2.1.c4
                obtain ⟨e8, e9, e10, e11⟩ := (RP.out _ K.out).2.2.2.2.2.2.2.2.c4
                go_wp2_with fail
                ((with_reducible refine (rmul_ok p2 q2 p3 q3 p2 q2 p3 q3 (resN (p2 * p3) (q2 * q3)) (resD (p2 * p3) (q2 * q3)) (resB (p2 * p3) (q2 * q3)) A2 B2 A3 B3 n2 c2 m2 d2 n3 c3 m3 d3 _ (RP.out _ K.out).2.2.1 (RP.out _ K.out).2.2.2.1 (RP.out _ K.out).2.2.2.2.1 (RP.out _ K.out).2.2.2.2.2.1 (fr_of F2.out).1 (fr_of F2.out).2 (fr_of F3.out).1 (fr_of F3.out).2 rfl rfl rfl).mono ?_); rintro e x3 ⟨G18, g18, h18, I18, i18, j18, rfl, hs, ht, hb⟩)
                clear e0 e1 e2 e3 e4 e5 e6 e7 e8 e9 e10 e11
                have BW := Lib.hid (below_on BW.out hb)
                have U16 := Lib.hid (U16.out.below hb)
                have V16 := Lib.hid (V16.out.below hb)
                have ZX := Lib.hid (ZX.out.below hb)
                have U17 := Lib.hid (U17.out.below hb)
                have V17 := Lib.hid (V17.out.below hb)
                have ZY := Lib.hid (ZY.out.below hb)
                have K := Lib.hid (RS.out _ _ K.out hb)
                clear hb
                have U18 := Lib.hid hs
                have V18 := Lib.hid ht
                clear hs ht
                obtain ⟨e0, e1, e2, e3⟩ := (RP.out _ K.out).2.2.2.2.2.2.1.c4
                obtain ⟨e4, e5, e6, e7⟩ := (RP.out _ K.out).2.2.2.2.2.2.2.1.c4
                obtain ⟨e8, e9, e10, e11⟩ := (RP.out _ K.out).2.2.2.2.2.2.2.2.c4
                go_upto_region 18 with fail
                clear e0 e1 e2 e3 e4 e5 e6 e7 e8 e9 e10 e11
                have K := Lib.hid (RS.out _ _ K.out ((Below.refl _ _).alloc (Nat.le_refl _) (.cells #[.bool (nOf (resN (p2 * p3) (q2 * q3))), .slice G18 g18 h18, .bool (nOf (resD (p2 * p3) (q2 * q3))), .slice I18 i18 j18] 37)))
                have ln16 := ZX.out.lt
                have ln17 := ZY.out.lt
                have BW := Lib.hid (BW.out.alloc BW.out.size (.cells #[.bool (nOf (resN (p2 * p3) (q2 * q3))), .slice G18 g18 h18, .bool (nOf (resD (p2 * p3) (q2 * q3))), .slice I18 i18 j18] 37))
                have U16 := Lib.hid (U16.out.alloc (.cells #[.bool (nOf (resN (p2 * p3) (q2 * q3))), .slice G18 g18 h18, .bool (nOf (resD (p2 * p3) (q2 * q3))), .slice I18 i18 j18] 37))
                have V16 := Lib.hid (V16.out.alloc (.cells #[.bool (nOf (resN (p2 * p3) (q2 * q3))), .slice G18 g18 h18, .bool (nOf (resD (p2 * p3) (q2 * q3))), .slice I18 i18 j18] 37))
                have ZX := Lib.hid (ZX.out.alloc (.cells #[.bool (nOf (resN (p2 * p3) (q2 * q3))), .slice G18 g18 h18, .bool (nOf (resD (p2 * p3) (q2 * q3))), .slice I18 i18 j18] 37))
                have U17 := Lib.hid (U17.out.alloc (.cells #[.bool (nOf (resN (p2 * p3) (q2 * q3))), .slice G18 g18 h18, .bool (nOf (resD (p2 * p3) (q2 * q3))), .slice I18 i18 j18] 37))
                have V17 := Lib.hid (V17.out.alloc (.cells #[.bool (nOf (resN (p2 * p3) (q2 * q3))), .slice G18 g18 h18, .bool (nOf (resD (p2 * p3) (q2 * q3))), .slice I18 i18 j18] 37))
                have ZY := Lib.hid (ZY.out.alloc (.cells #[.bool (nOf (resN (p2 * p3) (q2 * q3))), .slice G18 g18 h18, .bool (nOf (resD (p2 * p3) (q2 * q3))), .slice I18 i18 j18] 37))
                have U18 := Lib.hid (U18.out.alloc (.cells #[.bool (nOf (resN (p2 * p3) (q2 * q3))), .slice G18 g18 h18, .bool (nOf (resD (p2 * p3) (q2 * q3))), .slice I18 i18 j18] 37))
                have V18 := Lib.hid (V18.out.alloc (.cells #[.bool (nOf (resN (p2 * p3) (q2 * q3))), .slice G18 g18 h18, .bool (nOf (resD (p2 * p3) (q2 * q3))), .slice I18 i18 j18] 37))
                have ZZ := Lib.hid (Bk.new 37 x3 #[.bool (nOf (resN (p2 * p3) (q2 * q3))), .slice G18 g18 h18, .bool (nOf (resD (p2 * p3) (q2 * q3))), .slice I18 i18 j18])
                generalize (x3.alloc (.cells #[.bool (nOf (resN (p2 * p3) (q2 * q3))), .slice G18 g18 h18, .bool (nOf (resD (p2 * p3) (q2 * q3))), .slice I18 i18 j18] 37)) = W18 at *
                rcases Bool.eq_false_or_eq_true (resB ((resN (p1 * q2 + p2 * q1) (q1 * q2)) * p3) ((resD (p1 * q2 + p2 * q1) (q1 * q2)) * q3)) with z1 | z1
                · have Z1 := Lib.hid z1
                  rw [z1]
                  clear z1
                  rcases Bool.eq_false_or_eq_true (resB (p1 * p3) (q1 * q3)) with z2 | z2
                  · have Z2 := Lib.hid z2
                    rw [z2]
                    clear z2
                    rcases Bool.eq_false_or_eq_true (resB (p2 * p3) (q2 * q3)) with z3 | z3
                    · have Z3 := Lib.hid z3
                      rw [z3]
                      clear z3
                      have DI := Lib.hid (dist F1.out.pos F2.out.pos F3.out.pos HB1.out Z2.out Z3.out)
                      obtain ⟨e0, e1, e2, e3⟩ := ZY.out.c4
                      obtain ⟨e4, e5, e6, e7⟩ := ZZ.out.c4
                      go_wp2_with fail
                      ((with_reducible refine (radd_ok (resN (p1 * p3) (q1 * q3)) (resD (p1 * p3) (q1 * q3)) (resN (p2 * p3) (q2 * q3)) (resD (p2 * p3) (q2 * q3)) (resN (p1 * p3) (q1 * q3)) (resD (p1 * p3) (q1 * q3)) (resN (p2 * p3) (q2 * q3)) (resD (p2 * p3) (q2 * q3)) (resN ((resN (p1 * q2 + p2 * q1) (q1 * q2)) * p3) ((resD (p1 * q2 + p2 * q1) (q1 * q2)) * q3)) (resD ((resN (p1 * q2 + p2 * q1) (q1 * q2)) * p3) ((resD (p1 * q2 + p2 * q1) (q1 * q2)) * q3)) true G17 I17 G18 I18 g17 h17 i17 j17 g18 h18 i18 j18 _ U17.out V17.out U18.out V18.out (fr_of (Fr.res Z2.out)).1 (fr_of (Fr.res Z2.out)).2 (fr_of (Fr.res Z3.out)).1 (fr_of (Fr.res Z3.out)).2 DI.out.1 DI.out.2.1 (DI.out.2.2.trans Z1.out)).mono ?_); rintro e x4 ⟨G19, g19, h19, I19, i19, j19, rfl, hs, ht, hb⟩)
                      clear e0 e1 e2 e3 e4 e5 e6 e7
                      have BW := Lib.hid (below_on BW.out hb)
                      have U16 := Lib.hid (U16.out.below hb)
                      have V16 := Lib.hid (V16.out.below hb)
                      have ZX := Lib.hid (ZX.out.below hb)
                      have U17 := Lib.hid (U17.out.below hb)
                      have V17 := Lib.hid (V17.out.below hb)
                      have ZY := Lib.hid (ZY.out.below hb)
                      have U18 := Lib.hid (U18.out.below hb)
                      have V18 := Lib.hid (V18.out.below hb)
                      have ZZ := Lib.hid (ZZ.out.below hb)
                      have K := Lib.hid (RS.out _ _ K.out hb)
                      clear hb
                      have U19 := Lib.hid hs
                      have V19 := Lib.hid ht
                      clear hs ht
                      obtain ⟨e0, e1, e2, e3⟩ := ZY.out.c4
                      obtain ⟨e4, e5, e6, e7⟩ := ZZ.out.c4
                      go_upto_region 19 with fail
                      clear e0 e1 e2 e3 e4 e5 e6 e7
                      have K := Lib.hid (RS.out _ _ K.out ((Below.refl _ _).alloc (Nat.le_refl _) (.cells #[.bool (nOf (resN ((resN (p1 * q2 + p2 * q1) (q1 * q2)) * p3) ((resD (p1 * q2 + p2 * q1) (q1 * q2)) * q3))), .slice G19 g19 h19, .bool (nOf (resD ((resN (p1 * q2 + p2 * q1) (q1 * q2)) * p3) ((resD (p1 * q2 + p2 * q1) (q1 * q2)) * q3))), .slice I19 i19 j19] 37)))
                      have ln18 := ZX.out.lt
                      have ln19 := ZY.out.lt
                      have ln20 := ZZ.out.lt
                      have BW := Lib.hid (BW.out.alloc BW.out.size (.cells #[.bool (nOf (resN ((resN (p1 * q2 + p2 * q1) (q1 * q2)) * p3) ((resD (p1 * q2 + p2 * q1) (q1 * q2)) * q3))), .slice G19 g19 h19, .bool (nOf (resD ((resN (p1 * q2 + p2 * q1) (q1 * q2)) * p3) ((resD (p1 * q2 + p2 * q1) (q1 * q2)) * q3))), .slice I19 i19 j19] 37))
                      have U16 := Lib.hid (U16.out.alloc (.cells #[.bool (nOf (resN ((resN (p1 * q2 + p2 * q1) (q1 * q2)) * p3) ((resD (p1 * q2 + p2 * q1) (q1 * q2)) * q3))), .slice G19 g19 h19, .bool (nOf (resD ((resN (p1 * q2 + p2 * q1) (q1 * q2)) * p3) ((resD (p1 * q2 + p2 * q1) (q1 * q2)) * q3))), .slice I19 i19 j19] 37))
                      have V16 := Lib.hid (V16.out.alloc (.cells #[.bool (nOf (resN ((resN (p1 * q2 + p2 * q1) (q1 * q2)) * p3) ((resD (p1 * q2 + p2 * q1) (q1 * q2)) * q3))), .slice G19 g19 h19, .bool (nOf (resD ((resN (p1 * q2 + p2 * q1) (q1 * q2)) * p3) ((resD (p1 * q2 + p2 * q1) (q1 * q2)) * q3))), .slice I19 i19 j19] 37))
                      have ZX := Lib.hid (ZX.out.alloc (.cells #[.bool (nOf (resN ((resN (p1 * q2 + p2 * q1) (q1 * q2)) * p3) ((resD (p1 * q2 + p2 * q1) (q1 * q2)) * q3))), .slice G19 g19 h19, .bool (nOf (resD ((resN (p1 * q2 + p2 * q1) (q1 * q2)) * p3) ((resD (p1 * q2 + p2 * q1) (q1 * q2)) * q3))), .slice I19 i19 j19] 37))
                      have U17 := Lib.hid (U17.out.alloc (.cells #[.bool (nOf (resN ((resN (p1 * q2 + p2 * q1) (q1 * q2)) * p3) ((resD (p1 * q2 + p2 * q1) (q1 * q2)) * q3))), .slice G19 g19 h19, .bool (nOf (resD ((resN (p1 * q2 + p2 * q1) (q1 * q2)) * p3) ((resD (p1 * q2 + p2 * q1) (q1 * q2)) * q3))), .slice I19 i19 j19] 37))
                      have V17 := Lib.hid (V17.out.alloc (.cells #[.bool (nOf (resN ((resN (p1 * q2 + p2 * q1) (q1 * q2)) * p3) ((resD (p1 * q2 + p2 * q1) (q1 * q2)) * q3))), .slice G19 g19 h19, .bool (nOf (resD ((resN (p1 * q2 + p2 * q1) (q1 * q2)) * p3) ((resD (p1 * q2 + p2 * q1) (q1 * q2)) * q3))), .slice I19 i19 j19] 37))
                      have ZY := Lib.hid (ZY.out.alloc (.cells #[.bool (nOf (resN ((resN (p1 * q2 + p2 * q1) (q1 * q2)) * p3) ((resD (p1 * q2 + p2 * q1) (q1 * q2)) * q3))), .slice G19 g19 h19, .bool (nOf (resD ((resN (p1 * q2 + p2 * q1) (q1 * q2)) * p3) ((resD (p1 * q2 + p2 * q1) (q1 * q2)) * q3))), .slice I19 i19 j19] 37))
                      have U18 := Lib.hid (U18.out.alloc (.cells #[.bool (nOf (resN ((resN (p1 * q2 + p2 * q1) (q1 * q2)) * p3) ((resD (p1 * q2 + p2 * q1) (q1 * q2)) * q3))), .slice G19 g19 h19, .bool (nOf (resD ((resN (p1 * q2 + p2 * q1) (q1 * q2)) * p3) ((resD (p1 * q2 + p2 * q1) (q1 * q2)) * q3))), .slice I19 i19 j19] 37))
                      have V18 := Lib.hid (V18.out.alloc (.cells #[.bool (nOf (resN ((resN (p1 * q2 + p2 * q1) (q1 * q2)) * p3) ((resD (p1 * q2 + p2 * q1) (q1 * q2)) * q3))), .slice G19 g19 h19, .bool (nOf (resD ((resN (p1 * q2 + p2 * q1) (q1 * q2)) * p3) ((resD (p1 * q2 + p2 * q1) (q1 * q2)) * q3))), .slice I19 i19 j19] 37))
                      have ZZ := Lib.hid (ZZ.out.alloc (.cells #[.bool (nOf (resN ((resN (p1 * q2 + p2 * q1) (q1 * q2)) * p3) ((resD (p1 * q2 + p2 * q1) (q1 * q2)) * q3))), .slice G19 g19 h19, .bool (nOf (resD ((resN (p1 * q2 + p2 * q1) (q1 * q2)) * p3) ((resD (p1 * q2 + p2 * q1) (q1 * q2)) * q3))), .slice I19 i19 j19] 37))
                      have U19 := Lib.hid (U19.out.alloc (.cells #[.bool (nOf (resN ((resN (p1 * q2 + p2 * q1) (q1 * q2)) * p3) ((resD (p1 * q2 + p2 * q1) (q1 * q2)) * q3))), .slice G19 g19 h19, .bool (nOf (resD ((resN (p1 * q2 + p2 * q1) (q1 * q2)) * p3) ((resD (p1 * q2 + p2 * q1) (q1 * q2)) * q3))), .slice I19 i19 j19] 37))
                      have V19 := Lib.hid (V19.out.alloc (.cells #[.bool (nOf (resN ((resN (p1 * q2 + p2 * q1) (q1 * q2)) * p3) ((resD (p1 * q2 + p2 * q1) (q1 * q2)) * q3))), .slice G19 g19 h19, .bool (nOf (resD ((resN (p1 * q2 + p2 * q1) (q1 * q2)) * p3) ((resD (p1 * q2 + p2 * q1) (q1 * q2)) * q3))), .slice I19 i19 j19] 37))
                      have ZW := Lib.hid (Bk.new 37 x4 #[.bool (nOf (resN ((resN (p1 * q2 + p2 * q1) (q1 * q2)) * p3) ((resD (p1 * q2 + p2 * q1) (q1 * q2)) * q3))), .slice G19 g19 h19, .bool (nOf (resD ((resN (p1 * q2 + p2 * q1) (q1 * q2)) * p3) ((resD (p1 * q2 + p2 * q1) (q1 * q2)) * q3))), .slice I19 i19 j19])
                      generalize (x4.alloc (.cells #[.bool (nOf (resN ((resN (p1 * q2 + p2 * q1) (q1 * q2)) * p3) ((resD (p1 * q2 + p2 * q1) (q1 * q2)) * q3))), .slice G19 g19 h19, .bool (nOf (resD ((resN (p1 * q2 + p2 * q1) (q1 * q2)) * p3) ((resD (p1 * q2 + p2 * q1) (q1 * q2)) * q3))), .slice I19 i19 j19] 37)) = W19 at *
                      obtain ⟨e0, e1, e2, e3⟩ := ZX.out.c4
                      obtain ⟨e4, e5, e6, e7⟩ := ZW.out.c4
                      go_wp2_with fail
                      ((with_reducible refine (samer_ok (resN ((resN (p1 * q2 + p2 * q1) (q1 * q2)) * p3) ((resD (p1 * q2 + p2 * q1) (q1 * q2)) * q3)) (resD ((resN (p1 * q2 + p2 * q1) (q1 * q2)) * p3) ((resD (p1 * q2 + p2 * q1) (q1 * q2)) * q3)) (resN ((resN (p1 * q2 + p2 * q1) (q1 * q2)) * p3) ((resD (p1 * q2 + p2 * q1) (q1 * q2)) * q3)) (resD ((resN (p1 * q2 + p2 * q1) (q1 * q2)) * p3) ((resD (p1 * q2 + p2 * q1) (q1 * q2)) * q3)) G16 I16 G19 I19 g16 h16 i16 j16 g19 h19 i19 j19 _ U16.out V16.out U19.out V19.out rfl rfl).mono ?_); rintro e x5 ⟨rfl, hb⟩)
                      clear e0 e1 e2 e3 e4 e5 e6 e7
                      have BW := Lib.hid (below_on BW.out hb)
                      have U16 := Lib.hid (U16.out.below hb)
                      have V16 := Lib.hid (V16.out.below hb)
                      have ZX := Lib.hid (ZX.out.below hb)
                      have U17 := Lib.hid (U17.out.below hb)
                      have V17 := Lib.hid (V17.out.below hb)
                      have ZY := Lib.hid (ZY.out.below hb)
                      have U18 := Lib.hid (U18.out.below hb)
                      have V18 := Lib.hid (V18.out.below hb)
                      have ZZ := Lib.hid (ZZ.out.below hb)
                      have U19 := Lib.hid (U19.out.below hb)
                      have V19 := Lib.hid (V19.out.below hb)
                      have ZW := Lib.hid (ZW.out.below hb)
                      have K := Lib.hid (RS.out _ _ K.out hb)
                      clear hb
                      go_wp2_with fail
                      go_ret
                      exact ⟨rfl, BW.out⟩
                    · rw [z3]
                      clear z3
                      obtain ⟨e0, e1, e2, e3⟩ := ZY.out.c4
                      obtain ⟨e4, e5, e6, e7⟩ := ZZ.out.c4
                      go_wp2_with fail
                      ((with_reducible refine (radd_some (resN (p1 * p3) (q1 * q3)) (resD (p1 * p3) (q1 * q3)) (resN (p2 * p3) (q2 * q3)) (resD (p2 * p3) (q2 * q3)) G17 I17 G18 I18 g17 h17 i17 j17 g18 h18 i18 j18 _ U17.out V17.out U18.out V18.out).mono ?_); rintro e x4 ⟨N19, D19, b19, G19, g19, h19, I19, i19, j19, rfl, hs, ht, hb⟩)
                      clear e0 e1 e2 e3 e4 e5 e6 e7
                      have BW := Lib.hid (below_on BW.out hb)
                      have U16 := Lib.hid (U16.out.below hb)
                      have V16 := Lib.hid (V16.out.below hb)
                      have ZX := Lib.hid (ZX.out.below hb)
                      have U17 := Lib.hid (U17.out.below hb)
                      have V17 := Lib.hid (V17.out.below hb)
                      have ZY := Lib.hid (ZY.out.below hb)
                      have U18 := Lib.hid (U18.out.below hb)
                      have V18 := Lib.hid (V18.out.below hb)
                      have ZZ := Lib.hid (ZZ.out.below hb)
                      have K := Lib.hid (RS.out _ _ K.out hb)
                      clear hb
                      have U19 := Lib.hid hs
                      have V19 := Lib.hid ht
                      clear hs ht
                      obtain ⟨e0, e1, e2, e3⟩ := ZY.out.c4
                      obtain ⟨e4, e5, e6, e7⟩ := ZZ.out.c4
                      go_upto_region 19 with fail
                      clear e0 e1 e2 e3 e4 e5 e6 e7
                      have K := Lib.hid (RS.out _ _ K.out ((Below.refl _ _).alloc (Nat.le_refl _) (.cells #[.bool (nOf (N19)), .slice G19 g19 h19, .bool (nOf (D19)), .slice I19 i19 j19] 37)))
                      have ln18 := ZX.out.lt
                      have ln19 := ZY.out.lt
                      have ln20 := ZZ.out.lt
                      have BW := Lib.hid (BW.out.alloc BW.out.size (.cells #[.bool (nOf (N19)), .slice G19 g19 h19, .bool (nOf (D19)), .slice I19 i19 j19] 37))
                      have U16 := Lib.hid (U16.out.alloc (.cells #[.bool (nOf (N19)), .slice G19 g19 h19, .bool (nOf (D19)), .slice I19 i19 j19] 37))
                      have V16 := Lib.hid (V16.out.alloc (.cells #[.bool (nOf (N19)), .slice G19 g19 h19, .bool (nOf (D19)), .slice I19 i19 j19] 37))
                      have ZX := Lib.hid (ZX.out.alloc (.cells #[.bool (nOf (N19)), .slice G19 g19 h19, .bool (nOf (D19)), .slice I19 i19 j19] 37))
                      have U17 := Lib.hid (U17.out.alloc (.cells #[.bool (nOf (N19)), .slice G19 g19 h19, .bool (nOf (D19)), .slice I19 i19 j19] 37))
                      have V17 := Lib.hid (V17.out.alloc (.cells #[.bool (nOf (N19)), .slice G19 g19 h19, .bool (nOf (D19)), .slice I19 i19 j19] 37))
                      have ZY := Lib.hid (ZY.out.alloc (.cells #[.bool (nOf (N19)), .slice G19 g19 h19, .bool (nOf (D19)), .slice I19 i19 j19] 37))
                      have U18 := Lib.hid (U18.out.alloc (.cells #[.bool (nOf (N19)), .slice G19 g19 h19, .bool (nOf (D19)), .slice I19 i19 j19] 37))
                      have V18 := Lib.hid (V18.out.alloc (.cells #[.bool (nOf (N19)), .slice G19 g19 h19, .bool (nOf (D19)), .slice I19 i19 j19] 37))
                      have ZZ := Lib.hid (ZZ.out.alloc (.cells #[.bool (nOf (N19)), .slice G19 g19 h19, .bool (nOf (D19)), .slice I19 i19 j19] 37))
                      have U19 := Lib.hid (U19.out.alloc (.cells #[.bool (nOf (N19)), .slice G19 g19 h19, .bool (nOf (D19)), .slice I19 i19 j19] 37))
                      have V19 := Lib.hid (V19.out.alloc (.cells #[.bool (nOf (N19)), .slice G19 g19 h19, .bool (nOf (D19)), .slice I19 i19 j19] 37))
                      have ZW := Lib.hid (Bk.new 37 x4 #[.bool (nOf (N19)), .slice G19 g19 h19, .bool (nOf (D19)), .slice I19 i19 j19])
                      generalize (x4.alloc (.cells #[.bool (nOf (N19)), .slice G19 g19 h19, .bool (nOf (D19)), .slice I19 i19 j19] 37)) = W19 at *
                      go_wp2_with fail
                      go_ret
                      exact ⟨rfl, BW.out⟩
                  · rw [z2]
                    clear z2
                    obtain ⟨e0, e1, e2, e3⟩ := ZY.out.c4
                    obtain ⟨e4, e5, e6, e7⟩ := ZZ.out.c4
                    go_wp2_with fail
                    ((with_reducible refine (radd_some (resN (p1 * p3) (q1 * q3)) (resD (p1 * p3) (q1 * q3)) (resN (p2 * p3) (q2 * q3)) (resD (p2 * p3) (q2 * q3)) G17 I17 G18 I18 g17 h17 i17 j17 g18 h18 i18 j18 _ U17.out V17.out U18.out V18.out).mono ?_); rintro e x4 ⟨N19, D19, b19, G19, g19, h19, I19, i19, j19, rfl, hs, ht, hb⟩)
                    clear e0 e1 e2 e3 e4 e5 e6 e7
                    have BW := Lib.hid (below_on BW.out hb)
                    have U16 := Lib.hid (U16.out.below hb)
                    have V16 := Lib.hid (V16.out.below hb)
                    have ZX := Lib.hid (ZX.out.below hb)
                    have U17 := Lib.hid (U17.out.below hb)
                    have V17 := Lib.hid (V17.out.below hb)
                    have ZY := Lib.hid (ZY.out.below hb)
                    have U18 := Lib.hid (U18.out.below hb)
                    have V18 := Lib.hid (V18.out.below hb)
                    have ZZ := Lib.hid (ZZ.out.below hb)
                    have K := Lib.hid (RS.out _ _ K.out hb)
                    clear hb
                    have U19 := Lib.hid hs
                    have V19 := Lib.hid ht
                    clear hs ht
                    obtain ⟨e0, e1, e2, e3⟩ := ZY.out.c4
                    obtain ⟨e4, e5, e6, e7⟩ := ZZ.out.c4
                    go_upto_region 19 with fail
                    clear e0 e1 e2 e3 e4 e5 e6 e7
                    have K := Lib.hid (RS.out _ _ K.out ((Below.refl _ _).alloc (Nat.le_refl _) (.cells #[.bool (nOf (N19)), .slice G19 g19 h19, .bool (nOf (D19)), .slice I19 i19 j19] 37)))
                    have ln18 := ZX.out.lt
                    have ln19 := ZY.out.lt
                    have ln20 := ZZ.out.lt
                    have BW := Lib.hid (BW.out.alloc BW.out.size (.cells #[.bool (nOf (N19)), .slice G19 g19 h19, .bool (nOf (D19)), .slice I19 i19 j19] 37))
                    have U16 := Lib.hid (U16.out.alloc (.cells #[.bool (nOf (N19)), .slice G19 g19 h19, .bool (nOf (D19)), .slice I19 i19 j19] 37))
                    have V16 := Lib.hid (V16.out.alloc (.cells #[.bool (nOf (N19)), .slice G19 g19 h19, .bool (nOf (D19)), .slice I19 i19 j19] 37))
                    have ZX := Lib.hid (ZX.out.alloc (.cells #[.bool (nOf (N19)), .slice G19 g19 h19, .bool (nOf (D19)), .slice I19 i19 j19] 37))
                    have U17 := Lib.hid (U17.out.alloc (.cells #[.bool (nOf (N19)), .slice G19 g19 h19, .bool (nOf (D19)), .slice I19 i19 j19] 37))
                    have V17 := Lib.hid (V17.out.alloc (.cells #[.bool (nOf (N19)), .slice G19 g19 h19, .bool (nOf (D19)), .slice I19 i19 j19] 37))
                    have ZY := Lib.hid (ZY.out.alloc (.cells #[.bool (nOf (N19)), .slice G19 g19 h19, .bool (nOf (D19)), .slice I19 i19 j19] 37))
                    have U18 := Lib.hid (U18.out.alloc (.cells #[.bool (nOf (N19)), .slice G19 g19 h19, .bool (nOf (D19)), .slice I19 i19 j19] 37))
                    have V18 := Lib.hid (V18.out.alloc (.cells #[.bool (nOf (N19)), .slice G19 g19 h19, .bool (nOf (D19)), .slice I19 i19 j19] 37))
                    have ZZ := Lib.hid (ZZ.out.alloc (.cells #[.bool (nOf (N19)), .slice G19 g19 h19, .bool (nOf (D19)), .slice I19 i19 j19] 37))
                    have U19 := Lib.hid (U19.out.alloc (.cells #[.bool (nOf (N19)), .slice G19 g19 h19, .bool (nOf (D19)), .slice I19 i19 j19] 37))
                    have V19 := Lib.hid (V19.out.alloc (.cells #[.bool (nOf (N19)), .slice G19 g19 h19, .bool (nOf (D19)), .slice I19 i19 j19] 37))
                    have ZW := Lib.hid (Bk.new 37 x4 #[.bool (nOf (N19)), .slice G19 g19 h19, .bool (nOf (D19)), .slice I19 i19 j19])
                    generalize (x4.alloc (.cells #[.bool (nOf (N19)), .slice G19 g19 h19, .bool (nOf (D19)), .slice I19 i19 j19] 37)) = W19 at *
                    go_wp2_with fail
                    go_ret
                    exact ⟨rfl, BW.out⟩
                · rw [z1]
                  clear z1
                  obtain ⟨e0, e1, e2, e3⟩ := ZY.out.c4
                  obtain ⟨e4, e5, e6, e7⟩ := ZZ.out.c4
                  go_wp2_with fail
                  ((with_reducible refine (radd_some (resN (p1 * p3) (q1 * q3)) (resD (p1 * p3) (q1 * q3)) (resN (p2 * p3) (q2 * q3)) (resD (p2 * p3) (q2 * q3)) G17 I17 G18 I18 g17 h17 i17 j17 g18 h18 i18 j18 _ U17.out V17.out U18.out V18.out).mono ?_); rintro e x4 ⟨N19, D19, b19, G19, g19, h19, I19, i19, j19, rfl, hs, ht, hb⟩)
                  clear e0 e1 e2 e3 e4 e5 e6 e7
                  have BW := Lib.hid (below_on BW.out hb)
                  have U16 := Lib.hid (U16.out.below hb)
                  have V16 := Lib.hid (V16.out.below hb)
                  have ZX := Lib.hid (ZX.out.below hb)
                  have U17 := Lib.hid (U17.out.below hb)
                  have V17 := Lib.hid (V17.out.below hb)
                  have ZY := Lib.hid (ZY.out.below hb)
                  have U18 := Lib.hid (U18.out.below hb)
                  have V18 := Lib.hid (V18.out.below hb)
                  have ZZ := Lib.hid (ZZ.out.below hb)
                  have K := Lib.hid (RS.out _ _ K.out hb)
                  clear hb
                  have U19 := Lib.hid hs
                  have V19 := Lib.hid ht
                  clear hs ht
                  obtain ⟨e0, e1, e2, e3⟩ := ZY.out.c4
                  obtain ⟨e4, e5, e6, e7⟩ := ZZ.out.c4
                  go_upto_region 19 with fail
                  clear e0 e1 e2 e3 e4 e5 e6 e7
                  have K := Lib.hid (RS.out _ _ K.out ((Below.refl _ _).alloc (Nat.le_refl _) (.cells #[.bool (nOf (N19)), .slice G19 g19 h19, .bool (nOf (D19)), .slice I19 i19 j19] 37)))
                  have ln18 := ZX.out.lt
                  have ln19 := ZY.out.lt
                  have ln20 := ZZ.out.lt
                  have BW := Lib.hid (BW.out.alloc BW.out.size (.cells #[.bool (nOf (N19)), .slice G19 g19 h19, .bool (nOf (D19)), .slice I19 i19 j19] 37))
                  have U16 := Lib.hid (U16.out.alloc (.cells #[.bool (nOf (N19)), .slice G19 g19 h19, .bool (nOf (D19)), .slice I19 i19 j19] 37))
                  have V16 := Lib.hid (V16.out.alloc (.cells #[.bool (nOf (N19)), .slice G19 g19 h19, .bool (nOf (D19)), .slice I19 i19 j19] 37))
                  have ZX := Lib.hid (ZX.out.alloc (.cells #[.bool (nOf (N19)), .slice G19 g19 h19, .bool (nOf (D19)), .slice I19 i19 j19] 37))
                  have U17 := Lib.hid (U17.out.alloc (.cells #[.bool (nOf (N19)), .slice G19 g19 h19, .bool (nOf (D19)), .slice I19 i19 j19] 37))
                  have V17 := Lib.hid (V17.out.alloc (.cells #[.bool (nOf (N19)), .slice G19 g19 h19, .bool (nOf (D19)), .slice I19 i19 j19] 37))
                  have ZY := Lib.hid (ZY.out.alloc (.cells #[.bool (nOf (N19)), .slice G19 g19 h19, .bool (nOf (D19)), .slice I19 i19 j19] 37))
                  have U18 := Lib.hid (U18.out.alloc (.cells #[.bool (nOf (N19)), .slice G19 g19 h19, .bool (nOf (D19)), .slice I19 i19 j19] 37))
                  have V18 := Lib.hid (V18.out.alloc (.cells #[.bool (nOf (N19)), .slice G19 g19 h19, .bool (nOf (D19)), .slice I19 i19 j19] 37))
                  have ZZ := Lib.hid (ZZ.out.alloc (.cells #[.bool (nOf (N19)), .slice G19 g19 h19, .bool (nOf (D19)), .slice I19 i19 j19] 37))
                  have U19 := Lib.hid (U19.out.alloc (.cells #[.bool (nOf (N19)), .slice G19 g19 h19, .bool (nOf (D19)), .slice I19 i19 j19] 37))
                  have V19 := Lib.hid (V19.out.alloc (.cells #[.bool (nOf (N19)), .slice G19 g19 h19, .bool (nOf (D19)), .slice I19 i19 j19] 37))
                  have ZW := Lib.hid (Bk.new 37 x4 #[.bool (nOf (N19)), .slice G19 g19 h19, .bool (nOf (D19)), .slice I19 i19 j19])
                  generalize (x4.alloc (.cells #[.bool (nOf (N19)), .slice G19 g19 h19, .bool (nOf (D19)), .slice I19 i19 j19] 37)) = W19 at *
                  go_wp2_with fail
                  go_ret
                  exact ⟨rfl, BW.out⟩
              · have hn : 0 < n2 := by
                  rcases Nat.eq_zero_or_pos n2 with h | h
                  · exact absurd (lOf_nil.1 (List.eq_nil_of_length_eq_zero (((RP.out _ K.out).2.2.1).len.trans h))) h0
                  · exact h
                have DV := Lib.hid (div_mul F1.out h0 HB2.out)
                have FP := Lib.hid (Fr.res HB2.out)
                clear h0
                obtain ⟨e0, e1, e2, e3⟩ := YP.out.c4
                obtain ⟨e4, e5, e6, e7⟩ := (RP.out _ K.out).2.2.2.2.2.2.2.1.c4
                go_wp2_with fail
                ((with_reducible refine (rdiv_ok (resN (p1 * p2) (q1 * q2)) (resD (p1 * p2) (q1 * q2)) p2 q2 (resN (p1 * p2) (q1 * q2)) (resD (p1 * p2) (q1 * q2)) p2 q2 p1 q1 true G6 I6 A2 B2 g6 h6 i6 j6 n2 c2 m2 d2 _ U6.out V6.out (RP.out _ K.out).2.2.1 (RP.out _ K.out).2.2.2.1 (fr_of FP.out).1 (fr_of FP.out).2 (fr_of F2.out).1 (fr_of F2.out).2 DV.out.1 DV.out.2.1 DV.out.2.2).mono ?_); rintro e y1 ⟨G13, g13, h13, I13, i13, j13, rfl, hs, ht, hb⟩)
                clear e0 e1 e2 e3 e4 e5 e6 e7
                have BW := Lib.hid (below_on BW.out hb)
                have U4 := Lib.hid (U4.out.below hb)
                have V4 := Lib.hid (V4.out.below hb)
                have YS := Lib.hid (YS.out.below hb)
                have U6 := Lib.hid (U6.out.below hb)
                have V6 := Lib.hid (V6.out.below hb)
                have YP := Lib.hid (YP.out.below hb)
                have K := Lib.hid (RS.out _ _ K.out hb)
                clear hb
                have U13 := Lib.hid hs
                have V13 := Lib.hid ht
                clear hs ht
                obtain ⟨e0, e1, e2, e3⟩ := YP.out.c4
                obtain ⟨e4, e5, e6, e7⟩ := (RP.out _ K.out).2.2.2.2.2.2.2.1.c4
                go_upto_region 13 with fail
                clear e0 e1 e2 e3 e4 e5 e6 e7
                have K := Lib.hid (RS.out _ _ K.out ((Below.refl _ _).alloc (Nat.le_refl _) (.cells #[.bool (nOf (p1)), .slice G13 g13 h13, .bool (nOf (q1)), .slice I13 i13 j13] 37)))
                have ln12 := YS.out.lt
                have ln13 := YP.out.lt
                have BW := Lib.hid (BW.out.alloc BW.out.size (.cells #[.bool (nOf (p1)), .slice G13 g13 h13, .bool (nOf (q1)), .slice I13 i13 j13] 37))
                have U4 := Lib.hid (U4.out.alloc (.cells #[.bool (nOf (p1)), .slice G13 g13 h13, .bool (nOf (q1)), .slice I13 i13 j13] 37))
                have V4 := Lib.hid (V4.out.alloc (.cells #[.bool (nOf (p1)), .slice G13 g13 h13, .bool (nOf (q1)), .slice I13 i13 j13] 37))
                have YS := Lib.hid (YS.out.alloc (.cells #[.bool (nOf (p1)), .slice G13 g13 h13, .bool (nOf (q1)), .slice I13 i13 j13] 37))
                have U6 := Lib.hid (U6.out.alloc (.cells #[.bool (nOf (p1)), .slice G13 g13 h13, .bool (nOf (q1)), .slice I13 i13 j13] 37))
                have V6 := Lib.hid (V6.out.alloc (.cells #[.bool (nOf (p1)), .slice G13 g13 h13, .bool (nOf (q1)), .slice I13 i13 j13] 37))
                have YP := Lib.hid (YP.out.alloc (.cells #[.bool (nOf (p1)), .slice G13 g13 h13, .bool (nOf (q1)), .slice I13 i13 j13] 37))
                have U13 := Lib.hid (U13.out.alloc (.cells #[.bool (nOf (p1)), .slice G13 g13 h13, .bool (nOf (q1)), .slice I13 i13 j13] 37))
                have V13 := Lib.hid (V13.out.alloc (.cells #[.bool (nOf (p1)), .slice G13 g13 h13, .bool (nOf (q1)), .slice I13 i13 j13] 37))
                have YE := Lib.hid (Bk.new 37 y1 #[.bool (nOf (p1)), .slice G13 g13 h13, .bool (nOf (q1)), .slice I13 i13 j13])
                generalize (y1.alloc (.cells #[.bool (nOf (p1)), .slice G13 g13 h13, .bool (nOf (q1)), .slice I13 i13 j13] 37)) = W13 at *
                clear YP U6 V6
                obtain ⟨e0, e1, e2, e3⟩ := (RP.out _ K.out).2.2.2.2.2.2.2.1.c4
                obtain ⟨e4, e5, e6, e7⟩ := YE.out.c4
                obtain ⟨e8, e9, e10, e11⟩ := (RP.out _ K.out).2.2.2.2.2.2.1.c4
                go_wp2_with fail
                ((with_reducible refine (samer_ok p1 q1 p1 q1 G13 I13 A1 B1 g13 h13 i13 j13 n1 c1 m1 d1 _ U13.out V13.out (RP.out _ K.out).1 (RP.out _ K.out).2.1 rfl rfl).mono ?_); rintro e y2 ⟨rfl, hb⟩)
                clear e0 e1 e2 e3 e4 e5 e6 e7 e8 e9 e10 e11
                have BW := Lib.hid (below_on BW.out hb)
                have U4 := Lib.hid (U4.out.below hb)
                have V4 := Lib.hid (V4.out.below hb)
                have YS := Lib.hid (YS.out.below hb)
                have U13 := Lib.hid (U13.out.below hb)
                have V13 := Lib.hid (V13.out.below hb)
                have YE := Lib.hid (YE.out.below hb)
                have K := Lib.hid (RS.out _ _ K.out hb)
                clear hb
                clear YE U13 V13
                go_upto_region 15 with fail
                obtain ⟨e0, e1, e2, e3⟩ := YS.out.c4
                obtain ⟨e4, e5, e6, e7⟩ := (RP.out _ K.out).2.2.2.2.2.2.1.c4
                obtain ⟨e8, e9, e10, e11⟩ := (RP.out _ K.out).2.2.2.2.2.2.2.1.c4
                obtain ⟨e12, e13, e14, e15⟩ := (RP.out _ K.out).2.2.2.2.2.2.2.2.c4
                go_wp2_with fail
                ((with_reducible refine (rmul_ok (resN (p1 * q2 + p2 * q1) (q1 * q2)) (resD (p1 * q2 + p2 * q1) (q1 * q2)) p3 q3 (resN (p1 * q2 + p2 * q1) (q1 * q2)) (resD (p1 * q2 + p2 * q1) (q1 * q2)) p3 q3 (resN ((resN (p1 * q2 + p2 * q1) (q1 * q2)) * p3) ((resD (p1 * q2 + p2 * q1) (q1 * q2)) * q3)) (resD ((resN (p1 * q2 + p2 * q1) (q1 * q2)) * p3) ((resD (p1 * q2 + p2 * q1) (q1 * q2)) * q3)) (resB ((resN (p1 * q2 + p2 * q1) (q1 * q2)) * p3) ((resD (p1 * q2 + p2 * q1) (q1 * q2)) * q3)) G4 I4 A3 B3 g4 h4 i4 j4 n3 c3 m3 d3 _ U4.out V4.out (RP.out _ K.out).2.2.2.2.1 (RP.out _ K.out).2.2.2.2.2.1 (fr_of FS.out).1 (fr_of FS.out).2 (fr_of F3.out).1 (fr_of F3.out).2 rfl rfl rfl).mono ?_); rintro e x1 ⟨G16, g16, h16, I16, i16, j16, rfl, hs, ht, hb⟩)
                clear e0 e1 e2 e3 e4 e5 e6 e7 e8 e9 e10 e11 e12 e13 e14 e15
                have BW := Lib.hid (below_on BW.out hb)
                have U4 := Lib.hid (U4.out.below hb)
                have V4 := Lib.hid (V4.out.below hb)
                have YS := Lib.hid (YS.out.below hb)
                have K := Lib.hid (RS.out _ _ K.out hb)
                clear hb
                have U16 := Lib.hid hs
                have V16 := Lib.hid ht
                clear hs ht
                obtain ⟨e0, e1, e2, e3⟩ := YS.out.c4
                obtain ⟨e4, e5, e6, e7⟩ := (RP.out _ K.out).2.2.2.2.2.2.1.c4
                obtain ⟨e8, e9, e10, e11⟩ := (RP.out _ K.out).2.2.2.2.2.2.2.1.c4
                obtain ⟨e12, e13, e14, e15⟩ := (RP.out _ K.out).2.2.2.2.2.2.2.2.c4
                go_upto_region 16 with fail
                clear e0 e1 e2 e3 e4 e5 e6 e7 e8 e9 e10 e11 e12 e13 e14 e15
                have K := Lib.hid (RS.out _ _ K.out ((Below.refl _ _).alloc (Nat.le_refl _) (.cells #[.bool (nOf (resN ((resN (p1 * q2 + p2 * q1) (q1 * q2)) * p3) ((resD (p1 * q2 + p2 * q1) (q1 * q2)) * q3))), .slice G16 g16 h16, .bool (nOf (resD ((resN (p1 * q2 + p2 * q1) (q1 * q2)) * p3) ((resD (p1 * q2 + p2 * q1) (q1 * q2)) * q3))), .slice I16 i16 j16] 37)))
                have ln14 := YS.out.lt
                have BW := Lib.hid (BW.out.alloc BW.out.size (.cells #[.bool (nOf (resN ((resN (p1 * q2 + p2 * q1) (q1 * q2)) * p3) ((resD (p1 * q2 + p2 * q1) (q1 * q2)) * q3))), .slice G16 g16 h16, .bool (nOf (resD ((resN (p1 * q2 + p2 * q1) (q1 * q2)) * p3) ((resD (p1 * q2 + p2 * q1) (q1 * q2)) * q3))), .slice I16 i16 j16] 37))
                have U4 := Lib.hid (U4.out.alloc (.cells #[.bool (nOf (resN ((resN (p1 * q2 + p2 * q1) (q1 * q2)) * p3) ((resD (p1 * q2 + p2 * q1) (q1 * q2)) * q3))), .slice G16 g16 h16, .bool (nOf (resD ((resN (p1 * q2 + p2 * q1) (q1 * q2)) * p3) ((resD (p1 * q2 + p2 * q1) (q1 * q2)) * q3))), .slice I16 i16 j16] 37))
                have V4 := Lib.hid (V4.out.alloc (.cells #[.bool (nOf (resN ((resN (p1 * q2 + p2 * q1) (q1 * q2)) * p3) ((resD (p1 * q2 + p2 * q1) (q1 * q2)) * q3))), .slice G16 g16 h16, .bool (nOf (resD ((resN (p1 * q2 + p2 * q1) (q1 * q2)) * p3) ((resD (p1 * q2 + p2 * q1) (q1 * q2)) * q3))), .slice I16 i16 j16] 37))
                have YS := Lib.hid (YS.out.alloc (.cells #[.bool (nOf (resN ((resN (p1 * q2 + p2 * q1) (q1 * q2)) * p3) ((resD (p1 * q2 + p2 * q1) (q1 * q2)) * q3))), .slice G16 g16 h16, .bool (nOf (resD ((resN (p1 * q2 + p2 * q1) (q1 * q2)) * p3) ((resD (p1 * q2 + p2 * q1) (q1 * q2)) * q3))), .slice I16 i16 j16] 37))
                have U16 := Lib.hid (U16.out.alloc (.cells #[.bool (nOf (resN ((resN (p1 * q2 + p2 * q1) (q1 * q2)) * p3) ((resD (p1 * q2 + p2 * q1) (q1 * q2)) * q3))), .slice G16 g16 h16, .bool (nOf (resD ((resN (p1 * q2 + p2 * q1) (q1 * q2)) * p3) ((resD (p1 * q2 + p2 * q1) (q1 * q2)) * q3))), .slice I16 i16 j16] 37))
                have V16 := Lib.hid (V16.out.alloc (.cells #[.bool (nOf (resN ((resN (p1 * q2 + p2 * q1) (q1 * q2)) * p3) ((resD (p1 * q2 + p2 * q1) (q1 * q2)) * q3))), .slice G16 g16 h16, .bool (nOf (resD ((resN (p1 * q2 + p2 * q1) (q1 * q2)) * p3) ((resD (p1 * q2 + p2 * q1) (q1 * q2)) * q3))), .slice I16 i16 j16] 37))
                have ZX := Lib.hid (Bk.new 37 x1 #[.bool (nOf (resN ((resN (p1 * q2 + p2 * q1) (q1 * q2)) * p3) ((resD (p1 * q2 + p2 * q1) (q1 * q2)) * q3))), .slice G16 g16 h16, .bool (nOf (resD ((resN (p1 * q2 + p2 * q1) (q1 * q2)) * p3) ((resD (p1 * q2 + p2 * q1) (q1 * q2)) * q3))), .slice I16 i16 j16])
                generalize (x1.alloc (.cells #[.bool (nOf (resN ((resN (p1 * q2 + p2 * q1) (q1 * q2)) * p3) ((resD (p1 * q2 + p2 * q1) (q1 * q2)) * q3))), .slice G16 g16 h16, .bool (nOf (resD ((resN (p1 * q2 + p2 * q1) (q1 * q2)) * p3) ((resD (p1 * q2 + p2 * q1) (q1 * q2)) * q3))), .slice I16 i16 j16] 37)) = W16 at *
                clear YS U4 V4
                obtain ⟨e0, e1, e2, e3⟩ := (RP.out _ K.out).2.2.2.2.2.2.1.c4
                obtain ⟨e4, e5, e6, e7⟩ := (RP.out _ K.out).2.2.2.2.2.2.2.1.c4
                obtain ⟨e8, e9, e10, e11⟩ := (RP.out _ K.out).2.2.2.2.2.2.2.2.c4
                go_wp2_with fail
                ((with_reducible refine (rmul_ok p1 q1 p3 q3 p1 q1 p3 q3 (resN (p1 * p3) (q1 * q3)) (resD (p1 * p3) (q1 * q3)) (resB (p1 * p3) (q1 * q3)) A1 B1 A3 B3 n1 c1 m1 d1 n3 c3 m3 d3 _ (RP.out _ K.out).1 (RP.out _ K.out).2.1 (RP.out _ K.out).2.2.2.2.1 (RP.out _ K.out).2.2.2.2.2.1 (fr_of F1.out).1 (fr_of F1.out).2 (fr_of F3.out).1 (fr_of F3.out).2 rfl rfl rfl).mono ?_); rintro e x2 ⟨G17, g17, h17, I17, i17, j17, rfl, hs, ht, hb⟩)
                clear e0 e1 e2 e3 e4 e5 e6 e7 e8 e9 e10 e11
                have BW := Lib.hid (below_on BW.out hb)
                have U16 := Lib.hid (U16.out.below hb)
                have V16 := Lib.hid (V16.out.below hb)
                have ZX := Lib.hid (ZX.out.below hb)
                have K := Lib.hid (RS.out _ _ K.out hb)
                clear hb
                have U17 := Lib.hid hs
                have V17 := Lib.hid ht
                clear hs ht
                obtain ⟨e0, e1, e2, e3⟩ := (RP.out _ K.out).2.2.2.2.2.2.1.c4
                obtain ⟨e4, e5, e6, e7⟩ := (RP.out _ K.out).2.2.2.2.2.2.2.1.c4
                obtain ⟨e8, e9, e10, e11⟩ := (RP.out _ K.out).2.2.2.2.2.2.2.2.c4
                go_upto_region 17 with fail
                clear e0 e1 e2 e3 e4 e5 e6 e7 e8 e9 e10 e11
                have K := Lib.hid (RS.out _ _ K.out ((Below.refl _ _).alloc (Nat.le_refl _) (.cells #[.bool (nOf (resN (p1 * p3) (q1 * q3))), .slice G17 g17 h17, .bool (nOf (resD (p1 * p3) (q1 * q3))), .slice I17 i17 j17] 37)))
                have ln15 := ZX.out.lt
                have BW := Lib.hid (BW.out.alloc BW.out.size (.cells #[.bool (nOf (resN (p1 * p3) (q1 * q3))), .slice G17 g17 h17, .bool (nOf (resD (p1 * p3) (q1 * q3))), .slice I17 i17 j17] 37))
                have U16 := Lib.hid (U16.out.alloc (.cells #[.bool (nOf (resN (p1 * p3) (q1 * q3))), .slice G17 g17 h17, .bool (nOf (resD (p1 * p3) (q1 * q3))), .slice I17 i17 j17] 37))
                have V16 := Lib.hid (V16.out.alloc (.cells #[.bool (nOf (resN (p1 * p3) (q1 * q3))), .slice G17 g17 h17, .bool (nOf (resD (p1 * p3) (q1 * q3))), .slice I17 i17 j17] 37))
                have ZX := Lib.hid (ZX.out.alloc (.cells #[.bool (nOf (resN (p1 * p3) (q1 * q3))), .slice G17 g17 h17, .bool (nOf (resD (p1 * p3) (q1 * q3))), .slice I17 i17 j17] 37))
                have U17 := Lib.hid (U17.out.alloc (.cells #[.bool (nOf (resN (p1 * p3) (q1 * q3))), .slice G17 g17 h17, .bool (nOf (resD (p1 * p3) (q1 * q3))), .slice I17 i17 j17] 37))
                have V17 := Lib.hid (V17.out.alloc (.cells #[.bool (nOf (resN (p1 * p3) (q1 * q3))), .slice G17 g17 h17, .bool (nOf (resD (p1 * p3) (q1 * q3))), .slice I17 i17 j17] 37))
                have ZY := Lib.hid (Bk.new 37 x2 #[.bool (nOf (resN (p1 * p3) (q1 * q3))), .slice G17 g17 h17, .bool (nOf (resD (p1 * p3) (q1 * q3))), .slice I17 i17 j17])
                generalize (x2.alloc (.cells #[.bool (nOf (resN (p1 * p3) (q1 * q3))), .slice G17 g17 h17, .bool (nOf (resD (p1 * p3) (q1 * q3))), .slice I17 i17 j17] 37)) = W17 at *
                obtain ⟨e0, e1, e2, e3⟩ := (RP.out _ K.out).2.2.2.2.2.2.1.c4
                obtain ⟨e4, e5, e6, e7⟩ := (RP.out _ K.out).2.2.2.2.2.2.2.1.c4
                obtain ⟨e8, e9, e10, e11⟩ := (RP.out _ K.out).2.2.2.2.2.2.2.2.c4
                go_wp2_with fail
                ((with_reducible refine (rmul_ok p2 q2 p3 q3 p2 q2 p3 q3 (resN (p2 * p3) (q2 * q3)) (resD (p2 * p3) (q2 * q3)) (resB (p2 * p3) (q2 * q3)) A2 B2 A3 B3 n2 c2 m2 d2 n3 c3 m3 d3 _ (RP.out _ K.out).2.2.1 (RP.out _ K.out).2.2.2.1 (RP.out _ K.out).2.2.2.2.1 (RP.out _ K.out).2.2.2.2.2.1 (fr_of F2.out).1 (fr_of F2.out).2 (fr_of F3.out).1 (fr_of F3.out).2 rfl rfl rfl).mono ?_); rintro e x3 ⟨G18, g18, h18, I18, i18, j18, rfl, hs, ht, hb⟩)
                clear e0 e1 e2 e3 e4 e5 e6 e7 e8 e9 e10 e11
                have BW := Lib.hid (below_on BW.out hb)
                have U16 := Lib.hid (U16.out.below hb)
                have V16 := Lib.hid (V16.out.below hb)
                have ZX := Lib.hid (ZX.out.below hb)
                have U17 := Lib.hid (U17.out.below hb)
                have V17 := Lib.hid (V17.out.below hb)
                have ZY := Lib.hid (ZY.out.below hb)
                have K := Lib.hid (RS.out _ _ K.out hb)
                clear hb
                have U18 := Lib.hid hs
                have V18 := Lib.hid ht
                clear hs ht
                obtain ⟨e0, e1, e2, e3⟩ := (RP.out _ K.out).2.2.2.2.2.2.1.c4
                obtain ⟨e4, e5, e6, e7⟩ := (RP.out _ K.out).2.2.2.2.2.2.2.1.c4
                obtain ⟨e8, e9, e10, e11⟩ := (RP.out _ K.out).2.2.2.2.2.2.2.2.c4
                go_upto_region 18 with fail
                clear e0 e1 e2 e3 e4 e5 e6 e7 e8 e9 e10 e11
                have K := Lib.hid (RS.out _ _ K.out ((Below.refl _ _).alloc (Nat.le_refl _) (.cells #[.bool (nOf (resN (p2 * p3) (q2 * q3))), .slice G18 g18 h18, .bool (nOf (resD (p2 * p3) (q2 * q3))), .slice I18 i18 j18] 37)))
                have ln16 := ZX.out.lt
                have ln17 := ZY.out.lt
                have BW := Lib.hid (BW.out.alloc BW.out.size (.cells #[.bool (nOf (resN (p2 * p3) (q2 * q3))), .slice G18 g18 h18, .bool (nOf (resD (p2 * p3) (q2 * q3))), .slice I18 i18 j18] 37))
                have U16 := Lib.hid (U16.out.alloc (.cells #[.bool (nOf (resN (p2 * p3) (q2 * q3))), .slice G18 g18 h18, .bool (nOf (resD (p2 * p3) (q2 * q3))), .slice I18 i18 j18] 37))
                have V16 := Lib.hid (V16.out.alloc (.cells #[.bool (nOf (resN (p2 * p3) (q2 * q3))), .slice G18 g18 h18, .bool (nOf (resD (p2 * p3) (q2 * q3))), .slice I18 i18 j18] 37))
                have ZX := Lib.hid (ZX.out.alloc (.cells #[.bool (nOf (resN (p2 * p3) (q2 * q3))), .slice G18 g18 h18, .bool (nOf (resD (p2 * p3) (q2 * q3))), .slice I18 i18 j18] 37))
                have U17 := Lib.hid (U17.out.alloc (.cells #[.bool (nOf (resN (p2 * p3) (q2 * q3))), .slice G18 g18 h18, .bool (nOf (resD (p2 * p3) (q2 * q3))), .slice I18 i18 j18] 37))
                have V17 := Lib.hid (V17.out.alloc (.cells #[.bool (nOf (resN (p2 * p3) (q2 * q3))), .slice G18 g18 h18, .bool (nOf (resD (p2 * p3) (q2 * q3))), .slice I18 i18 j18] 37))
                have ZY := Lib.hid (ZY.out.alloc (.cells #[.bool (nOf (resN (p2 * p3) (q2 * q3))), .slice G18 g18 h18, .bool (nOf (resD (p2 * p3) (q2 * q3))), .slice I18 i18 j18] 37))
                have U18 := Lib.hid (U18.out.alloc (.cells #[.bool (nOf (resN (p2 * p3) (q2 * q3))), .slice G18 g18 h18, .bool (nOf (resD (p2 * p3) (q2 * q3))), .slice I18 i18 j18] 37))
                have V18 := Lib.hid (V18.out.alloc (.cells #[.bool (nOf (resN (p2 * p3) (q2 * q3))), .slice G18 g18 h18, .bool (nOf (resD (p2 * p3) (q2 * q3))), .slice I18 i18 j18] 37))
                have ZZ := Lib.hid (Bk.new 37 x3 #[.bool (nOf (resN (p2 * p3) (q2 * q3))), .slice G18 g18 h18, .bool (nOf (resD (p2 * p3) (q2 * q3))), .slice I18 i18 j18])
                generalize (x3.alloc (.cells #[.bool (nOf (resN (p2 * p3) (q2 * q3))), .slice G18 g18 h18, .bool (nOf (resD (p2 * p3) (q2 * q3))), .slice I18 i18 j18] 37)) = W18 at *
                rcases Bool.eq_false_or_eq_true (resB ((resN (p1 * q2 + p2 * q1) (q1 * q2)) * p3) ((resD (p1 * q2 + p2 * q1) (q1 * q2)) * q3)) with z1 | z1
                · have Z1 := Lib.hid z1
                  rw [z1]
                  clear z1
                  rcases Bool.eq_false_or_eq_true (resB (p1 * p3) (q1 * q3)) with z2 | z2
                  · have Z2 := Lib.hid z2
                    rw [z2]
                    clear z2
                    rcases Bool.eq_false_or_eq_true (resB (p2 * p3) (q2 * q3)) with z3 | z3
                    · have Z3 := Lib.hid z3
                      rw [z3]
                      clear z3
                      have DI := Lib.hid (dist F1.out.pos F2.out.pos F3.out.pos HB1.out Z2.out Z3.out)
                      obtain ⟨e0, e1, e2, e3⟩ := ZY.out.c4
                      obtain ⟨e4, e5, e6, e7⟩ := ZZ.out.c4
                      go_wp2_with fail
                      ((with_reducible refine (radd_ok (resN (p1 * p3) (q1 * q3)) (resD (p1 * p3) (q1 * q3)) (resN (p2 * p3) (q2 * q3)) (resD (p2 * p3) (q2 * q3)) (resN (p1 * p3) (q1 * q3)) (resD (p1 * p3) (q1 * q3)) (resN (p2 * p3) (q2 * q3)) (resD (p2 * p3) (q2 * q3)) (resN ((resN (p1 * q2 + p2 * q1) (q1 * q2)) * p3) ((resD (p1 * q2 + p2 * q1) (q1 * q2)) * q3)) (resD ((resN (p1 * q2 + p2 * q1) (q1 * q2)) * p3) ((resD (p1 * q2 + p2 * q1) (q1 * q2)) * q3)) true G17 I17 G18 I18 g17 h17 i17 j17 g18 h18 i18 j18 _ U17.out V17.out U18.out V18.out (fr_of (Fr.res Z2.out)).1 (fr_of (Fr.res Z2.out)).2 (fr_of (Fr.res Z3.out)).1 (fr_of (Fr.res Z3.out)).2 DI.out.1 DI.out.2.1 (DI.out.2.2.trans Z1.out)).mono ?_); rintro e x4 ⟨G19, g19, h19, I19, i19, j19, rfl, hs, ht, hb⟩)
                      clear e0 e1 e2 e3 e4 e5 e6 e7
                      have BW := Lib.hid (below_on BW.out hb)
                      have U16 := Lib.hid (U16.out.below hb)
                      have V16 := Lib.hid (V16.out.below hb)
                      have ZX := Lib.hid (ZX.out.below hb)
                      have U17 := Lib.hid (U17.out.below hb)
                      have V17 := Lib.hid (V17.out.below hb)
                      have ZY := Lib.hid (ZY.out.below hb)
                      have U18 := Lib.hid (U18.out.below hb)
                      have V18 := Lib.hid (V18.out.below hb)
                      have ZZ := Lib.hid (ZZ.out.below hb)
                      have K := Lib.hid (RS.out _ _ K.out hb)
                      clear hb
                      have U19 := Lib.hid hs
                      have V19 := Lib.hid ht
                      clear hs ht
                      obtain ⟨e0, e1, e2, e3⟩ := ZY.out.c4
                      obtain ⟨e4, e5, e6, e7⟩ := ZZ.out.c4
                      go_upto_region 19 with fail
                      clear e0 e1 e2 e3 e4 e5 e6 e7
                      have K := Lib.hid (RS.out _ _ K.out ((Below.refl _ _).alloc (Nat.le_refl _) (.cells #[.bool (nOf (resN ((resN (p1 * q2 + p2 * q1) (q1 * q2)) * p3) ((resD (p1 * q2 + p2 * q1) (q1 * q2)) * q3))), .slice G19 g19 h19, .bool (nOf (resD ((resN (p1 * q2 + p2 * q1) (q1 * q2)) * p3) ((resD (p1 * q2 + p2 * q1) (q1 * q2)) * q3))), .slice I19 i19 j19] 37)))
                      have ln18 := ZX.out.lt
                      have ln19 := ZY.out.lt
                      have ln20 := ZZ.out.lt
                      have BW := Lib.hid (BW.out.alloc BW.out.size (.cells #[.bool (nOf (resN ((resN (p1 * q2 + p2 * q1) (q1 * q2)) * p3) ((resD (p1 * q2 + p2 * q1) (q1 * q2)) * q3))), .slice G19 g19 h19, .bool (nOf (resD ((resN (p1 * q2 + p2 * q1) (q1 * q2)) * p3) ((resD (p1 * q2 + p2 * q1) (q1 * q2)) * q3))), .slice I19 i19 j19] 37))
                      have U16 := Lib.hid (U16.out.alloc (.cells #[.bool (nOf (resN ((resN (p1 * q2 + p2 * q1) (q1 * q2)) * p3) ((resD (p1 * q2 + p2 * q1) (q1 * q2)) * q3))), .slice G19 g19 h19, .bool (nOf (resD ((resN (p1 * q2 + p2 * q1) (q1 * q2)) * p3) ((resD (p1 * q2 + p2 * q1) (q1 * q2)) * q3))), .slice I19 i19 j19] 37))
                      have V16 := Lib.hid (V16.out.alloc (.cells #[.bool (nOf (resN ((resN (p1 * q2 + p2 * q1) (q1 * q2)) * p3) ((resD (p1 * q2 + p2 * q1) (q1 * q2)) * q3))), .slice G19 g19 h19, .bool (nOf (resD ((resN (p1 * q2 + p2 * q1) (q1 * q2)) * p3) ((resD (p1 * q2 + p2 * q1) (q1 * q2)) * q3))), .slice I19 i19 j19] 37))
                      have ZX := Lib.hid (ZX.out.alloc (.cells #[.bool (nOf (resN ((resN (p1 * q2 + p2 * q1) (q1 * q2)) * p3) ((resD (p1 * q2 + p2 * q1) (q1 * q2)) * q3))), .slice G19 g19 h19, .bool (nOf (resD ((resN (p1 * q2 + p2 * q1) (q1 * q2)) * p3) ((resD (p1 * q2 + p2 * q1) (q1 * q2)) * q3))), .slice I19 i19 j19] 37))
                      have U17 := Lib.hid (U17.out.alloc (.cells #[.bool (nOf (resN ((resN (p1 * q2 + p2 * q1) (q1 * q2)) * p3) ((resD (p1 * q2 + p2 * q1) (q1 * q2)) * q3))), .slice G19 g19 h19, .bool (nOf (resD ((resN (p1 * q2 + p2 * q1) (q1 * q2)) * p3) ((resD (p1 * q2 + p2 * q1) (q1 * q2)) * q3))), .slice I19 i19 j19] 37))
                      have V17 := Lib.hid (V17.out.alloc (.cells #[.bool (nOf (resN ((resN (p1 * q2 + p2 * q1) (q1 * q2)) * p3) ((resD (p1 * q2 + p2 * q1) (q1 * q2)) * q3))), .slice G19 g19 h19, .bool (nOf (resD ((resN (p1 * q2 + p2 * q1) (q1 * q2)) * p3) ((resD (p1 * q2 + p2 * q1) (q1 * q2)) * q3))), .slice I19 i19 j19] 37))
                      have ZY := Lib.hid (ZY.out.alloc (.cells #[.bool (nOf (resN ((resN (p1 * q2 + p2 * q1) (q1 * q2)) * p3) ((resD (p1 * q2 + p2 * q1) (q1 * q2)) * q3))), .slice G19 g19 h19, .bool (nOf (resD ((resN (p1 * q2 + p2 * q1) (q1 * q2)) * p3) ((resD (p1 * q2 + p2 * q1) (q1 * q2)) * q3))), .slice I19 i19 j19] 37))
                      have U18 := Lib.hid (U18.out.alloc (.cells #[.bool (nOf (resN ((resN (p1 * q2 + p2 * q1) (q1 * q2)) * p3) ((resD (p1 * q2 + p2 * q1) (q1 * q2)) * q3))), .slice G19 g19 h19, .bool (nOf (resD ((resN (p1 * q2 + p2 * q1) (q1 * q2)) * p3) ((resD (p1 * q2 + p2 * q1) (q1 * q2)) * q3))), .slice I19 i19 j19] 37))
                      have V18 := Lib.hid (V18.out.alloc (.cells #[.bool (nOf (resN ((resN (p1 * q2 + p2 * q1) (q1 * q2)) * p3) ((resD (p1 * q2 + p2 * q1) (q1 * q2)) * q3))), .slice G19 g19 h19, .bool (nOf (resD ((resN (p1 * q2 + p2 * q1) (q1 * q2)) * p3) ((resD (p1 * q2 + p2 * q1) (q1 * q2)) * q3))), .slice I19 i19 j19] 37))
                      have ZZ := Lib.hid (ZZ.out.alloc (.cells #[.bool (nOf (resN ((resN (p1 * q2 + p2 * q1) (q1 * q2)) * p3) ((resD (p1 * q2 + p2 * q1) (q1 * q2)) * q3))), .slice G19 g19 h19, .bool (nOf (resD ((resN (p1 * q2 + p2 * q1) (q1 * q2)) * p3) ((resD (p1 * q2 + p2 * q1) (q1 * q2)) * q3))), .slice I19 i19 j19] 37))
                      have U19 := Lib.hid (U19.out.alloc (.cells #[.bool (nOf (resN ((resN (p1 * q2 + p2 * q1) (q1 * q2)) * p3) ((resD (p1 * q2 + p2 * q1) (q1 * q2)) * q3))), .slice G19 g19 h19, .bool (nOf (resD ((resN (p1 * q2 + p2 * q1) (q1 * q2)) * p3) ((resD (p1 * q2 + p2 * q1) (q1 * q2)) * q3))), .slice I19 i19 j19] 37))
                      have V19 := Lib.hid (V19.out.alloc (.cells #[.bool (nOf (resN ((resN (p1 * q2 + p2 * q1) (q1 * q2)) * p3) ((resD (p1 * q2 + p2 * q1) (q1 * q2)) * q3))), .slice G19 g19 h19, .bool (nOf (resD ((resN (p1 * q2 + p2 * q1) (q1 * q2)) * p3) ((resD (p1 * q2 + p2 * q1) (q1 * q2)) * q3))), .slice I19 i19 j19] 37))
                      have ZW := Lib.hid (Bk.new 37 x4 #[.bool (nOf (resN ((resN (p1 * q2 + p2 * q1) (q1 * q2)) * p3) ((resD (p1 * q2 + p2 * q1) (q1 * q2)) * q3))), .slice G19 g19 h19, .bool (nOf (resD ((resN (p1 * q2 + p2 * q1) (q1 * q2)) * p3) ((resD (p1 * q2 + p2 * q1) (q1 * q2)) * q3))), .slice I19 i19 j19])
                      generalize (x4.alloc (.cells #[.bool (nOf (resN ((resN (p1 * q2 + p2 * q1) (q1 * q2)) * p3) ((resD (p1 * q2 + p2 * q1) (q1 * q2)) * q3))), .slice G19 g19 h19, .bool (nOf (resD ((resN (p1 * q2 + p2 * q1) (q1 * q2)) * p3) ((resD (p1 * q2 + p2 * q1) (q1 * q2)) * q3))), .slice I19 i19 j19] 37)) = W19 at *
                      obtain ⟨e0, e1, e2, e3⟩ := ZX.out.c4
                      obtain ⟨e4, e5, e6, e7⟩ := ZW.out.c4
                      go_wp2_with fail
                      ((with_reducible refine (samer_ok (resN ((resN (p1 * q2 + p2 * q1) (q1 * q2)) * p3) ((resD (p1 * q2 + p2 * q1) (q1 * q2)) * q3)) (resD ((resN (p1 * q2 + p2 * q1) (q1 * q2)) * p3) ((resD (p1 * q2 + p2 * q1) (q1 * q2)) * q3)) (resN ((resN (p1 * q2 + p2 * q1) (q1 * q2)) * p3) ((resD (p1 * q2 + p2 * q1) (q1 * q2)) * q3)) (resD ((resN (p1 * q2 + p2 * q1) (q1 * q2)) * p3) ((resD (p1 * q2 + p2 * q1) (q1 * q2)) * q3)) G16 I16 G19 I19 g16 h16 i16 j16 g19 h19 i19 j19 _ U16.out V16.out U19.out V19.out rfl rfl).mono ?_); rintro e x5 ⟨rfl, hb⟩)
                      clear e0 e1 e2 e3 e4 e5 e6 e7
                      have BW := Lib.hid (below_on BW.out hb)
                      have U16 := Lib.hid (U16.out.below hb)
                      have V16 := Lib.hid (V16.out.below hb)
                      have ZX := Lib.hid (ZX.out.below hb)
                      have U17 := Lib.hid (U17.out.below hb)
                      have V17 := Lib.hid (V17.out.below hb)
                      have ZY := Lib.hid (ZY.out.below hb)
                      have U18 := Lib.hid (U18.out.below hb)
                      have V18 := Lib.hid (V18.out.below hb)
                      have ZZ := Lib.hid (ZZ.out.below hb)
                      have U19 := Lib.hid (U19.out.below hb)
                      have V19 := Lib.hid (V19.out.below hb)
                      have ZW := Lib.hid (ZW.out.below hb)
                      have K := Lib.hid (RS.out _ _ K.out hb)
                      clear hb
                      go_wp2_with fail
                      go_ret
                      exact ⟨rfl, BW.out⟩
                    · rw [z3]
                      clear z3
                      obtain ⟨e0, e1, e2, e3⟩ := ZY.out.c4
                      obtain ⟨e4, e5, e6, e7⟩ := ZZ.out.c4
                      go_wp2_with fail
                      ((with_reducible refine (radd_some (resN (p1 * p3) (q1 * q3)) (resD (p1 * p3) (q1 * q3)) (resN (p2 * p3) (q2 * q3)) (resD (p2 * p3) (q2 * q3)) G17 I17 G18 I18 g17 h17 i17 j17 g18 h18 i18 j18 _ U17.out V17.out U18.out V18.out).mono ?_); rintro e x4 ⟨N19, D19, b19, G19, g19, h19, I19, i19, j19, rfl, hs, ht, hb⟩)
                      clear e0 e1 e2 e3 e4 e5 e6 e7
                      have BW := Lib.hid (below_on BW.out hb)
                      have U16 := Lib.hid (U16.out.below hb)
                      have V16 := Lib.hid (V16.out.below hb)
                      have ZX := Lib.hid (ZX.out.below hb)
                      have U17 := Lib.hid (U17.out.below hb)
                      have V17 := Lib.hid (V17.out.below hb)
                      have ZY := Lib.hid (ZY.out.below hb)
                      have U18 := Lib.hid (U18.out.below hb)
                      have V18 := Lib.hid (V18.out.below hb)
                      have ZZ := Lib.hid (ZZ.out.below hb)
                      have K := Lib.hid (RS.out _ _ K.out hb)
                      clear hb
                      have U19 := Lib.hid hs
                      have V19 := Lib.hid ht
                      clear hs ht
                      obtain ⟨e0, e1, e2, e3⟩ := ZY.out.c4
                      obtain ⟨e4, e5, e6, e7⟩ := ZZ.out.c4
                      go_upto_region 19 with fail
                      clear e0 e1 e2 e3 e4 e5 e6 e7
                      have K := Lib.hid (RS.out _ _ K.out ((Below.refl _ _).alloc (Nat.le_refl _) (.cells #[.bool (nOf (N19)), .slice G19 g19 h19, .bool (nOf (D19)), .slice I19 i19 j19] 37)))
                      have ln18 := ZX.out.lt
                      have ln19 := ZY.out.lt
                      have ln20 := ZZ.out.lt
                      have BW := Lib.hid (BW.out.alloc BW.out.size (.cells #[.bool (nOf (N19)), .slice G19 g19 h19, .bool (nOf (D19)), .slice I19 i19 j19] 37))
                      have U16 := Lib.hid (U16.out.alloc (.cells #[.bool (nOf (N19)), .slice G19 g19 h19, .bool (nOf (D19)), .slice I19 i19 j19] 37))
                      have V16 := Lib.hid (V16.out.alloc (.cells #[.bool (nOf (N19)), .slice G19 g19 h19, .bool (nOf (D19)), .slice I19 i19 j19] 37))
                      have ZX := Lib.hid (ZX.out.alloc (.cells #[.bool (nOf (N19)), .slice G19 g19 h19, .bool (nOf (D19)), .slice I19 i19 j19] 37))
                      have U17 := Lib.hid (U17.out.alloc (.cells #[.bool (nOf (N19)), .slice G19 g19 h19, .bool (nOf (D19)), .slice I19 i19 j19] 37))
                      have V17 := Lib.hid (V17.out.alloc (.cells #[.bool (nOf (N19)), .slice G19 g19 h19, .bool (nOf (D19)), .slice I19 i19 j19] 37))
                      have ZY := Lib.hid (ZY.out.alloc (.cells #[.bool (nOf (N19)), .slice G19 g19 h19, .bool (nOf (D19)), .slice I19 i19 j19] 37))
                      have U18 := Lib.hid (U18.out.alloc (.cells #[.bool (nOf (N19)), .slice G19 g19 h19, .bool (nOf (D19)), .slice I19 i19 j19] 37))
                      have V18 := Lib.hid (V18.out.alloc (.cells #[.bool (nOf (N19)), .slice G19 g19 h19, .bool (nOf (D19)), .slice I19 i19 j19] 37))
                      have ZZ := Lib.hid (ZZ.out.alloc (.cells #[.bool (nOf (N19)), .slice G19 g19 h19, .bool (nOf (D19)), .slice I19 i19 j19] 37))
                      have U19 := Lib.hid (U19.out.alloc (.cells #[.bool (nOf (N19)), .slice G19 g19 h19, .bool (nOf (D19)), .slice I19 i19 j19] 37))
                      have V19 := Lib.hid (V19.out.alloc (.cells #[.bool (nOf (N19)), .slice G19 g19 h19, .bool (nOf (D19)), .slice I19 i19 j19] 37))
                      have ZW := Lib.hid (Bk.new 37 x4 #[.bool (nOf (N19)), .slice G19 g19 h19, .bool (nOf (D19)), .slice I19 i19 j19])
                      generalize (x4.alloc (.cells #[.bool (nOf (N19)), .slice G19 g19 h19, .bool (nOf (D19)), .slice I19 i19 j19] 37)) = W19 at *
                      go_wp2_with fail
                      go_ret
                      exact ⟨rfl, BW.out⟩
                  · rw [z2]
                    clear z2
                    obtain ⟨e0, e1, e2, e3⟩ := ZY.out.c4
                    obtain ⟨e4, e5, e6, e7⟩ := ZZ.out.c4
                    go_wp2_with fail
                    ((with_reducible refine (radd_some (resN (p1 * p3) (q1 * q3)) (resD (p1 * p3) (q1 * q3)) (resN (p2 * p3) (q2 * q3)) (resD (p2 * p3) (q2 * q3)) G17 I17 G18 I18 g17 h17 i17 j17 g18 h18 i18 j18 _ U17.out V17.out U18.out V18.out).mono ?_); rintro e x4 ⟨N19, D19, b19, G19, g19, h19, I19, i19, j19, rfl, hs, ht, hb⟩)
                    clear e0 e1 e2 e3 e4 e5 e6 e7
                    have BW := Lib.hid (below_on BW.out hb)
                    have U16 := Lib.hid (U16.out.below hb)
                    have V16 := Lib.hid (V16.out.below hb)
                    have ZX := Lib.hid (ZX.out.below hb)
                    have U17 := Lib.hid (U17.out.below hb)
                    have V17 := Lib.hid (V17.out.below hb)
                    have ZY := Lib.hid (ZY.out.below hb)
                    have U18 := Lib.hid (U18.out.below hb)
                    have V18 := Lib.hid (V18.out.below hb)
                    have ZZ := Lib.hid (ZZ.out.below hb)
                    have K := Lib.hid (RS.out _ _ K.out hb)
                    clear hb
                    have U19 := Lib.hid hs
                    have V19 := Lib.hid ht
                    clear hs ht
                    obtain ⟨e0, e1, e2, e3⟩ := ZY.out.c4
                    obtain ⟨e4, e5, e6, e7⟩ := ZZ.out.c4
                    go_upto_region 19 with fail
                    clear e0 e1 e2 e3 e4 e5 e6 e7
                    have K := Lib.hid (RS.out _ _ K.out ((Below.refl _ _).alloc (Nat.le_refl _) (.cells #[.bool (nOf (N19)), .slice G19 g19 h19, .bool (nOf (D19)), .slice I19 i19 j19] 37)))
                    have ln18 := ZX.out.lt
                    have ln19 := ZY.out.lt
                    have ln20 := ZZ.out.lt
                    have BW := Lib.hid (BW.out.alloc BW.out.size (.cells #[.bool (nOf (N19)), .slice G19 g19 h19, .bool (nOf (D19)), .slice I19 i19 j19] 37))
                    have U16 := Lib.hid (U16.out.alloc (.cells #[.bool (nOf (N19)), .slice G19 g19 h19, .bool (nOf (D19)), .slice I19 i19 j19] 37))
                    have V16 := Lib.hid (V16.out.alloc (.cells #[.bool (nOf (N19)), .slice G19 g19 h19, .bool (nOf (D19)), .slice I19 i19 j19] 37))
                    have ZX := Lib.hid (ZX.out.alloc (.cells #[.bool (nOf (N19)), .slice G19 g19 h19, .bool (nOf (D19)), .slice I19 i19 j19] 37))
                    have U17 := Lib.hid (U17.out.alloc (.cells #[.bool (nOf (N19)), .slice G19 g19 h19, .bool (nOf (D19)), .slice I19 i19 j19] 37))
                    have V17 := Lib.hid (V17.out.alloc (.cells #[.bool (nOf (N19)), .slice G19 g19 h19, .bool (nOf (D19)), .slice I19 i19 j19] 37))
                    have ZY := Lib.hid (ZY.out.alloc (.cells #[.bool (nOf (N19)), .slice G19 g19 h19, .bool (nOf (D19)), .slice I19 i19 j19] 37))
                    have U18 := Lib.hid (U18.out.alloc (.cells #[.bool (nOf (N19)), .slice G19 g19 h19, .bool (nOf (D19)), .slice I19 i19 j19] 37))
                    have V18 := Lib.hid (V18.out.alloc (.cells #[.bool (nOf (N19)), .slice G19 g19 h19, .bool (nOf (D19)), .slice I19 i19 j19] 37))
                    have ZZ := Lib.hid (ZZ.out.alloc (.cells #[.bool (nOf (N19)), .slice G19 g19 h19, .bool (nOf (D19)), .slice I19 i19 j19] 37))
                    have U19 := Lib.hid (U19.out.alloc (.cells #[.bool (nOf (N19)), .slice G19 g19 h19, .bool (nOf (D19)), .slice I19 i19 j19] 37))
                    have V19 := Lib.hid (V19.out.alloc (.cells #[.bool (nOf (N19)), .slice G19 g19 h19, .bool (nOf (D19)), .slice I19 i19 j19] 37))
                    have ZW := Lib.hid (Bk.new 37 x4 #[.bool (nOf (N19)), .slice G19 g19 h19, .bool (nOf (D19)), .slice I19 i19 j19])
                    generalize (x4.alloc (.cells #[.bool (nOf (N19)), .slice G19 g19 h19, .bool (nOf (D19)), .slice I19 i19 j19] 37)) = W19 at *
                    go_wp2_with fail
                    go_ret
                    exact ⟨rfl, BW.out⟩
                · rw [z1]
                  clear z1
                  obtain ⟨e0, e1, e2, e3⟩ := ZY.out.c4
                  obtain ⟨e4, e5, e6, e7⟩ := ZZ.out.c4
                  go_wp2_with fail
                  ((with_reducible refine (radd_some (resN (p1 * p3) (q1 * q3)) (resD (p1 * p3) (q1 * q3)) (resN (p2 * p3) (q2 * q3)) (resD (p2 * p3) (q2 * q3)) G17 I17 G18 I18 g17 h17 i17 j17 g18 h18 i18 j18 _ U17.out V17.out U18.out V18.out).mono ?_); rintro e x4 ⟨N19, D19, b19, G19, g19, h19, I19, i19, j19, rfl, hs, ht, hb⟩)
                  clear e0 e1 e2 e3 e4 e5 e6 e7
                  have BW := Lib.hid (below_on BW.out hb)
                  have U16 := Lib.hid (U16.out.below hb)
                  have V16 := Lib.hid (V16.out.below hb)
                  have ZX := Lib.hid (ZX.out.below hb)
                  have U17 := Lib.hid (U17.out.below hb)
                  have V17 := Lib.hid (V17.out.below hb)
                  have ZY := Lib.hid (ZY.out.below hb)
                  have U18 := Lib.hid (U18.out.below hb)
                  have V18 := Lib.hid (V18.out.below hb)
                  have ZZ := Lib.hid (ZZ.out.below hb)
                  have K := Lib.hid (RS.out _ _ K.out hb)
                  clear hb
                  have U19 := Lib.hid hs
                  have V19 := Lib.hid ht
                  clear hs ht
                  obtain ⟨e0, e1, e2, e3⟩ := ZY.out.c4
                  obtain ⟨e4, e5, e6, e7⟩ := ZZ.out.c4
                  go_upto_region 19 with fail
                  clear e0 e1 e2 e3 e4 e5 e6 e7
                  have K := Lib.hid (RS.out _ _ K.out ((Below.refl _ _).alloc (Nat.le_refl _) (.cells #[.bool (nOf (N19)), .slice G19 g19 h19, .bool (nOf (D19)), .slice I19 i19 j19] 37)))
                  have ln18 := ZX.out.lt
                  have ln19 := ZY.out.lt
                  have ln20 := ZZ.out.lt
                  have BW := Lib.hid (BW.out.alloc BW.out.size (.cells #[.bool (nOf (N19)), .slice G19 g19 h19, .bool (nOf (D19)), .slice I19 i19 j19] 37))
                  have U16 := Lib.hid (U16.out.alloc (.cells #[.bool (nOf (N19)), .slice G19 g19 h19, .bool (nOf (D19)), .slice I19 i19 j19] 37))
                  have V16 := Lib.hid (V16.out.alloc (.cells #[.bool (nOf (N19)), .slice G19 g19 h19, .bool (nOf (D19)), .slice I19 i19 j19] 37))
                  have ZX := Lib.hid (ZX.out.alloc (.cells #[.bool (nOf (N19)), .slice G19 g19 h19, .bool (nOf (D19)), .slice I19 i19 j19] 37))
                  have U17 := Lib.hid (U17.out.alloc (.cells #[.bool (nOf (N19)), .slice G19 g19 h19, .bool (nOf (D19)), .slice I19 i19 j19] 37))
                  have V17 := Lib.hid (V17.out.alloc (.cells #[.bool (nOf (N19)), .slice G19 g19 h19, .bool (nOf (D19)), .slice I19 i19 j19] 37))
                  have ZY := Lib.hid (ZY.out.alloc (.cells #[.bool (nOf (N19)), .slice G19 g19 h19, .bool (nOf (D19)), .slice I19 i19 j19] 37))
                  have U18 := Lib.hid (U18.out.alloc (.cells #[.bool (nOf (N19)), .slice G19 g19 h19, .bool (nOf (D19)), .slice I19 i19 j19] 37))
                  have V18 := Lib.hid (V18.out.alloc (.cells #[.bool (nOf (N19)), .slice G19 g19 h19, .bool (nOf (D19)), .slice I19 i19 j19] 37))
                  have ZZ := Lib.hid (ZZ.out.alloc (.cells #[.bool (nOf (N19)), .slice G19 g19 h19, .bool (nOf (D19)), .slice I19 i19 j19] 37))
                  have U19 := Lib.hid (U19.out.alloc (.cells #[.bool (nOf (N19)), .slice G19 g19 h19, .bool (nOf (D19)), .slice I19 i19 j19] 37))
                  have V19 := Lib.hid (V19.out.alloc (.cells #[.bool (nOf (N19)), .slice G19 g19 h19, .bool (nOf (D19)), .slice I19 i19 j19] 37))
                  have ZW := Lib.hid (Bk.new 37 x4 #[.bool (nOf (N19)), .slice G19 g19 h19, .bool (nOf (D19)), .slice I19 i19 j19])
                  generalize (x4.alloc (.cells #[.bool (nOf (N19)), .slice G19 g19 h19, .bool (nOf (D19)), .slice I19 i19 j19] 37)) = W19 at *
                  go_wp2_with fail
                  go_ret
                  exact ⟨rfl, BW.out⟩
            · subst f2
              obtain ⟨e0, e1, e2, e3⟩ := YP.out.c4
              obtain ⟨e4, e5, e6, e7⟩ := (RP.out _ K.out).2.2.2.2.2.2.2.1.c4
              go_wp2_with fail
              ((with_reducible refine (rdiv_some (resN (p1 * p2) (q1 * q2)) (resD (p1 * p2) (q1 * q2)) p2 q2 G6 I6 A2 B2 g6 h6 i6 j6 n2 c2 m2 d2 _ U6.out V6.out (RP.out _ K.out).2.2.1 (RP.out _ K.out).2.2.2.1).mono ?_); rintro e y1 ⟨N13, D13, b13, G13, g13, h13, I13, i13, j13, rfl, hs, ht, hb⟩)
              clear e0 e1 e2 e3 e4 e5 e6 e7
              have BW := Lib.hid (below_on BW.out hb)
              have U4 := Lib.hid (U4.out.below hb)
              have V4 := Lib.hid (V4.out.below hb)
              have YS := Lib.hid (YS.out.below hb)
              have U6 := Lib.hid (U6.out.below hb)
              have V6 := Lib.hid (V6.out.below hb)
              have YP := Lib.hid (YP.out.below hb)
              have K := Lib.hid (RS.out _ _ K.out hb)
              clear hb
              have U13 := Lib.hid hs
              have V13 := Lib.hid ht
              clear hs ht
              obtain ⟨e0, e1, e2, e3⟩ := YP.out.c4
              obtain ⟨e4, e5, e6, e7⟩ := (RP.out _ K.out).2.2.2.2.2.2.2.1.c4
              go_upto_region 13 with fail
              clear e0 e1 e2 e3 e4 e5 e6 e7
              have K := Lib.hid (RS.out _ _ K.out ((Below.refl _ _).alloc (Nat.le_refl _) (.cells #[.bool (nOf (N13)), .slice G13 g13 h13, .bool (nOf (D13)), .slice I13 i13 j13] 37)))
              have ln12 := YS.out.lt
              have ln13 := YP.out.lt
              have BW := Lib.hid (BW.out.alloc BW.out.size (.cells #[.bool (nOf (N13)), .slice G13 g13 h13, .bool (nOf (D13)), .slice I13 i13 j13] 37))
              have U4 := Lib.hid (U4.out.alloc (.cells #[.bool (nOf (N13)), .slice G13 g13 h13, .bool (nOf (D13)), .slice I13 i13 j13] 37))
              have V4 := Lib.hid (V4.out.alloc (.cells #[.bool (nOf (N13)), .slice G13 g13 h13, .bool (nOf (D13)), .slice I13 i13 j13] 37))
              have YS := Lib.hid (YS.out.alloc (.cells #[.bool (nOf (N13)), .slice G13 g13 h13, .bool (nOf (D13)), .slice I13 i13 j13] 37))
              have U6 := Lib.hid (U6.out.alloc (.cells #[.bool (nOf (N13)), .slice G13 g13 h13, .bool (nOf (D13)), .slice I13 i13 j13] 37))
              have V6 := Lib.hid (V6.out.alloc (.cells #[.bool (nOf (N13)), .slice G13 g13 h13, .bool (nOf (D13)), .slice I13 i13 j13] 37))
              have YP := Lib.hid (YP.out.alloc (.cells #[.bool (nOf (N13)), .slice G13 g13 h13, .bool (nOf (D13)), .slice I13 i13 j13] 37))
              have U13 := Lib.hid (U13.out.alloc (.cells #[.bool (nOf (N13)), .slice G13 g13 h13, .bool (nOf (D13)), .slice I13 i13 j13] 37))
              have V13 := Lib.hid (V13.out.alloc (.cells #[.bool (nOf (N13)), .slice G13 g13 h13, .bool (nOf (D13)), .slice I13 i13 j13] 37))
              have YE := Lib.hid (Bk.new 37 y1 #[.bool (nOf (N13)), .slice G13 g13 h13, .bool (nOf (D13)), .slice I13 i13 j13])
              generalize (y1.alloc (.cells #[.bool (nOf (N13)), .slice G13 g13 h13, .bool (nOf (D13)), .slice I13 i13 j13] 37)) = W13 at *
              clear YP U6 V6 YE U13 V13
              go_upto_region 15 with fail
              obtain ⟨e0, e1, e2, e3⟩ := YS.out.c4
              obtain ⟨e4, e5, e6, e7⟩ := (RP.out _ K.out).2.2.2.2.2.2.1.c4
              obtain ⟨e8, e9, e10, e11⟩ := (RP.out _ K.out).2.2.2.2.2.2.2.1.c4
              obtain ⟨e12, e13, e14, e15⟩ := (RP.out _ K.out).2.2.2.2.2.2.2.2.c4
              go_wp2_with fail
              ((with_reducible refine (rmul_ok (resN (p1 * q2 + p2 * q1) (q1 * q2)) (resD (p1 * q2 + p2 * q1) (q1 * q2)) p3 q3 (resN (p1 * q2 + p2 * q1) (q1 * q2)) (resD (p1 * q2 + p2 * q1) (q1 * q2)) p3 q3 (resN ((resN (p1 * q2 + p2 * q1) (q1 * q2)) * p3) ((resD (p1 * q2 + p2 * q1) (q1 * q2)) * q3)) (resD ((resN (p1 * q2 + p2 * q1) (q1 * q2)) * p3) ((resD (p1 * q2 + p2 * q1) (q1 * q2)) * q3)) (resB ((resN (p1 * q2 + p2 * q1) (q1 * q2)) * p3) ((resD (p1 * q2 + p2 * q1) (q1 * q2)) * q3)) G4 I4 A3 B3 g4 h4 i4 j4 n3 c3 m3 d3 _ U4.out V4.out (RP.out _ K.out).2.2.2.2.1 (RP.out _ K.out).2.2.2.2.2.1 (fr_of FS.out).1 (fr_of FS.out).2 (fr_of F3.out).1 (fr_of F3.out).2 rfl rfl rfl).mono ?_); rintro e x1 ⟨G16, g16, h16, I16, i16, j16, rfl, hs, ht, hb⟩)
              clear e0 e1 e2 e3 e4 e5 e6 e7 e8 e9 e10 e11 e12 e13 e14 e15
              have BW := Lib.hid (below_on BW.out hb)
              have U4 := Lib.hid (U4.out.below hb)
              have V4 := Lib.hid (V4.out.below hb)
              have YS := Lib.hid (YS.out.below hb)
              have K := Lib.hid (RS.out _ _ K.out hb)
              clear hb
              have U16 := Lib.hid hs
              have V16 := Lib.hid ht
              clear hs ht
              obtain ⟨e0, e1, e2, e3⟩ := YS.out.c4
              obtain ⟨e4, e5, e6, e7⟩ := (RP.out _ K.out).2.2.2.2.2.2.1.c4
              obtain ⟨e8, e9, e10, e11⟩ := (RP.out _ K.out).2.2.2.2.2.2.2.1.c4
              obtain ⟨e12, e13, e14, e15⟩ := (RP.out _ K.out).2.2.2.2.2.2.2.2.c4
              go_upto_region 16 with fail
              clear e0 e1 e2 e3 e4 e5 e6 e7 e8 e9 e10 e11 e12 e13 e14 e15
              have K := Lib.hid (RS.out _ _ K.out ((Below.refl _ _).alloc (Nat.le_refl _) (.cells #[.bool (nOf (resN ((resN (p1 * q2 + p2 * q1) (q1 * q2)) * p3) ((resD (p1 * q2 + p2 * q1) (q1 * q2)) * q3))), .slice G16 g16 h16, .bool (nOf (resD ((resN (p1 * q2 + p2 * q1) (q1 * q2)) * p3) ((resD (p1 * q2 + p2 * q1) (q1 * q2)) * q3))), .slice I16 i16 j16] 37)))
              have ln14 := YS.out.lt
              have BW := Lib.hid (BW.out.alloc BW.out.size (.cells #[.bool (nOf (resN ((resN (p1 * q2 + p2 * q1) (q1 * q2)) * p3) ((resD (p1 * q2 + p2 * q1) (q1 * q2)) * q3))), .slice G16 g16 h16, .bool (nOf (resD ((resN (p1 * q2 + p2 * q1) (q1 * q2)) * p3) ((resD (p1 * q2 + p2 * q1) (q1 * q2)) * q3))), .slice I16 i16 j16] 37))
              have U4 := Lib.hid (U4.out.alloc (.cells #[.bool (nOf (resN ((resN (p1 * q2 + p2 * q1) (q1 * q2)) * p3) ((resD (p1 * q2 + p2 * q1) (q1 * q2)) * q3))), .slice G16 g16 h16, .bool (nOf (resD ((resN (p1 * q2 + p2 * q1) (q1 * q2)) * p3) ((resD (p1 * q2 + p2 * q1) (q1 * q2)) * q3))), .slice I16 i16 j16] 37))
              have V4 := Lib.hid (V4.out.alloc (.cells #[.bool (nOf (resN ((resN (p1 * q2 + p2 * q1) (q1 * q2)) * p3) ((resD (p1 * q2 + p2 * q1) (q1 * q2)) * q3))), .slice G16 g16 h16, .bool (nOf (resD ((resN (p1 * q2 + p2 * q1) (q1 * q2)) * p3) ((resD (p1 * q2 + p2 * q1) (q1 * q2)) * q3))), .slice I16 i16 j16] 37))
              have YS := Lib.hid (YS.out.alloc (.cells #[.bool (nOf (resN ((resN (p1 * q2 + p2 * q1) (q1 * q2)) * p3) ((resD (p1 * q2 + p2 * q1) (q1 * q2)) * q3))), .slice G16 g16 h16, .bool (nOf (resD ((resN (p1 * q2 + p2 * q1) (q1 * q2)) * p3) ((resD (p1 * q2 + p2 * q1) (q1 * q2)) * q3))), .slice I16 i16 j16] 37))
              have U16 := Lib.hid (U16.out.alloc (.cells #[.bool (nOf (resN ((resN (p1 * q2 + p2 * q1) (q1 * q2)) * p3) ((resD (p1 * q2 + p2 * q1) (q1 * q2)) * q3))), .slice G16 g16 h16, .bool (nOf (resD ((resN (p1 * q2 + p2 * q1) (q1 * q2)) * p3) ((resD (p1 * q2 + p2 * q1) (q1 * q2)) * q3))), .slice I16 i16 j16] 37))
              have V16 := Lib.hid (V16.out.alloc (.cells #[.bool (nOf (resN ((resN (p1 * q2 + p2 * q1) (q1 * q2)) * p3) ((resD (p1 * q2 + p2 * q1) (q1 * q2)) * q3))), .slice G16 g16 h16, .bool (nOf (resD ((resN (p1 * q2 + p2 * q1) (q1 * q2)) * p3) ((resD (p1 * q2 + p2 * q1) (q1 * q2)) * q3))), .slice I16 i16 j16] 37))
              have ZX := Lib.hid (Bk.new 37 x1 #[.bool (nOf (resN ((resN (p1 * q2 + p2 * q1) (q1 * q2)) * p3) ((resD (p1 * q2 + p2 * q1) (q1 * q2)) * q3))), .slice G16 g16 h16, .bool (nOf (resD ((resN (p1 * q2 + p2 * q1) (q1 * q2)) * p3) ((resD (p1 * q2 + p2 * q1) (q1 * q2)) * q3))), .slice I16 i16 j16])
              generalize (x1.alloc (.cells #[.bool (nOf (resN ((resN (p1 * q2 + p2 * q1) (q1 * q2)) * p3) ((resD (p1 * q2 + p2 * q1) (q1 * q2)) * q3))), .slice G16 g16 h16, .bool (nOf (resD ((resN (p1 * q2 + p2 * q1) (q1 * q2)) * p3) ((resD (p1 * q2 + p2 * q1) (q1 * q2)) * q3))), .slice I16 i16 j16] 37)) = W16 at *
              clear YS U4 V4
              obtain ⟨e0, e1, e2, e3⟩ := (RP.out _ K.out).2.2.2.2.2.2.1.c4
              obtain ⟨e4, e5, e6, e7⟩ := (RP.out _ K.out).2.2.2.2.2.2.2.1.c4
              obtain ⟨e8, e9, e10, e11⟩ := (RP.out _ K.out).2.2.2.2.2.2.2.2.c4
              go_wp2_with fail
              ((with_reducible refine (rmul_ok p1 q1 p3 q3 p1 q1 p3 q3 (resN (p1 * p3) (q1 * q3)) (resD (p1 * p3) (q1 * q3)) (resB (p1 * p3) (q1 * q3)) A1 B1 A3 B3 n1 c1 m1 d1 n3 c3 m3 d3 _ (RP.out _ K.out).1 (RP.out _ K.out).2.1 (RP.out _ K.out).2.2.2.2.1 (RP.out _ K.out).2.2.2.2.2.1 (fr_of F1.out).1 (fr_of F1.out).2 (fr_of F3.out).1 (fr_of F3.out).2 rfl rfl rfl).mono ?_); rintro e x2 ⟨G17, g17, h17, I17, i17, j17, rfl, hs, ht, hb⟩)
              clear e0 e1 e2 e3 e4 e5 e6 e7 e8 e9 e10 e11
              have BW := Lib.hid (below_on BW.out hb)
              have U16 := Lib.hid (U16.out.below hb)
              have V16 := Lib.hid (V16.out.below hb)
              have ZX := Lib.hid (ZX.out.below hb)
              have K := Lib.hid (RS.out _ _ K.out hb)
              clear hb
              have U17 := Lib.hid hs
              have V17 := Lib.hid ht
              clear hs ht
              obtain ⟨e0, e1, e2, e3⟩ := (RP.out _ K.out).2.2.2.2.2.2.1.c4
              obtain ⟨e4, e5, e6, e7⟩ := (RP.out _ K.out).2.2.2.2.2.2.2.1.c4
              obtain ⟨e8, e9, e10, e11⟩ := (RP.out _ K.out).2.2.2.2.2.2.2.2.c4
              go_upto_region 17 with fail
              clear e0 e1 e2 e3 e4 e5 e6 e7 e8 e9 e10 e11
              have K := Lib.hid (RS.out _ _ K.out ((Below.refl _ _).alloc (Nat.le_refl _) (.cells #[.bool (nOf (resN (p1 * p3) (q1 * q3))), .slice G17 g17 h17, .bool (nOf (resD (p1 * p3) (q1 * q3))), .slice I17 i17 j17] 37)))
              have ln15 := ZX.out.lt
              have BW := Lib.hid (BW.out.alloc BW.out.size (.cells #[.bool (nOf (resN (p1 * p3) (q1 * q3))), .slice G17 g17 h17, .bool (nOf (resD (p1 * p3) (q1 * q3))), .slice I17 i17 j17] 37))
              have U16 := Lib.hid (U16.out.alloc (.cells #[.bool (nOf (resN (p1 * p3) (q1 * q3))), .slice G17 g17 h17, .bool (nOf (resD (p1 * p3) (q1 * q3))), .slice I17 i17 j17] 37))
              have V16 := Lib.hid (V16.out.alloc (.cells #[.bool (nOf (resN (p1 * p3) (q1 * q3))), .slice G17 g17 h17, .bool (nOf (resD (p1 * p3) (q1 * q3))), .slice I17 i17 j17] 37))
              have ZX := Lib.hid (ZX.out.alloc (.cells #[.bool (nOf (resN (p1 * p3) (q1 * q3))), .slice G17 g17 h17, .bool (nOf (resD (p1 * p3) (q1 * q3))), .slice I17 i17 j17] 37))
              have U17 := Lib.hid (U17.out.alloc (.cells #[.bool (nOf (resN (p1 * p3) (q1 * q3))), .slice G17 g17 h17, .bool (nOf (resD (p1 * p3) (q1 * q3))), .slice I17 i17 j17] 37))
              have V17 := Lib.hid (V17.out.alloc (.cells #[.bool (nOf (resN (p1 * p3) (q1 * q3))), .slice G17 g17 h17, .bool (nOf (resD (p1 * p3) (q1 * q3))), .slice I17 i17 j17] 37))
              have ZY := Lib.hid (Bk.new 37 x2 #[.bool (nOf (resN (p1 * p3) (q1 * q3))), .slice G17 g17 h17, .bool (nOf (resD (p1 * p3) (q1 * q3))), .slice I17 i17 j17])
              generalize (x2.alloc (.cells #[.bool (nOf (resN (p1 * p3) (q1 * q3))), .slice G17 g17 h17, .bool (nOf (resD (p1 * p3) (q1 * q3))), .slice I17 i17 j17] 37)) = W17 at *
              obtain ⟨e0, e1, e2, e3⟩ := (RP.out _ K.out).2.2.2.2.2.2.1.c4
              obtain ⟨e4, e5, e6, e7⟩ := (RP.out _ K.out).2.2.2.2.2.2.2.1.c4
              obtain ⟨e8, e9, e10, e11⟩ := (RP.out _ K.out).2.2.2.2.2.2.2.2.c4
              go_wp2_with fail
              ((with_reducible refine (rmul_ok p2 q2 p3 q3 p2 q2 p3 q3 (resN (p2 * p3) (q2 * q3)) (resD (p2 * p3) (q2 * q3)) (resB (p2 * p3) (q2 * q3)) A2 B2 A3 B3 n2 c2 m2 d2 n3 c3 m3 d3 _ (RP.out _ K.out).2.2.1 (RP.out _ K.out).2.2.2.1 (RP.out _ K.out).2.2.2.2.1 (RP.out _ K.out).2.2.2.2.2.1 (fr_of F2.out).1 (fr_of F2.out).2 (fr_of F3.out).1 (fr_of F3.out).2 rfl rfl rfl).mono ?_); rintro e x3 ⟨G18, g18, h18, I18, i18, j18, rfl, hs, ht, hb⟩)
              clear e0 e1 e2 e3 e4 e5 e6 e7 e8 e9 e10 e11
              have BW := Lib.hid (below_on BW.out hb)
              have U16 := Lib.hid (U16.out.below hb)
              have V16 := Lib.hid (V16.out.below hb)
              have ZX := Lib.hid (ZX.out.below hb)
              have U17 := Lib.hid (U17.out.below hb)
              have V17 := Lib.hid (V17.out.below hb)
              have ZY := Lib.hid (ZY.out.below hb)
              have K := Lib.hid (RS.out _ _ K.out hb)
              clear hb
              have U18 := Lib.hid hs
              have V18 := Lib.hid ht
              clear hs ht
              obtain ⟨e0, e1, e2, e3⟩ := (RP.out _ K.out).2.2.2.2.2.2.1.c4
              obtain ⟨e4, e5, e6, e7⟩ := (RP.out _ K.out).2.2.2.2.2.2.2.1.c4
              obtain ⟨e8, e9, e10, e11⟩ := (RP.out _ K.out).2.2.2.2.2.2.2.2.c4
              go_upto_region 18 with fail
              clear e0 e1 e2 e3 e4 e5 e6 e7 e8 e9 e10 e11
              have K := Lib.hid (RS.out _ _ K.out ((Below.refl _ _).alloc (Nat.le_refl _) (.cells #[.bool (nOf (resN (p2 * p3) (q2 * q3))), .slice G18 g18 h18, .bool (nOf (resD (p2 * p3) (q2 * q3))), .slice I18 i18 j18] 37)))
              have ln16 := ZX.out.lt
              have ln17 := ZY.out.lt
              have BW := Lib.hid (BW.out.alloc BW.out.size (.cells #[.bool (nOf (resN (p2 * p3) (q2 * q3))), .slice G18 g18 h18, .bool (nOf (resD (p2 * p3) (q2 * q3))), .slice I18 i18 j18] 37))
              have U16 := Lib.hid (U16.out.alloc (.cells #[.bool (nOf (resN (p2 * p3) (q2 * q3))), .slice G18 g18 h18, .bool (nOf (resD (p2 * p3) (q2 * q3))), .slice I18 i18 j18] 37))
              have V16 := Lib.hid (V16.out.alloc (.cells #[.bool (nOf (resN (p2 * p3) (q2 * q3))), .slice G18 g18 h18, .bool (nOf (resD (p2 * p3) (q2 * q3))), .slice I18 i18 j18] 37))
              have ZX := Lib.hid (ZX.out.alloc (.cells #[.bool (nOf (resN (p2 * p3) (q2 * q3))), .slice G18 g18 h18, .bool (nOf (resD (p2 * p3) (q2 * q3))), .slice I18 i18 j18] 37))
              have U17 := Lib.hid (U17.out.alloc (.cells #[.bool (nOf (resN (p2 * p3) (q2 * q3))), .slice G18 g18 h18, .bool (nOf (resD (p2 * p3) (q2 * q3))), .slice I18 i18 j18] 37))
              have V17 := Lib.hid (V17.out.alloc (.cells #[.bool (nOf (resN (p2 * p3) (q2 * q3))), .slice G18 g18 h18, .bool (nOf (resD (p2 * p3) (q2 * q3))), .slice I18 i18 j18] 37))
              have ZY := Lib.hid (ZY.out.alloc (.cells #[.bool (nOf (resN (p2 * p3) (q2 * q3))), .slice G18 g18 h18, .bool (nOf (resD (p2 * p3) (q2 * q3))), .slice I18 i18 j18] 37))
              have U18 := Lib.hid (U18.out.alloc (.cells #[.bool (nOf (resN (p2 * p3) (q2 * q3))), .slice G18 g18 h18, .bool (nOf (resD (p2 * p3) (q2 * q3))), .slice I18 i18 j18] 37))
              have V18 := Lib.hid (V18.out.alloc (.cells #[.bool (nOf (resN (p2 * p3) (q2 * q3))), .slice G18 g18 h18, .bool (nOf (resD (p2 * p3) (q2 * q3))), .slice I18 i18 j18] 37))
              have ZZ := Lib.hid (Bk.new 37 x3 #[.bool (nOf (resN (p2 * p3) (q2 * q3))), .slice G18 g18 h18, .bool (nOf (resD (p2 * p3) (q2 * q3))), .slice I18 i18 j18])
              generalize (x3.alloc (.cells #[.bool (nOf (resN (p2 * p3) (q2 * q3))), .slice G18 g18 h18, .bool (nOf (resD (p2 * p3) (q2 * q3))), .slice I18 i18 j18] 37)) = W18 at *
              rcases Bool.eq_false_or_eq_true (resB ((resN (p1 * q2 + p2 * q1) (q1 * q2)) * p3) ((resD (p1 * q2 + p2 * q1) (q1 * q2)) * q3)) with z1 | z1
              · have Z1 := Lib.hid z1
                rw [z1]
                clear z1
                rcases Bool.eq_false_or_eq_true (resB (p1 * p3) (q1 * q3)) with z2 | z2
                · have Z2 := Lib.hid z2
                  rw [z2]
                  clear z2
                  rcases Bool.eq_false_or_eq_true (resB (p2 * p3) (q2 * q3)) with z3 | z3
                  · have Z3 := Lib.hid z3
                    rw [z3]
                    clear z3
                    have DI := Lib.hid (dist F1.out.pos F2.out.pos F3.out.pos HB1.out Z2.out Z3.out)
                    obtain ⟨e0, e1, e2, e3⟩ := ZY.out.c4
                    obtain ⟨e4, e5, e6, e7⟩ := ZZ.out.c4
                    go_wp2_with fail
                    ((with_reducible refine (radd_ok (resN (p1 * p3) (q1 * q3)) (resD (p1 * p3) (q1 * q3)) (resN (p2 * p3) (q2 * q3)) (resD (p2 * p3) (q2 * q3)) (resN (p1 * p3) (q1 * q3)) (resD (p1 * p3) (q1 * q3)) (resN (p2 * p3) (q2 * q3)) (resD (p2 * p3) (q2 * q3)) (resN ((resN (p1 * q2 + p2 * q1) (q1 * q2)) * p3) ((resD (p1 * q2 + p2 * q1) (q1 * q2)) * q3)) (resD ((resN (p1 * q2 + p2 * q1) (q1 * q2)) * p3) ((resD (p1 * q2 + p2 * q1) (q1 * q2)) * q3)) true G17 I17 G18 I18 g17 h17 i17 j17 g18 h18 i18 j18 _ U17.out V17.out U18.out V18.out (fr_of (Fr.res Z2.out)).1 (fr_of (Fr.res Z2.out)).2 (fr_of (Fr.res Z3.out)).1 (fr_of (Fr.res Z3.out)).2 DI.out.1 DI.out.2.1 (DI.out.2.2.trans Z1.out)).mono ?_); rintro e x4 ⟨G19, g19, h19, I19, i19, j19, rfl, hs, ht, hb⟩)
                    clear e0 e1 e2 e3 e4 e5 e6 e7
                    have BW := Lib.hid (below_on BW.out hb)
                    have U16 := Lib.hid (U16.out.below hb)
                    have V16 := Lib.hid (V16.out.below hb)
                    have ZX := Lib.hid (ZX.out.below hb)
                    have U17 := Lib.hid (U17.out.below hb)
                    have V17 := Lib.hid (V17.out.below hb)
                    have ZY := Lib.hid (ZY.out.below hb)
                    have U18 := Lib.hid (U18.out.below hb)
                    have V18 := Lib.hid (V18.out.below hb)
                    have ZZ := Lib.hid (ZZ.out.below hb)
                    have K := Lib.hid (RS.out _ _ K.out hb)
                    clear hb
                    have U19 := Lib.hid hs
                    have V19 := Lib.hid ht
                    clear hs ht
                    obtain ⟨e0, e1, e2, e3⟩ := ZY.out.c4
                    obtain ⟨e4, e5, e6, e7⟩ := ZZ.out.c4
                    go_upto_region 19 with fail
                    clear e0 e1 e2 e3 e4 e5 e6 e7
                    have K := Lib.hid (RS.out _ _ K.out ((Below.refl _ _).alloc (Nat.le_refl _) (.cells #[.bool (nOf (resN ((resN (p1 * q2 + p2 * q1) (q1 * q2)) * p3) ((resD (p1 * q2 + p2 * q1) (q1 * q2)) * q3))), .slice G19 g19 h19, .bool (nOf (resD ((resN (p1 * q2 + p2 * q1) (q1 * q2)) * p3) ((resD (p1 * q2 + p2 * q1) (q1 * q2)) * q3))), .slice I19 i19 j19] 37)))
                    have ln18 := ZX.out.lt
                    have ln19 := ZY.out.lt
                    have ln20 := ZZ.out.lt
                    have BW := Lib.hid (BW.out.alloc BW.out.size (.cells #[.bool (nOf (resN ((resN (p1 * q2 + p2 * q1) (q1 * q2)) * p3) ((resD (p1 * q2 + p2 * q1) (q1 * q2)) * q3))), .slice G19 g19 h19, .bool (nOf (resD ((resN (p1 * q2 + p2 * q1) (q1 * q2)) * p3) ((resD (p1 * q2 + p2 * q1) (q1 * q2)) * q3))), .slice I19 i19 j19] 37))
                    have U16 := Lib.hid (U16.out.alloc (.cells #[.bool (nOf (resN ((resN (p1 * q2 + p2 * q1) (q1 * q2)) * p3) ((resD (p1 * q2 + p2 * q1) (q1 * q2)) * q3))), .slice G19 g19 h19, .bool (nOf (resD ((resN (p1 * q2 + p2 * q1) (q1 * q2)) * p3) ((resD (p1 * q2 + p2 * q1) (q1 * q2)) * q3))), .slice I19 i19 j19] 37))
                    have V16 := Lib.hid (V16.out.alloc (.cells #[.bool (nOf (resN ((resN (p1 * q2 + p2 * q1) (q1 * q2)) * p3) ((resD (p1 * q2 + p2 * q1) (q1 * q2)) * q3))), .slice G19 g19 h19, .bool (nOf (resD ((resN (p1 * q2 + p2 * q1) (q1 * q2)) * p3) ((resD (p1 * q2 + p2 * q1) (q1 * q2)) * q3))), .slice I19 i19 j19] 37))
                    have ZX := Lib.hid (ZX.out.alloc (.cells #[.bool (nOf (resN ((resN (p1 * q2 + p2 * q1) (q1 * q2)) * p3) ((resD (p1 * q2 + p2 * q1) (q1 * q2)) * q3))), .slice G19 g19 h19, .bool (nOf (resD ((resN (p1 * q2 + p2 * q1) (q1 * q2)) * p3) ((resD (p1 * q2 + p2 * q1) (q1 * q2)) * q3))), .slice I19 i19 j19] 37))
                    have U17 := Lib.hid (U17.out.alloc (.cells #[.bool (nOf (resN ((resN (p1 * q2 + p2 * q1) (q1 * q2)) * p3) ((resD (p1 * q2 + p2 * q1) (q1 * q2)) * q3))), .slice G19 g19 h19, .bool (nOf (resD ((resN (p1 * q2 + p2 * q1) (q1 * q2)) * p3) ((resD (p1 * q2 + p2 * q1) (q1 * q2)) * q3))), .slice I19 i19 j19] 37))
                    have V17 := Lib.hid (V17.out.alloc (.cells #[.bool (nOf (resN ((resN (p1 * q2 + p2 * q1) (q1 * q2)) * p3) ((resD (p1 * q2 + p2 * q1) (q1 * q2)) * q3))), .slice G19 g19 h19, .bool (nOf (resD ((resN (p1 * q2 + p2 * q1) (q1 * q2)) * p3) ((resD (p1 * q2 + p2 * q1) (q1 * q2)) * q3))), .slice I19 i19 j19] 37))
                    have ZY := Lib.hid (ZY.out.alloc (.cells #[.bool (nOf (resN ((resN (p1 * q2 + p2 * q1) (q1 * q2)) * p3) ((resD (p1 * q2 + p2 * q1) (q1 * q2)) * q3))), .slice G19 g19 h19, .bool (nOf (resD ((resN (p1 * q2 + p2 * q1) (q1 * q2)) * p3) ((resD (p1 * q2 + p2 * q1) (q1 * q2)) * q3))), .slice I19 i19 j19] 37))
                    have U18 := Lib.hid (U18.out.alloc (.cells #[.bool (nOf (resN ((resN (p1 * q2 + p2 * q1) (q1 * q2)) * p3) ((resD (p1 * q2 + p2 * q1) (q1 * q2)) * q3))), .slice G19 g19 h19, .bool (nOf (resD ((resN (p1 * q2 + p2 * q1) (q1 * q2)) * p3) ((resD (p1 * q2 + p2 * q1) (q1 * q2)) * q3))), .slice I19 i19 j19] 37))
                    have V18 := Lib.hid (V18.out.alloc (.cells #[.bool (nOf (resN ((resN (p1 * q2 + p2 * q1) (q1 * q2)) * p3) ((resD (p1 * q2 + p2 * q1) (q1 * q2)) * q3))), .slice G19 g19 h19, .bool (nOf (resD ((resN (p1 * q2 + p2 * q1) (q1 * q2)) * p3) ((resD (p1 * q2 + p2 * q1) (q1 * q2)) * q3))), .slice I19 i19 j19] 37))
                    have ZZ := Lib.hid (ZZ.out.alloc (.cells #[.bool (nOf (resN ((resN (p1 * q2 + p2 * q1) (q1 * q2)) * p3) ((resD (p1 * q2 + p2 * q1) (q1 * q2)) * q3))), .slice G19 g19 h19, .bool (nOf (resD ((resN (p1 * q2 + p2 * q1) (q1 * q2)) * p3) ((resD (p1 * q2 + p2 * q1) (q1 * q2)) * q3))), .slice I19 i19 j19] 37))
                    have U19 := Lib.hid (U19.out.alloc (.cells #[.bool (nOf (resN ((resN (p1 * q2 + p2 * q1) (q1 * q2)) * p3) ((resD (p1 * q2 + p2 * q1) (q1 * q2)) * q3))), .slice G19 g19 h19, .bool (nOf (resD ((resN (p1 * q2 + p2 * q1) (q1 * q2)) * p3) ((resD (p1 * q2 + p2 * q1) (q1 * q2)) * q3))), .slice I19 i19 j19] 37))
                    have V19 := Lib.hid (V19.out.alloc (.cells #[.bool (nOf (resN ((resN (p1 * q2 + p2 * q1) (q1 * q2)) * p3) ((resD (p1 * q2 + p2 * q1) (q1 * q2)) * q3))), .slice G19 g19 h19, .bool (nOf (resD ((resN (p1 * q2 + p2 * q1) (q1 * q2)) * p3) ((resD (p1 * q2 + p2 * q1) (q1 * q2)) * q3))), .slice I19 i19 j19] 37))
                    have ZW := Lib.hid (Bk.new 37 x4 #[.bool (nOf (resN ((resN (p1 * q2 + p2 * q1) (q1 * q2)) * p3) ((resD (p1 * q2 + p2 * q1) (q1 * q2)) * q3))), .slice G19 g19 h19, .bool (nOf (resD ((resN (p1 * q2 + p2 * q1) (q1 * q2)) * p3) ((resD (p1 * q2 + p2 * q1) (q1 * q2)) * q3))), .slice I19 i19 j19])
                    generalize (x4.alloc (.cells #[.bool (nOf (resN ((resN (p1 * q2 + p2 * q1) (q1 * q2)) * p3) ((resD (p1 * q2 + p2 * q1) (q1 * q2)) * q3))), .slice G19 g19 h19, .bool (nOf (resD ((resN (p1 * q2 + p2 * q1) (q1 * q2)) * p3) ((resD (p1 * q2 + p2 * q1) (q1 * q2)) * q3))), .slice I19 i19 j19] 37)) = W19 at *
                    obtain ⟨e0, e1, e2, e3⟩ := ZX.out.c4
                    obtain ⟨e4, e5, e6, e7⟩ := ZW.out.c4
                    go_wp2_with fail
                    ((with_reducible refine (samer_ok (resN ((resN (p1 * q2 + p2 * q1) (q1 * q2)) * p3) ((resD (p1 * q2 + p2 * q1) (q1 * q2)) * q3)) (resD ((resN (p1 * q2 + p2 * q1) (q1 * q2)) * p3) ((resD (p1 * q2 + p2 * q1) (q1 * q2)) * q3)) (resN ((resN (p1 * q2 + p2 * q1) (q1 * q2)) * p3) ((resD (p1 * q2 + p2 * q1) (q1 * q2)) * q3)) (resD ((resN (p1 * q2 + p2 * q1) (q1 * q2)) * p3) ((resD (p1 * q2 + p2 * q1) (q1 * q2)) * q3)) G16 I16 G19 I19 g16 h16 i16 j16 g19 h19 i19 j19 _ U16.out V16.out U19.out V19.out rfl rfl).mono ?_); rintro e x5 ⟨rfl, hb⟩)
                    clear e0 e1 e2 e3 e4 e5 e6 e7
                    have BW := Lib.hid (below_on BW.out hb)
                    have U16 := Lib.hid (U16.out.below hb)
                    have V16 := Lib.hid (V16.out.below hb)
                    have ZX := Lib.hid (ZX.out.below hb)
                    have U17 := Lib.hid (U17.out.below hb)
                    have V17 := Lib.hid (V17.out.below hb)
                    have ZY := Lib.hid (ZY.out.below hb)
                    have U18 := Lib.hid (U18.out.below hb)
                    have V18 := Lib.hid (V18.out.below hb)
                    have ZZ := Lib.hid (ZZ.out.below hb)
                    have U19 := Lib.hid (U19.out.below hb)
                    have V19 := Lib.hid (V19.out.below hb)
                    have ZW := Lib.hid (ZW.out.below hb)
                    have K := Lib.hid (RS.out _ _ K.out hb)
                    clear hb
                    go_wp2_with fail
                    go_ret
                    exact ⟨rfl, BW.out⟩
                  · rw [z3]
                    clear z3
                    obtain ⟨e0, e1, e2, e3⟩ := ZY.out.c4
                    obtain ⟨e4, e5, e6, e7⟩ := ZZ.out.c4
                    go_wp2_with fail
                    ((with_reducible refine (radd_some (resN (p1 * p3) (q1 * q3)) (resD (p1 * p3) (q1 * q3)) (resN (p2 * p3) (q2 * q3)) (resD (p2 * p3) (q2 * q3)) G17 I17 G18 I18 g17 h17 i17 j17 g18 h18 i18 j18 _ U17.out V17.out U18.out V18.out).mono ?_); rintro e x4 ⟨N19, D19, b19, G19, g19, h19, I19, i19, j19, rfl, hs, ht, hb⟩)
                    clear e0 e1 e2 e3 e4 e5 e6 e7
                    have BW := Lib.hid (below_on BW.out hb)
                    have U16 := Lib.hid (U16.out.below hb)
                    have V16 := Lib.hid (V16.out.below hb)
                    have ZX := Lib.hid (ZX.out.below hb)
                    have U17 := Lib.hid (U17.out.below hb)
                    have V17 := Lib.hid (V17.out.below hb)
                    have ZY := Lib.hid (ZY.out.below hb)
                    have U18 := Lib.hid (U18.out.below hb)
                    have V18 := Lib.hid (V18.out.below hb)
                    have ZZ := Lib.hid (ZZ.out.below hb)
                    have K := Lib.hid (RS.out _ _ K.out hb)
                    clear hb
                    have U19 := Lib.hid hs
                    have V19 := Lib.hid ht
                    clear hs ht
                    obtain ⟨e0, e1, e2, e3⟩ := ZY.out.c4
                    obtain ⟨e4, e5, e6, e7⟩ := ZZ.out.c4
                    go_upto_region 19 with fail
                    clear e0 e1 e2 e3 e4 e5 e6 e7
                    have K := Lib.hid (RS.out _ _ K.out ((Below.refl _ _).alloc (Nat.le_refl _) (.cells #[.bool (nOf (N19)), .slice G19 g19 h19, .bool (nOf (D19)), .slice I19 i19 j19] 37)))
                    have ln18 := ZX.out.lt
                    have ln19 := ZY.out.lt
                    have ln20 := ZZ.out.lt
                    have BW := Lib.hid (BW.out.alloc BW.out.size (.cells #[.bool (nOf (N19)), .slice G19 g19 h19, .bool (nOf (D19)), .slice I19 i19 j19] 37))
                    have U16 := Lib.hid (U16.out.alloc (.cells #[.bool (nOf (N19)), .slice G19 g19 h19, .bool (nOf (D19)), .slice I19 i19 j19] 37))
                    have V16 := Lib.hid (V16.out.alloc (.cells #[.bool (nOf (N19)), .slice G19 g19 h19, .bool (nOf (D19)), .slice I19 i19 j19] 37))
                    have ZX := Lib.hid (ZX.out.alloc (.cells #[.bool (nOf (N19)), .slice G19 g19 h19, .bool (nOf (D19)), .slice I19 i19 j19] 37))
                    have U17 := Lib.hid (U17.out.alloc (.cells #[.bool (nOf (N19)), .slice G19 g19 h19, .bool (nOf (D19)), .slice I19 i19 j19] 37))
                    have V17 := Lib.hid (V17.out.alloc (.cells #[.bool (nOf (N19)), .slice G19 g19 h19, .bool (nOf (D19)), .slice I19 i19 j19] 37))
                    have ZY := Lib.hid (ZY.out.alloc (.cells #[.bool (nOf (N19)), .slice G19 g19 h19, .bool (nOf (D19)), .slice I19 i19 j19] 37))
                    have U18 := Lib.hid (U18.out.alloc (.cells #[.bool (nOf (N19)), .slice G19 g19 h19, .bool (nOf (D19)), .slice I19 i19 j19] 37))
                    have V18 := Lib.hid (V18.out.alloc (.cells #[.bool (nOf (N19)), .slice G19 g19 h19, .bool (nOf (D19)), .slice I19 i19 j19] 37))
                    have ZZ := Lib.hid (ZZ.out.alloc (.cells #[.bool (nOf (N19)), .slice G19 g19 h19, .bool (nOf (D19)), .slice I19 i19 j19] 37))
                    have U19 := Lib.hid (U19.out.alloc (.cells #[.bool (nOf (N19)), .slice G19 g19 h19, .bool (nOf (D19)), .slice I19 i19 j19] 37))
                    have V19 := Lib.hid (V19.out.alloc (.cells #[.bool (nOf (N19)), .slice G19 g19 h19, .bool (nOf (D19)), .slice I19 i19 j19] 37))
                    have ZW := Lib.hid (Bk.new 37 x4 #[.bool (nOf (N19)), .slice G19 g19 h19, .bool (nOf (D19)), .slice I19 i19 j19])
                    generalize (x4.alloc (.cells #[.bool (nOf (N19)), .slice G19 g19 h19, .bool (nOf (D19)), .slice I19 i19 j19] 37)) = W19 at *
                    go_wp2_with fail
                    go_ret
                    exact ⟨rfl, BW.out⟩
                · rw [z2]
                  clear z2
                  obtain ⟨e0, e1, e2, e3⟩ := ZY.out.c4
                  obtain ⟨e4, e5, e6, e7⟩ := ZZ.out.c4
                  go_wp2_with fail
                  ((with_reducible refine (radd_some (resN (p1 * p3) (q1 * q3)) (resD (p1 * p3) (q1 * q3)) (resN (p2 * p3) (q2 * q3)) (resD (p2 * p3) (q2 * q3)) G17 I17 G18 I18 g17 h17 i17 j17 g18 h18 i18 j18 _ U17.out V17.out U18.out V18.out).mono ?_); rintro e x4 ⟨N19, D19, b19, G19, g19, h19, I19, i19, j19, rfl, hs, ht, hb⟩)
                  clear e0 e1 e2 e3 e4 e5 e6 e7
                  have BW := Lib.hid (below_on BW.out hb)
                  have U16 := Lib.hid (U16.out.below hb)
                  have V16 := Lib.hid (V16.out.below hb)
                  have ZX := Lib.hid (ZX.out.below hb)
                  have U17 := Lib.hid (U17.out.below hb)
                  have V17 := Lib.hid (V17.out.below hb)
                  have ZY := Lib.hid (ZY.out.below hb)
                  have U18 := Lib.hid (U18.out.below hb)
                  have V18 := Lib.hid (V18.out.below hb)
                  have ZZ := Lib.hid (ZZ.out.below hb)
                  have K := Lib.hid (RS.out _ _ K.out hb)
                  clear hb
                  have U19 := Lib.hid hs
                  have V19 := Lib.hid ht
                  clear hs ht
                  obtain ⟨e0, e1, e2, e3⟩ := ZY.out.c4
                  obtain ⟨e4, e5, e6, e7⟩ := ZZ.out.c4
                  go_upto_region 19 with fail
                  clear e0 e1 e2 e3 e4 e5 e6 e7
                  have K := Lib.hid (RS.out _ _ K.out ((Below.refl _ _).alloc (Nat.le_refl _) (.cells #[.bool (nOf (N19)), .slice G19 g19 h19, .bool (nOf (D19)), .slice I19 i19 j19] 37)))
                  have ln18 := ZX.out.lt
                  have ln19 := ZY.out.lt
                  have ln20 := ZZ.out.lt
                  have BW := Lib.hid (BW.out.alloc BW.out.size (.cells #[.bool (nOf (N19)), .slice G19 g19 h19, .bool (nOf (D19)), .slice I19 i19 j19] 37))
                  have U16 := Lib.hid (U16.out.alloc (.cells #[.bool (nOf (N19)), .slice G19 g19 h19, .bool (nOf (D19)), .slice I19 i19 j19] 37))
                  have V16 := Lib.hid (V16.out.alloc (.cells #[.bool (nOf (N19)), .slice G19 g19 h19, .bool (nOf (D19)), .slice I19 i19 j19] 37))
                  have ZX := Lib.hid (ZX.out.alloc (.cells #[.bool (nOf (N19)), .slice G19 g19 h19, .bool (nOf (D19)), .slice I19 i19 j19] 37))
                  have U17 := Lib.hid (U17.out.alloc (.cells #[.bool (nOf (N19)), .slice G19 g19 h19, .bool (nOf (D19)), .slice I19 i19 j19] 37))
                  have V17 := Lib.hid (V17.out.alloc (.cells #[.bool (nOf (N19)), .slice G19 g19 h19, .bool (nOf (D19)), .slice I19 i19 j19] 37))
                  have ZY := Lib.hid (ZY.out.alloc (.cells #[.bool (nOf (N19)), .slice G19 g19 h19, .bool (nOf (D19)), .slice I19 i19 j19] 37))
                  have U18 := Lib.hid (U18.out.alloc (.cells #[.bool (nOf (N19)), .slice G19 g19 h19, .bool (nOf (D19)), .slice I19 i19 j19] 37))
                  have V18 := Lib.hid (V18.out.alloc (.cells #[.bool (nOf (N19)), .slice G19 g19 h19, .bool (nOf (D19)), .slice I19 i19 j19] 37))
                  have ZZ := Lib.hid (ZZ.out.alloc (.cells #[.bool (nOf (N19)), .slice G19 g19 h19, .bool (nOf (D19)), .slice I19 i19 j19] 37))
                  have U19 := Lib.hid (U19.out.alloc (.cells #[.bool (nOf (N19)), .slice G19 g19 h19, .bool (nOf (D19)), .slice I19 i19 j19] 37))
                  have V19 := Lib.hid (V19.out.alloc (.cells #[.bool (nOf (N19)), .slice G19 g19 h19, .bool (nOf (D19)), .slice I19 i19 j19] 37))
                  have ZW := Lib.hid (Bk.new 37 x4 #[.bool (nOf (N19)), .slice G19 g19 h19, .bool (nOf (D19)), .slice I19 i19 j19])
                  generalize (x4.alloc (.cells #[.bool (nOf (N19)), .slice G19 g19 h19, .bool (nOf (D19)), .slice I19 i19 j19] 37)) = W19 at *
                  go_wp2_with fail
                  go_ret
                  exact ⟨rfl, BW.out⟩
              · rw [z1]
                clear z1
                obtain ⟨e0, e1, e2, e3⟩ := ZY.out.c4
                obtain ⟨e4, e5, e6, e7⟩ := ZZ.out.c4
                go_wp2_with fail
                ((with_reducible refine (radd_some (resN (p1 * p3) (q1 * q3)) (resD (p1 * p3) (q1 * q3)) (resN (p2 * p3) (q2 * q3)) (resD (p2 * p3) (q2 * q3)) G17 I17 G18 I18 g17 h17 i17 j17 g18 h18 i18 j18 _ U17.out V17.out U18.out V18.out).mono ?_); rintro e x4 ⟨N19, D19, b19, G19, g19, h19, I19, i19, j19, rfl, hs, ht, hb⟩)
                clear e0 e1 e2 e3 e4 e5 e6 e7
                have BW := Lib.hid (below_on BW.out hb)
                have U16 := Lib.hid (U16.out.below hb)
                have V16 := Lib.hid (V16.out.below hb)
                have ZX := Lib.hid (ZX.out.below hb)
                have U17 := Lib.hid (U17.out.below hb)
                have V17 := Lib.hid (V17.out.below hb)
                have ZY := Lib.hid (ZY.out.below hb)
                have U18 := Lib.hid (U18.out.below hb)
                have V18 := Lib.hid (V18.out.below hb)
                have ZZ := Lib.hid (ZZ.out.below hb)
                have K := Lib.hid (RS.out _ _ K.out hb)
                clear hb
                have U19 := Lib.hid hs
                have V19 := Lib.hid ht
                clear hs ht
                obtain ⟨e0, e1, e2, e3⟩ := ZY.out.c4
                obtain ⟨e4, e5, e6, e7⟩ := ZZ.out.c4
                go_upto_region 19 with fail
                clear e0 e1 e2 e3 e4 e5 e6 e7
                have K := Lib.hid (RS.out _ _ K.out ((Below.refl _ _).alloc (Nat.le_refl _) (.cells #[.bool (nOf (N19)), .slice G19 g19 h19, .bool (nOf (D19)), .slice I19 i19 j19] 37)))
                have ln18 := ZX.out.lt
                have ln19 := ZY.out.lt
                have ln20 := ZZ.out.lt
                have BW := Lib.hid (BW.out.alloc BW.out.size (.cells #[.bool (nOf (N19)), .slice G19 g19 h19, .bool (nOf (D19)), .slice I19 i19 j19] 37))
                have U16 := Lib.hid (U16.out.alloc (.cells #[.bool (nOf (N19)), .slice G19 g19 h19, .bool (nOf (D19)), .slice I19 i19 j19] 37))
                have V16 := Lib.hid (V16.out.alloc (.cells #[.bool (nOf (N19)), .slice G19 g19 h19, .bool (nOf (D19)), .slice I19 i19 j19] 37))
                have ZX := Lib.hid (ZX.out.alloc (.cells #[.bool (nOf (N19)), .slice G19 g19 h19, .bool (nOf (D19)), .slice I19 i19 j19] 37))
                have U17 := Lib.hid (U17.out.alloc (.cells #[.bool (nOf (N19)), .slice G19 g19 h19, .bool (nOf (D19)), .slice I19 i19 j19] 37))
                have V17 := Lib.hid (V17.out.alloc (.cells #[.bool (nOf (N19)), .slice G19 g19 h19, .bool (nOf (D19)), .slice I19 i19 j19] 37))
                have ZY := Lib.hid (ZY.out.alloc (.cells #[.bool (nOf (N19)), .slice G19 g19 h19, .bool (nOf (D19)), .slice I19 i19 j19] 37))
                have U18 := Lib.hid (U18.out.alloc (.cells #[.bool (nOf (N19)), .slice G19 g19 h19, .bool (nOf (D19)), .slice I19 i19 j19] 37))
                have V18 := Lib.hid (V18.out.alloc (.cells #[.bool (nOf (N19)), .slice G19 g19 h19, .bool (nOf (D19)), .slice I19 i19 j19] 37))
                have ZZ := Lib.hid (ZZ.out.alloc (.cells #[.bool (nOf (N19)), .slice G19 g19 h19, .bool (nOf (D19)), .slice I19 i19 j19] 37))
                have U19 := Lib.hid (U19.out.alloc (.cells #[.bool (nOf (N19)), .slice G19 g19 h19, .bool (nOf (D19)), .slice I19 i19 j19] 37))
                have V19 := Lib.hid (V19.out.alloc (.cells #[.bool (nOf (N19)), .slice G19 g19 h19, .bool (nOf (D19)), .slice I19 i19 j19] 37))
                have ZW := Lib.hid (Bk.new 37 x4 #[.bool (nOf (N19)), .slice G19 g19 h19, .bool (nOf (D19)), .slice I19 i19 j19])
                generalize (x4.alloc (.cells #[.bool (nOf (N19)), .slice G19 g19 h19, .bool (nOf (D19)), .slice I19 i19 j19] 37)) = W19 at *
                go_wp2_with fail
                go_ret
                exact ⟨rfl, BW.out⟩
          · subst f1
            obtain ⟨e0, e1, e2, e3⟩ := YS.out.c4
            obtain ⟨e4, e5, e6, e7⟩ := (RP.out _ K.out).2.2.2.2.2.2.2.1.c4
            go_wp2_with fail
            ((with_reducible refine (rsub_some (resN (p1 * q2 + p2 * q1) (q1 * q2)) (resD (p1 * q2 + p2 * q1) (q1 * q2)) p2 q2 G4 I4 A2 B2 g4 h4 i4 j4 n2 c2 m2 d2 _ U4.out V4.out (RP.out _ K.out).2.2.1 (RP.out _ K.out).2.2.2.1).mono ?_); rintro e w10 ⟨N10, D10, b10, G10, g10, h10, I10, i10, j10, rfl, hs, ht, hb⟩)
            clear e0 e1 e2 e3 e4 e5 e6 e7
            have BW := Lib.hid (below_on BW.out hb)
            have U4 := Lib.hid (U4.out.below hb)
            have V4 := Lib.hid (V4.out.below hb)
            have YS := Lib.hid (YS.out.below hb)
            have U6 := Lib.hid (U6.out.below hb)
            have V6 := Lib.hid (V6.out.below hb)
            have YP := Lib.hid (YP.out.below hb)
            have K := Lib.hid (RS.out _ _ K.out hb)
            clear hb
            have U10 := Lib.hid hs
            have V10 := Lib.hid ht
            clear hs ht
            obtain ⟨e0, e1, e2, e3⟩ := YS.out.c4
            obtain ⟨e4, e5, e6, e7⟩ := (RP.out _ K.out).2.2.2.2.2.2.2.1.c4
            go_upto_region 10 with fail
            clear e0 e1 e2 e3 e4 e5 e6 e7
            have K := Lib.hid (RS.out _ _ K.out ((Below.refl _ _).alloc (Nat.le_refl _) (.cells #[.bool (nOf (N10)), .slice G10 g10 h10, .bool (nOf (D10)), .slice I10 i10 j10] 37)))
            have ln10 := YS.out.lt
            have ln11 := YP.out.lt
            have BW := Lib.hid (BW.out.alloc BW.out.size (.cells #[.bool (nOf (N10)), .slice G10 g10 h10, .bool (nOf (D10)), .slice I10 i10 j10] 37))
            have U4 := Lib.hid (U4.out.alloc (.cells #[.bool (nOf (N10)), .slice G10 g10 h10, .bool (nOf (D10)), .slice I10 i10 j10] 37))
            have V4 := Lib.hid (V4.out.alloc (.cells #[.bool (nOf (N10)), .slice G10 g10 h10, .bool (nOf (D10)), .slice I10 i10 j10] 37))
            have YS := Lib.hid (YS.out.alloc (.cells #[.bool (nOf (N10)), .slice G10 g10 h10, .bool (nOf (D10)), .slice I10 i10 j10] 37))
            have U6 := Lib.hid (U6.out.alloc (.cells #[.bool (nOf (N10)), .slice G10 g10 h10, .bool (nOf (D10)), .slice I10 i10 j10] 37))
            have V6 := Lib.hid (V6.out.alloc (.cells #[.bool (nOf (N10)), .slice G10 g10 h10, .bool (nOf (D10)), .slice I10 i10 j10] 37))
            have YP := Lib.hid (YP.out.alloc (.cells #[.bool (nOf (N10)), .slice G10 g10 h10, .bool (nOf (D10)), .slice I10 i10 j10] 37))
            have U10 := Lib.hid (U10.out.alloc (.cells #[.bool (nOf (N10)), .slice G10 g10 h10, .bool (nOf (D10)), .slice I10 i10 j10] 37))
            have V10 := Lib.hid (V10.out.alloc (.cells #[.bool (nOf (N10)), .slice G10 g10 h10, .bool (nOf (D10)), .slice I10 i10 j10] 37))
            have YD := Lib.hid (Bk.new 37 w10 #[.bool (nOf (N10)), .slice G10 g10 h10, .bool (nOf (D10)), .slice I10 i10 j10])
            generalize (w10.alloc (.cells #[.bool (nOf (N10)), .slice G10 g10 h10, .bool (nOf (D10)), .slice I10 i10 j10] 37)) = W10 at *
            clear YD U10 V10
            go_upto_region 12 with fail
            rcases Bool.eq_false_or_eq_true b2 with f2 | f2
            · subst f2
              by_cases h0 : p2 = 0
              · have hn0 : n2 = 0 := by have := ((RP.out _ K.out).2.2.1).len; rw [h0, lOf_zero] at this; simpa using this.symm
                have hn1 : ¬ 0 < n2 := by omega
                have hn2 : ¬ (0 : Int) < (n2 : Int) := by omega
                clear h0 hn0
                obtain ⟨e0, e1, e2, e3⟩ := YP.out.c4
                obtain ⟨e4, e5, e6, e7⟩ := (RP.out _ K.out).2.2.2.2.2.2.2.1.c4
                go_wp2_with fail
                ((with_reducible refine (rdiv_some (resN (p1 * p2) (q1 * q2)) (resD (p1 * p2) (q1 * q2)) p2 q2 G6 I6 A2 B2 g6 h6 i6 j6 n2 c2 m2 d2 _ U6.out V6.out (RP.out _ K.out).2.2.1 (RP.out _ K.out).2.2.2.1).mono ?_); rintro e y1 ⟨N13, D13, b13, G13, g13, h13, I13, i13, j13, rfl, hs, ht, hb⟩)
                clear e0 e1 e2 e3 e4 e5 e6 e7
                have BW := Lib.hid (below_on BW.out hb)
                have U4 := Lib.hid (U4.out.below hb)
                have V4 := Lib.hid (V4.out.below hb)
                have YS := Lib.hid (YS.out.below hb)
                have U6 := Lib.hid (U6.out.below hb)
                have V6 := Lib.hid (V6.out.below hb)
                have YP := Lib.hid (YP.out.below hb)
                have K := Lib.hid (RS.out _ _ K.out hb)
                clear hb
                have U13 := Lib.hid hs
                have V13 := Lib.hid ht
                clear hs ht
                obtain ⟨e0, e1, e2, e3⟩ := YP.out.c4
                obtain ⟨e4, e5, e6, e7⟩ := (RP.out _ K.out).2.2.2.2.2.2.2.1.c4
                go_upto_region 13 with fail
                clear e0 e1 e2 e3 e4 e5 e6 e7
                have K := Lib.hid (RS.out _ _ K.out ((Below.refl _ _).alloc (Nat.le_refl _) (.cells #[.bool (nOf (N13)), .slice G13 g13 h13, .bool (nOf (D13)), .slice I13 i13 j13] 37)))
                have ln12 := YS.out.lt
                have ln13 := YP.out.lt
                have BW := Lib.hid (BW.out.alloc BW.out.size (.cells #[.bool (nOf (N13)), .slice G13 g13 h13, .bool (nOf (D13)), .slice I13 i13 j13] 37))
                have U4 := Lib.hid (U4.out.alloc (.cells #[.bool (nOf (N13)), .slice G13 g13 h13, .bool (nOf (D13)), .slice I13 i13 j13] 37))
                have V4 := Lib.hid (V4.out.alloc (.cells #[.bool (nOf (N13)), .slice G13 g13 h13, .bool (nOf (D13)), .slice I13 i13 j13] 37))
                have YS := Lib.hid (YS.out.alloc (.cells #[.bool (nOf (N13)), .slice G13 g13 h13, .bool (nOf (D13)), .slice I13 i13 j13] 37))
                have U6 := Lib.hid (U6.out.alloc (.cells #[.bool (nOf (N13)), .slice G13 g13 h13, .bool (nOf (D13)), .slice I13 i13 j13] 37))
                have V6 := Lib.hid (V6.out.alloc (.cells #[.bool (nOf (N13)), .slice G13 g13 h13, .bool (nOf (D13)), .slice I13 i13 j13] 37))
                have YP := Lib.hid (YP.out.alloc (.cells #[.bool (nOf (N13)), .slice G13 g13 h13, .bool (nOf (D13)), .slice I13 i13 j13] 37))
                have U13 := Lib.hid (U13.out.alloc (.cells #[.bool (nOf (N13)), .slice G13 g13 h13, .bool (nOf (D13)), .slice I13 i13 j13] 37))
                have V13 := Lib.hid (V13.out.alloc (.cells #[.bool (nOf (N13)), .slice G13 g13 h13, .bool (nOf (D13)), .slice I13 i13 j13] 37))
                have YE := Lib.hid (Bk.new 37 y1 #[.bool (nOf (N13)), .slice G13 g13 h13, .bool (nOf (D13)), .slice I13 i13 j13])
                generalize (y1.alloc (.cells #[.bool (nOf (N13)), .slice G13 g13 h13, .bool (nOf (D13)), .slice I13 i13 j13] 37)) = W13 at *
                clear YP U6 V6 YE U13 V13
                obtain ⟨e0, e1, e2, e3⟩ := (RP.out _ K.out).2.2.2.2.2.2.2.1.c4
                go_upto_region 15 with fail
                clear e0 e1 e2 e3
                obtain ⟨e0, e1, e2, e3⟩ := YS.out.c4
                obtain ⟨e4, e5, e6, e7⟩ := (RP.out _ K.out).2.2.2.2.2.2.1.c4
                obtain ⟨e8, e9, e10, e11⟩ := (RP.out _ K.out).2.2.2.2.2.2.2.1.c4
                obtain ⟨e12, e13, e14, e15⟩ := (RP.out _ K.out).2.2.2.2.2.2.2.2.c4
                go_wp2_with fail
                ((with_reducible refine (rmul_some (resN (p1 * q2 + p2 * q1) (q1 * q2)) (resD (p1 * q2 + p2 * q1) (q1 * q2)) p3 q3 G4 I4 A3 B3 g4 h4 i4 j4 n3 c3 m3 d3 _ U4.out V4.out (RP.out _ K.out).2.2.2.2.1 (RP.out _ K.out).2.2.2.2.2.1).mono ?_); rintro e x1 ⟨N16, D16, b16, G16, g16, h16, I16, i16, j16, rfl, hs, ht, hb⟩)
                clear e0 e1 e2 e3 e4 e5 e6 e7 e8 e9 e10 e11 e12 e13 e14 e15
                have BW := Lib.hid (below_on BW.out hb)
                have U4 := Lib.hid (U4.out.below hb)
                have V4 := Lib.hid (V4.out.below hb)
                have YS := Lib.hid (YS.out.below hb)
                have K := Lib.hid (RS.out _ _ K.out hb)
                clear hb
                have U16 := Lib.hid hs
                have V16 := Lib.hid ht
                clear hs ht
                obtain ⟨e0, e1, e2, e3⟩ := YS.out.c4
                obtain ⟨e4, e5, e6, e7⟩ := (RP.out _ K.out).2.2.2.2.2.2.1.c4
                obtain ⟨e8, e9, e10, e11⟩ := (RP.out _ K.out).2.2.2.2.2.2.2.1.c4
                obtain ⟨e12, e13, e14, e15⟩ := (RP.out _ K.out).2.2.2.2.2.2.2.2.c4
                go_upto_region 16 with fail
                clear e0 e1 e2 e3 e4 e5 e6 e7 e8 e9 e10 e11 e12 e13 e14 e15
                have K := Lib.hid (RS.out _ _ K.out ((Below.refl _ _).alloc (Nat.le_refl _) (.cells #[.bool (nOf (N16)), .slice G16 g16 h16, .bool (nOf (D16)), .slice I16 i16 j16] 37)))
                have ln14 := YS.out.lt
                have BW := Lib.hid (BW.out.alloc BW.out.size (.cells #[.bool (nOf (N16)), .slice G16 g16 h16, .bool (nOf (D16)), .slice I16 i16 j16] 37))
                have U4 := Lib.hid (U4.out.alloc (.cells #[.bool (nOf (N16)), .slice G16 g16 h16, .bool (nOf (D16)), .slice I16 i16 j16] 37))
                have V4 := Lib.hid (V4.out.alloc (.cells #[.bool (nOf (N16)), .slice G16 g16 h16, .bool (nOf (D16)), .slice I16 i16 j16] 37))
                have YS := Lib.hid (YS.out.alloc (.cells #[.bool (nOf (N16)), .slice G16 g16 h16, .bool (nOf (D16)), .slice I16 i16 j16] 37))
                have U16 := Lib.hid (U16.out.alloc (.cells #[.bool (nOf (N16)), .slice G16 g16 h16, .bool (nOf (D16)), .slice I16 i16 j16] 37))
                have V16 := Lib.hid (V16.out.alloc (.cells #[.bool (nOf (N16)), .slice G16 g16 h16, .bool (nOf (D16)), .slice I16 i16 j16] 37))
                have ZX := Lib.hid (Bk.new 37 x1 #[.bool (nOf (N16)), .slice G16 g16 h16, .bool (nOf (D16)), .slice I16 i16 j16])
                generalize (x1.alloc (.cells #[.bool (nOf (N16)), .slice G16 g16 h16, .bool (nOf (D16)), .slice I16 i16 j16] 37)) = W16 at *
                clear YS U4 V4 ZX U16 V16
                obtain ⟨e0, e1, e2, e3⟩ := (RP.out _ K.out).2.2.2.2.2.2.1.c4
                obtain ⟨e4, e5, e6, e7⟩ := (RP.out _ K.out).2.2.2.2.2.2.2.1.c4
                obtain ⟨e8, e9, e10, e11⟩ := (RP.out _ K.out).2.2.2.2.2.2.2.2.c4
                go_wp2_with fail
                ((with_reducible refine (rmul_some p1 q1 p3 q3 A1 B1 A3 B3 n1 c1 m1 d1 n3 c3 m3 d3 _ (RP.out _ K.out).1 (RP.out _ K.out).2.1 (RP.out _ K.out).2.2.2.2.1 (RP.out _ K.out).2.2.2.2.2.1).mono ?_); rintro e x2 ⟨N17, D17, b17, G17, g17, h17, I17, i17, j17, rfl, hs, ht, hb⟩)
                clear e0 e1 e2 e3 e4 e5 e6 e7 e8 e9 e10 e11
                have BW := Lib.hid (below_on BW.out hb)
                have K := Lib.hid (RS.out _ _ K.out hb)
                clear hb
                have U17 := Lib.hid hs
                have V17 := Lib.hid ht
                clear hs ht
                obtain ⟨e0, e1, e2, e3⟩ := (RP.out _ K.out).2.2.2.2.2.2.1.c4
                obtain ⟨e4, e5, e6, e7⟩ := (RP.out _ K.out).2.2.2.2.2.2.2.1.c4
                obtain ⟨e8, e9, e10, e11⟩ := (RP.out _ K.out).2.2.2.2.2.2.2.2.c4
                go_upto_region 17 with fail
                clear e0 e1 e2 e3 e4 e5 e6 e7 e8 e9 e10 e11
                have K := Lib.hid (RS.out _ _ K.out ((Below.refl _ _).alloc (Nat.le_refl _) (.cells #[.bool (nOf (N17)), .slice G17 g17 h17, .bool (nOf (D17)), .slice I17 i17 j17] 37)))
                have BW := Lib.hid (BW.out.alloc BW.out.size (.cells #[.bool (nOf (N17)), .slice G17 g17 h17, .bool (nOf (D17)), .slice I17 i17 j17] 37))
                have U17 := Lib.hid (U17.out.alloc (.cells #[.bool (nOf (N17)), .slice G17 g17 h17, .bool (nOf (D17)), .slice I17 i17 j17] 37))
                have V17 := Lib.hid (V17.out.alloc (.cells #[.bool (nOf (N17)), .slice G17 g17 h17, .bool (nOf (D17)), .slice I17 i17 j17] 37))
                have ZY := Lib.hid (Bk.new 37 x2 #[.bool (nOf (N17)), .slice G17 g17 h17, .bool (nOf (D17)), .slice I17 i17 j17])
                generalize (x2.alloc (.cells #[.bool (nOf (N17)), .slice G17 g17 h17, .bool (nOf (D17)), .slice I17 i17 j17] 37)) = W17 at *
                obtain ⟨e0, e1, e2, e3⟩ := (RP.out _ K.out).2.2.2.2.2.2.1.c4
                obtain ⟨e4, e5, e6, e7⟩ := (RP.out _ K.out).2.2.2.2.2.2.2.1.c4
                obtain ⟨e8, e9, e10, e11⟩ := (RP.out _ K.out).2.2.2.2.2.2.2.2.c4
                go_wp2_with fail
                ((with_reducible refine (rmul_some p2 q2 p3 q3 A2 B2 A3 B3 n2 c2 m2 d2 n3 c3 m3 d3 _ (RP.out _ K.out).2.2.1 (RP.out _ K.out).2.2.2.1 (RP.out _ K.out).2.2.2.2.1 (RP.out _ K.out).2.2.2.2.2.1).mono ?_); rintro e x3 ⟨N18, D18, b18, G18, g18, h18, I18, i18, j18, rfl, hs, ht, hb⟩)
                clear e0 e1 e2 e3 e4 e5 e6 e7 e8 e9 e10 e11
                have BW := Lib.hid (below_on BW.out hb)
                have U17 := Lib.hid (U17.out.below hb)
                have V17 := Lib.hid (V17.out.below hb)
                have ZY := Lib.hid (ZY.out.below hb)
                have K := Lib.hid (RS.out _ _ K.out hb)
                clear hb
                have U18 := Lib.hid hs
                have V18 := Lib.hid ht
                clear hs ht
                obtain ⟨e0, e1, e2, e3⟩ := (RP.out _ K.out).2.2.2.2.2.2.1.c4
                obtain ⟨e4, e5, e6, e7⟩ := (RP.out _ K.out).2.2.2.2.2.2.2.1.c4
                obtain ⟨e8, e9, e10, e11⟩ := (RP.out _ K.out).2.2.2.2.2.2.2.2.c4
                go_upto_region 18 with fail
                clear e0 e1 e2 e3 e4 e5 e6 e7 e8 e9 e10 e11
                have K := Lib.hid (RS.out _ _ K.out ((Below.refl _ _).alloc (Nat.le_refl _) (.cells #[.bool (nOf (N18)), .slice G18 g18 h18, .bool (nOf (D18)), .slice I18 i18 j18] 37)))
                have ln15 := ZY.out.lt
                have BW := Lib.hid (BW.out.alloc BW.out.size (.cells #[.bool (nOf (N18)), .slice G18 g18 h18, .bool (nOf (D18)), .slice I18 i18 j18] 37))
                have U17 := Lib.hid (U17.out.alloc (.cells #[.bool (nOf (N18)), .slice G18 g18 h18, .bool (nOf (D18)), .slice I18 i18 j18] 37))
                have V17 := Lib.hid (V17.out.alloc (.cells #[.bool (nOf (N18)), .slice G18 g18 h18, .bool (nOf (D18)), .slice I18 i18 j18] 37))
                have ZY := Lib.hid (ZY.out.alloc (.cells #[.bool (nOf (N18)), .slice G18 g18 h18, .bool (nOf (D18)), .slice I18 i18 j18] 37))
                have U18 := Lib.hid (U18.out.alloc (.cells #[.bool (nOf (N18)), .slice G18 g18 h18, .bool (nOf (D18)), .slice I18 i18 j18] 37))
                have V18 := Lib.hid (V18.out.alloc (.cells #[.bool (nOf (N18)), .slice G18 g18 h18, .bool (nOf (D18)), .slice I18 i18 j18] 37))
                have ZZ := Lib.hid (Bk.new 37 x3 #[.bool (nOf (N18)), .slice G18 g18 h18, .bool (nOf (D18)), .slice I18 i18 j18])
                generalize (x3.alloc (.cells #[.bool (nOf (N18)), .slice G18 g18 h18, .bool (nOf (D18)), .slice I18 i18 j18] 37)) = W18 at *
                obtain ⟨e0, e1, e2, e3⟩ := ZY.out.c4
                obtain ⟨e4, e5, e6, e7⟩ := ZZ.out.c4
                go_wp2_with fail
                ((with_reducible refine (radd_some N17 D17 N18 D18 G17 I17 G18 I18 g17 h17 i17 j17 g18 h18 i18 j18 _ U17.out V17.out U18.out V18.out).mono ?_); rintro e x4 ⟨N19, D19, b19, G19, g19, h19, I19, i19, j19, rfl, hs, ht, hb⟩)
                clear e0 e1 e2 e3 e4 e5 e6 e7
                have BW := Lib.hid (below_on BW.out hb)
                have U17 := Lib.hid (U17.out.below hb)
                have V17 := Lib.hid (V17.out.below hb)
                have ZY := Lib.hid (ZY.out.below hb)
                have U18 := Lib.hid (U18.out.below hb)
                have V18 := Lib.hid (V18.out.below hb)
                have ZZ := Lib.hid (ZZ.out.below hb)
                have K := Lib.hid (RS.out _ _ K.out hb)
                clear hb
                have U19 := Lib.hid hs
                have V19 := Lib.hid ht
                clear hs ht
                obtain ⟨e0, e1, e2, e3⟩ := ZY.out.c4
                obtain ⟨e4, e5, e6, e7⟩ := ZZ.out.c4
                go_upto_region 19 with fail
                clear e0 e1 e2 e3 e4 e5 e6 e7
                have K := Lib.hid (RS.out _ _ K.out ((Below.refl _ _).alloc (Nat.le_refl _) (.cells #[.bool (nOf (N19)), .slice G19 g19 h19, .bool (nOf (D19)), .slice I19 i19 j19] 37)))
                have ln16 := ZY.out.lt
                have ln17 := ZZ.out.lt
                have BW := Lib.hid (BW.out.alloc BW.out.size (.cells #[.bool (nOf (N19)), .slice G19 g19 h19, .bool (nOf (D19)), .slice I19 i19 j19] 37))
                have U17 := Lib.hid (U17.out.alloc (.cells #[.bool (nOf (N19)), .slice G19 g19 h19, .bool (nOf (D19)), .slice I19 i19 j19] 37))
                have V17 := Lib.hid (V17.out.alloc (.cells #[.bool (nOf (N19)), .slice G19 g19 h19, .bool (nOf (D19)), .slice I19 i19 j19] 37))
                have ZY := Lib.hid (ZY.out.alloc (.cells #[.bool (nOf (N19)), .slice G19 g19 h19, .bool (nOf (D19)), .slice I19 i19 j19] 37))
                have U18 := Lib.hid (U18.out.alloc (.cells #[.bool (nOf (N19)), .slice G19 g19 h19, .bool (nOf (D19)), .slice I19 i19 j19] 37))
                have V18 := Lib.hid (V18.out.alloc (.cells #[.bool (nOf (N19)), .slice G19 g19 h19, .bool (nOf (D19)), .slice I19 i19 j19] 37))
                have ZZ := Lib.hid (ZZ.out.alloc (.cells #[.bool (nOf (N19)), .slice G19 g19 h19, .bool (nOf (D19)), .slice I19 i19 j19] 37))
                have U19 := Lib.hid (U19.out.alloc (.cells #[.bool (nOf (N19)), .slice G19 g19 h19, .bool (nOf (D19)), .slice I19 i19 j19] 37))
                have V19 := Lib.hid (V19.out.alloc (.cells #[.bool (nOf (N19)), .slice G19 g19 h19, .bool (nOf (D19)), .slice I19 i19 j19] 37))
                have ZW := Lib.hid (Bk.new 37 x4 #[.bool (nOf (N19)), .slice G19 g19 h19, .bool (nOf (D19)), .slice I19 i19 j19])
                generalize (x4.alloc (.cells #[.bool (nOf (N19)), .slice G19 g19 h19, .bool (nOf (D19)), .slice I19 i19 j19] 37)) = W19 at *
                go_wp2_with fail
                go_ret
                exact ⟨rfl, BW.out⟩
              · have hn : 0 < n2 := by
                  rcases Nat.eq_zero_or_pos n2 with h | h
                  · exact absurd (lOf_nil.1 (List.eq_nil_of_length_eq_zero (((RP.out _ K.out).2.2.1).len.trans h))) h0
                  · exact h
                have DV := Lib.hid (div_mul F1.out h0 HB2.out)
                have FP := Lib.hid (Fr.res HB2.out)
                clear h0
                obtain ⟨e0, e1, e2, e3⟩ := YP.out.c4
                obtain ⟨e4, e5, e6, e7⟩ := (RP.out _ K.out).2.2.2.2.2.2.2.1.c4
                go_wp2_with fail
                ((with_reducible refine (rdiv_ok (resN (p1 * p2) (q1 * q2)) (resD (p1 * p2) (q1 * q2)) p2 q2 (resN (p1 * p2) (q1 * q2)) (resD (p1 * p2) (q1 * q2)) p2 q2 p1 q1 true G6 I6 A2 B2 g6 h6 i6 j6 n2 c2 m2 d2 _ U6.out V6.out (RP.out _ K.out).2.2.1 (RP.out _ K.out).2.2.2.1 (fr_of FP.out).1 (fr_of FP.out).2 (fr_of F2.out).1 (fr_of F2.out).2 DV.out.1 DV.out.2.1 DV.out.2.2).mono ?_); rintro e y1 ⟨G13, g13, h13, I13, i13, j13, rfl, hs, ht, hb⟩)
                clear e0 e1 e2 e3 e4 e5 e6 e7
                have BW := Lib.hid (below_on BW.out hb)
                have U4 := Lib.hid (U4.out.below hb)
                have V4 := Lib.hid (V4.out.below hb)
                have YS := Lib.hid (YS.out.below hb)
                have U6 := Lib.hid (U6.out.below hb)
                have V6 := Lib.hid (V6.out.below hb)
                have YP := Lib.hid (YP.out.below hb)
                have K := Lib.hid (RS.out _ _ K.out hb)
                clear hb
                have U13 := Lib.hid hs
                have V13 := Lib.hid ht
                clear hs ht
                obtain ⟨e0, e1, e2, e3⟩ := YP.out.c4
                obtain ⟨e4, e5, e6, e7⟩ := (RP.out _ K.out).2.2.2.2.2.2.2.1.c4
                go_upto_region 13 with fail
                clear e0 e1 e2 e3 e4 e5 e6 e7
                have K := Lib.hid (RS.out _ _ K.out ((Below.refl _ _).alloc (Nat.le_refl _) (.cells #[.bool (nOf (p1)), .slice G13 g13 h13, .bool (nOf (q1)), .slice I13 i13 j13] 37)))
                have ln12 := YS.out.lt
                have ln13 := YP.out.lt
                have BW := Lib.hid (BW.out.alloc BW.out.size (.cells #[.bool (nOf (p1)), .slice G13 g13 h13, .bool (nOf (q1)), .slice I13 i13 j13] 37))
                have U4 := Lib.hid (U4.out.alloc (.cells #[.bool (nOf (p1)), .slice G13 g13 h13, .bool (nOf (q1)), .slice I13 i13 j13] 37))
                have V4 := Lib.hid (V4.out.alloc (.cells #[.bool (nOf (p1)), .slice G13 g13 h13, .bool (nOf (q1)), .slice I13 i13 j13] 37))
                have YS := Lib.hid (YS.out.alloc (.cells #[.bool (nOf (p1)), .slice G13 g13 h13, .bool (nOf (q1)), .slice I13 i13 j13] 37))
                have U6 := Lib.hid (U6.out.alloc (.cells #[.bool (nOf (p1)), .slice G13 g13 h13, .bool (nOf (q1)), .slice I13 i13 j13] 37))
                have V6 := Lib.hid (V6.out.alloc (.cells #[.bool (nOf (p1)), .slice G13 g13 h13, .bool (nOf (q1)), .slice I13 i13 j13] 37))
                have YP := Lib.hid (YP.out.alloc (.cells #[.bool (nOf (p1)), .slice G13 g13 h13, .bool (nOf (q1)), .slice I13 i13 j13] 37))
                have U13 := Lib.hid (U13.out.alloc (.cells #[.bool (nOf (p1)), .slice G13 g13 h13, .bool (nOf (q1)), .slice I13 i13 j13] 37))
                have V13 := Lib.hid (V13.out.alloc (.cells #[.bool (nOf (p1)), .slice G13 g13 h13, .bool (nOf (q1)), .slice I13 i13 j13] 37))
                have YE := Lib.hid (Bk.new 37 y1 #[.bool (nOf (p1)), .slice G13 g13 h13, .bool (nOf (q1)), .slice I13 i13 j13])
                generalize (y1.alloc (.cells #[.bool (nOf (p1)), .slice G13 g13 h13, .bool (nOf (q1)), .slice I13 i13 j13] 37)) = W13 at *
                clear YP U6 V6
                obtain ⟨e0, e1, e2, e3⟩ := (RP.out _ K.out).2.2.2.2.2.2.2.1.c4
                obtain ⟨e4, e5, e6, e7⟩ := YE.out.c4
                obtain ⟨e8, e9, e10, e11⟩ := (RP.out _ K.out).2.2.2.2.2.2.1.c4
                go_wp2_with fail
                ((with_reducible refine (samer_ok p1 q1 p1 q1 G13 I13 A1 B1 g13 h13 i13 j13 n1 c1 m1 d1 _ U13.out V13.out (RP.out _ K.out).1 (RP.out _ K.out).2.1 rfl rfl).mono ?_); rintro e y2 ⟨rfl, hb⟩)
                clear e0 e1 e2 e3 e4 e5 e6 e7 e8 e9 e10 e11
                have BW := Lib.hid (below_on BW.out hb)
                have U4 := Lib.hid (U4.out.below hb)
                have V4 := Lib.hid (V4.out.below hb)
                have YS := Lib.hid (YS.out.below hb)
                have U13 := Lib.hid (U13.out.below hb)
                have V13 := Lib.hid (V13.out.below hb)
                have YE := Lib.hid (YE.out.below hb)
                have K := Lib.hid (RS.out _ _ K.out hb)
                clear hb
                clear YE U13 V13
                go_upto_region 15 with fail
                obtain ⟨e0, e1, e2, e3⟩ := YS.out.c4
                obtain ⟨e4, e5, e6, e7⟩ := (RP.out _ K.out).2.2.2.2.2.2.1.c4
                obtain ⟨e8, e9, e10, e11⟩ := (RP.out _ K.out).2.2.2.2.2.2.2.1.c4
                obtain ⟨e12, e13, e14, e15⟩ := (RP.out _ K.out).2.2.2.2.2.2.2.2.c4
                go_wp2_with fail
                ((with_reducible refine (rmul_some (resN (p1 * q2 + p2 * q1) (q1 * q2)) (resD (p1 * q2 + p2 * q1) (q1 * q2)) p3 q3 G4 I4 A3 B3 g4 h4 i4 j4 n3 c3 m3 d3 _ U4.out V4.out (RP.out _ K.out).2.2.2.2.1 (RP.out _ K.out).2.2.2.2.2.1).mono ?_); rintro e x1 ⟨N16, D16, b16, G16, g16, h16, I16, i16, j16, rfl, hs, ht, hb⟩)
                clear e0 e1 e2 e3 e4 e5 e6 e7 e8 e9 e10 e11 e12 e13 e14 e15
                have BW := Lib.hid (below_on BW.out hb)
                have U4 := Lib.hid (U4.out.below hb)
                have V4 := Lib.hid (V4.out.below hb)
                have YS := Lib.hid (YS.out.below hb)
                have K := Lib.hid (RS.out _ _ K.out hb)
                clear hb
                have U16 := Lib.hid hs
                have V16 := Lib.hid ht
                clear hs ht
                obtain ⟨e0, e1, e2, e3⟩ := YS.out.c4
                obtain ⟨e4, e5, e6, e7⟩ := (RP.out _ K.out).2.2.2.2.2.2.1.c4
                obtain ⟨e8, e9, e10, e11⟩ := (RP.out _ K.out).2.2.2.2.2.2.2.1.c4
                obtain ⟨e12, e13, e14, e15⟩ := (RP.out _ K.out).2.2.2.2.2.2.2.2.c4
                go_upto_region 16 with fail
                clear e0 e1 e2 e3 e4 e5 e6 e7 e8 e9 e10 e11 e12 e13 e14 e15
                have K := Lib.hid (RS.out _ _ K.out ((Below.refl _ _).alloc (Nat.le_refl _) (.cells #[.bool (nOf (N16)), .slice G16 g16 h16, .bool (nOf (D16)), .slice I16 i16 j16] 37)))
                have ln14 := YS.out.lt
                have BW := Lib.hid (BW.out.alloc BW.out.size (.cells #[.bool (nOf (N16)), .slice G16 g16 h16, .bool (nOf (D16)), .slice I16 i16 j16] 37))
                have U4 := Lib.hid (U4.out.alloc (.cells #[.bool (nOf (N16)), .slice G16 g16 h16, .bool (nOf (D16)), .slice I16 i16 j16] 37))
                have V4 := Lib.hid (V4.out.alloc (.cells #[.bool (nOf (N16)), .slice G16 g16 h16, .bool (nOf (D16)), .slice I16 i16 j16] 37))
                have YS := Lib.hid (YS.out.alloc (.cells #[.bool (nOf (N16)), .slice G16 g16 h16, .bool (nOf (D16)), .slice I16 i16 j16] 37))
                have U16 := Lib.hid (U16.out.alloc (.cells #[.bool (nOf (N16)), .slice G16 g16 h16, .bool (nOf (D16)), .slice I16 i16 j16] 37))
                have V16 := Lib.hid (V16.out.alloc (.cells #[.bool (nOf (N16)), .slice G16 g16 h16, .bool (nOf (D16)), .slice I16 i16 j16] 37))
                have ZX := Lib.hid (Bk.new 37 x1 #[.bool (nOf (N16)), .slice G16 g16 h16, .bool (nOf (D16)), .slice I16 i16 j16])
                generalize (x1.alloc (.cells #[.bool (nOf (N16)), .slice G16 g16 h16, .bool (nOf (D16)), .slice I16 i16 j16] 37)) = W16 at *
                clear YS U4 V4 ZX U16 V16
                obtain ⟨e0, e1, e2, e3⟩ := (RP.out _ K.out).2.2.2.2.2.2.1.c4
                obtain ⟨e4, e5, e6, e7⟩ := (RP.out _ K.out).2.2.2.2.2.2.2.1.c4
                obtain ⟨e8, e9, e10, e11⟩ := (RP.out _ K.out).2.2.2.2.2.2.2.2.c4
                go_wp2_with fail
                ((with_reducible refine (rmul_some p1 q1 p3 q3 A1 B1 A3 B3 n1 c1 m1 d1 n3 c3 m3 d3 _ (RP.out _ K.out).1 (RP.out _ K.out).2.1 (RP.out _ K.out).2.2.2.2.1 (RP.out _ K.out).2.2.2.2.2.1).mono ?_); rintro e x2 ⟨N17, D17, b17, G17, g17, h17, I17, i17, j17, rfl, hs, ht, hb⟩)
                clear e0 e1 e2 e3 e4 e5 e6 e7 e8 e9 e10 e11
                have BW := Lib.hid (below_on BW.out hb)
                have K := Lib.hid (RS.out _ _ K.out hb)
                clear hb
                have U17 := Lib.hid hs
                have V17 := Lib.hid ht
                clear hs ht
                obtain ⟨e0, e1, e2, e3⟩ := (RP.out _ K.out).2.2.2.2.2.2.1.c4
                obtain ⟨e4, e5, e6, e7⟩ := (RP.out _ K.out).2.2.2.2.2.2.2.1.c4
                obtain ⟨e8, e9, e10, e11⟩ := (RP.out _ K.out).2.2.2.2.2.2.2.2.c4
                go_upto_region 17 with fail
                clear e0 e1 e2 e3 e4 e5 e6 e7 e8 e9 e10 e11
                have K := Lib.hid (RS.out _ _ K.out ((Below.refl _ _).alloc (Nat.le_refl _) (.cells #[.bool (nOf (N17)), .slice G17 g17 h17, .bool (nOf (D17)), .slice I17 i17 j17] 37)))
                have BW := Lib.hid (BW.out.alloc BW.out.size (.cells #[.bool (nOf (N17)), .slice G17 g17 h17, .bool (nOf (D17)), .slice I17 i17 j17] 37))
                have U17 := Lib.hid (U17.out.alloc (.cells #[.bool (nOf (N17)), .slice G17 g17 h17, .bool (nOf (D17)), .slice I17 i17 j17] 37))
                have V17 := Lib.hid (V17.out.alloc (.cells #[.bool (nOf (N17)), .slice G17 g17 h17, .bool (nOf (D17)), .slice I17 i17 j17] 37))
                have ZY := Lib.hid (Bk.new 37 x2 #[.bool (nOf (N17)), .slice G17 g17 h17, .bool (nOf (D17)), .slice I17 i17 j17])
                generalize (x2.alloc (.cells #[.bool (nOf (N17)), .slice G17 g17 h17, .bool (nOf (D17)), .slice I17 i17 j17] 37)) = W17 at *
                obtain ⟨e0, e1, e2, e3⟩ := (RP.out _ K.out).2.2.2.2.2.2.1.c4
                obtain ⟨e4, e5, e6, e7⟩ := (RP.out _ K.out).2.2.2.2.2.2.2.1.c4
                obtain ⟨e8, e9, e10, e11⟩ := (RP.out _ K.out).2.2.2.2.2.2.2.2.c4
                go_wp2_with fail
                ((with_reducible refine (rmul_some p2 q2 p3 q3 A2 B2 A3 B3 n2 c2 m2 d2 n3 c3 m3 d3 _ (RP.out _ K.out).2.2.1 (RP.out _ K.out).2.2.2.1 (RP.out _ K.out).2.2.2.2.1 (RP.out _ K.out).2.2.2.2.2.1).mono ?_); rintro e x3 ⟨N18, D18, b18, G18, g18, h18, I18, i18, j18, rfl, hs, ht, hb⟩)
                clear e0 e1 e2 e3 e4 e5 e6 e7 e8 e9 e10 e11
                have BW := Lib.hid (below_on BW.out hb)
                have U17 := Lib.hid (U17.out.below hb)
                have V17 := Lib.hid (V17.out.below hb)
                have ZY := Lib.hid (ZY.out.below hb)
                have K := Lib.hid (RS.out _ _ K.out hb)
                clear hb
                have U18 := Lib.hid hs
                have V18 := Lib.hid ht
                clear hs ht
                obtain ⟨e0, e1, e2, e3⟩ := (RP.out _ K.out).2.2.2.2.2.2.1.c4
                obtain ⟨e4, e5, e6, e7⟩ := (RP.out _ K.out).2.2.2.2.2.2.2.1.c4
                obtain ⟨e8, e9, e10, e11⟩ := (RP.out _ K.out).2.2.2.2.2.2.2.2.c4
                go_upto_region 18 with fail
                clear e0 e1 e2 e3 e4 e5 e6 e7 e8 e9 e10 e11
                have K := Lib.hid (RS.out _ _ K.out ((Below.refl _ _).alloc (Nat.le_refl _) (.cells #[.bool (nOf (N18)), .slice G18 g18 h18, .bool (nOf (D18)), .slice I18 i18 j18] 37)))
                have ln15 := ZY.out.lt
                have BW := Lib.hid (BW.out.alloc BW.out.size (.cells #[.bool (nOf (N18)), .slice G18 g18 h18, .bool (nOf (D18)), .slice I18 i18 j18] 37))
                have U17 := Lib.hid (U17.out.alloc (.cells #[.bool (nOf (N18)), .slice G18 g18 h18, .bool (nOf (D18)), .slice I18 i18 j18] 37))
                have V17 := Lib.hid (V17.out.alloc (.cells #[.bool (nOf (N18)), .slice G18 g18 h18, .bool (nOf (D18)), .slice I18 i18 j18] 37))
                have ZY := Lib.hid (ZY.out.alloc (.cells #[.bool (nOf (N18)), .slice G18 g18 h18, .bool (nOf (D18)), .slice I18 i18 j18] 37))
                have U18 := Lib.hid (U18.out.alloc (.cells #[.bool (nOf (N18)), .slice G18 g18 h18, .bool (nOf (D18)), .slice I18 i18 j18] 37))
                have V18 := Lib.hid (V18.out.alloc (.cells #[.bool (nOf (N18)), .slice G18 g18 h18, .bool (nOf (D18)), .slice I18 i18 j18] 37))
                have ZZ := Lib.hid (Bk.new 37 x3 #[.bool (nOf (N18)), .slice G18 g18 h18, .bool (nOf (D18)), .slice I18 i18 j18])
                generalize (x3.alloc (.cells #[.bool (nOf (N18)), .slice G18 g18 h18, .bool (nOf (D18)), .slice I18 i18 j18] 37)) = W18 at *
                obtain ⟨e0, e1, e2, e3⟩ := ZY.out.c4
                obtain ⟨e4, e5, e6, e7⟩ := ZZ.out.c4
                go_wp2_with fail
                ((with_reducible refine (radd_some N17 D17 N18 D18 G17 I17 G18 I18 g17 h17 i17 j17 g18 h18 i18 j18 _ U17.out V17.out U18.out V18.out).mono ?_); rintro e x4 ⟨N19, D19, b19, G19, g19, h19, I19, i19, j19, rfl, hs, ht, hb⟩)
                clear e0 e1 e2 e3 e4 e5 e6 e7
                have BW := Lib.hid (below_on BW.out hb)
                have U17 := Lib.hid (U17.out.below hb)
                have V17 := Lib.hid (V17.out.below hb)
                have ZY := Lib.hid (ZY.out.below hb)
                have U18 := Lib.hid (U18.out.below hb)
                have V18 := Lib.hid (V18.out.below hb)
                have ZZ := Lib.hid (ZZ.out.below hb)
                have K := Lib.hid (RS.out _ _ K.out hb)
                clear hb
                have U19 := Lib.hid hs
                have V19 := Lib.hid ht
                clear hs ht
                obtain ⟨e0, e1, e2, e3⟩ := ZY.out.c4
                obtain ⟨e4, e5, e6, e7⟩ := ZZ.out.c4
                go_upto_region 19 with fail
                clear e0 e1 e2 e3 e4 e5 e6 e7
                have K := Lib.hid (RS.out _ _ K.out ((Below.refl _ _).alloc (Nat.le_refl _) (.cells #[.bool (nOf (N19)), .slice G19 g19 h19, .bool (nOf (D19)), .slice I19 i19 j19] 37)))
                have ln16 := ZY.out.lt
                have ln17 := ZZ.out.lt
                have BW := Lib.hid (BW.out.alloc BW.out.size (.cells #[.bool (nOf (N19)), .slice G19 g19 h19, .bool (nOf (D19)), .slice I19 i19 j19] 37))
                have U17 := Lib.hid (U17.out.alloc (.cells #[.bool (nOf (N19)), .slice G19 g19 h19, .bool (nOf (D19)), .slice I19 i19 j19] 37))
                have V17 := Lib.hid (V17.out.alloc (.cells #[.bool (nOf (N19)), .slice G19 g19 h19, .bool (nOf (D19)), .slice I19 i19 j19] 37))
                have ZY := Lib.hid (ZY.out.alloc (.cells #[.bool (nOf (N19)), .slice G19 g19 h19, .bool (nOf (D19)), .slice I19 i19 j19] 37))
                have U18 := Lib.hid (U18.out.alloc (.cells #[.bool (nOf (N19)), .slice G19 g19 h19, .bool (nOf (D19)), .slice I19 i19 j19] 37))
                have V18 := Lib.hid (V18.out.alloc (.cells #[.bool (nOf (N19)), .slice G19 g19 h19, .bool (nOf (D19)), .slice I19 i19 j19] 37))
                have ZZ := Lib.hid (ZZ.out.alloc (.cells #[.bool (nOf (N19)), .slice G19 g19 h19, .bool (nOf (D19)), .slice I19 i19 j19] 37))
                have U19 := Lib.hid (U19.out.alloc (.cells #[.bool (nOf (N19)), .slice G19 g19 h19, .bool (nOf (D19)), .slice I19 i19 j19] 37))
                have V19 := Lib.hid (V19.out.alloc (.cells #[.bool (nOf (N19)), .slice G19 g19 h19, .bool (nOf (D19)), .slice I19 i19 j19] 37))
                have ZW := Lib.hid (Bk.new 37 x4 #[.bool (nOf (N19)), .slice G19 g19 h19, .bool (nOf (D19)), .slice I19 i19 j19])
                generalize (x4.alloc (.cells #[.bool (nOf (N19)), .slice G19 g19 h19, .bool (nOf (D19)), .slice I19 i19 j19] 37)) = W19 at *
                go_wp2_with fail
                go_ret
                exact ⟨rfl, BW.out⟩
            · subst f2
              obtain ⟨e0, e1, e2, e3⟩ := YP.out.c4
              obtain ⟨e4, e5, e6, e7⟩ := (RP.out _ K.out).2.2.2.2.2.2.2.1.c4
              go_wp2_with fail
              ((with_reducible refine (rdiv_some (resN (p1 * p2) (q1 * q2)) (resD (p1 * p2) (q1 * q2)) p2 q2 G6 I6 A2 B2 g6 h6 i6 j6 n2 c2 m2 d2 _ U6.out V6.out (RP.out _ K.out).2.2.1 (RP.out _ K.out).2.2.2.1).mono ?_); rintro e y1 ⟨N13, D13, b13, G13, g13, h13, I13, i13, j13, rfl, hs, ht, hb⟩)
              clear e0 e1 e2 e3 e4 e5 e6 e7
              have BW := Lib.hid (below_on BW.out hb)
              have U4 := Lib.hid (U4.out.below hb)
              have V4 := Lib.hid (V4.out.below hb)
              have YS := Lib.hid (YS.out.below hb)
              have U6 := Lib.hid (U6.out.below hb)
              have V6 := Lib.hid (V6.out.below hb)
              have YP := Lib.hid (YP.out.below hb)
              have K := Lib.hid (RS.out _ _ K.out hb)
              clear hb
              have U13 := Lib.hid hs
              have V13 := Lib.hid ht
              clear hs ht
              obtain ⟨e0, e1, e2, e3⟩ := YP.out.c4
              obtain ⟨e4, e5, e6, e7⟩ := (RP.out _ K.out).2.2.2.2.2.2.2.1.c4
              go_upto_region 13 with fail
              clear e0 e1 e2 e3 e4 e5 e6 e7
              have K := Lib.hid (RS.out _ _ K.out ((Below.refl _ _).alloc (Nat.le_refl _) (.cells #[.bool (nOf (N13)), .slice G13 g13 h13, .bool (nOf (D13)), .slice I13 i13 j13] 37)))
              have ln12 := YS.out.lt
              have ln13 := YP.out.lt
              have BW := Lib.hid (BW.out.alloc BW.out.size (.cells #[.bool (nOf (N13)), .slice G13 g13 h13, .bool (nOf (D13)), .slice I13 i13 j13] 37))
              have U4 := Lib.hid (U4.out.alloc (.cells #[.bool (nOf (N13)), .slice G13 g13 h13, .bool (nOf (D13)), .slice I13 i13 j13] 37))
              have V4 := Lib.hid (V4.out.alloc (.cells #[.bool (nOf (N13)), .slice G13 g13 h13, .bool (nOf (D13)), .slice I13 i13 j13] 37))
              have YS := Lib.hid (YS.out.alloc (.cells #[.bool (nOf (N13)), .slice G13 g13 h13, .bool (nOf (D13)), .slice I13 i13 j13] 37))
              have U6 := Lib.hid (U6.out.alloc (.cells #[.bool (nOf (N13)), .slice G13 g13 h13, .bool (nOf (D13)), .slice I13 i13 j13] 37))
              have V6 := Lib.hid (V6.out.alloc (.cells #[.bool (nOf (N13)), .slice G13 g13 h13, .bool (nOf (D13)), .slice I13 i13 j13] 37))
              have YP := Lib.hid (YP.out.alloc (.cells #[.bool (nOf (N13)), .slice G13 g13 h13, .bool (nOf (D13)), .slice I13 i13 j13] 37))
              have U13 := Lib.hid (U13.out.alloc (.cells #[.bool (nOf (N13)), .slice G13 g13 h13, .bool (nOf (D13)), .slice I13 i13 j13] 37))
              have V13 := Lib.hid (V13.out.alloc (.cells #[.bool (nOf (N13)), .slice G13 g13 h13, .bool (nOf (D13)), .slice I13 i13 j13] 37))
              have YE := Lib.hid (Bk.new 37 y1 #[.bool (nOf (N13)), .slice G13 g13 h13, .bool (nOf (D13)), .slice I13 i13 j13])
              generalize (y1.alloc (.cells #[.bool (nOf (N13)), .slice G13 g13 h13, .bool (nOf (D13)), .slice I13 i13 j13] 37)) = W13 at *
              clear YP U6 V6 YE U13 V13
              go_upto_region 15 with fail
              obtain ⟨e0, e1, e2, e3⟩ := YS.out.c4
              obtain ⟨e4, e5, e6, e7⟩ := (RP.out _ K.out).2.2.2.2.2.2.1.c4
              obtain ⟨e8, e9, e10, e11⟩ := (RP.out _ K.out).2.2.2.2.2.2.2.1.c4
              obtain ⟨e12, e13, e14, e15⟩ := (RP.out _ K.out).2.2.2.2.2.2.2.2.c4
              go_wp2_with fail
              ((with_reducible refine (rmul_some (resN (p1 * q2 + p2 * q1) (q1 * q2)) (resD (p1 * q2 + p2 * q1) (q1 * q2)) p3 q3 G4 I4 A3 B3 g4 h4 i4 j4 n3 c3 m3 d3 _ U4.out V4.out (RP.out _ K.out).2.2.2.2.1 (RP.out _ K.out).2.2.2.2.2.1).mono ?_); rintro e x1 ⟨N16, D16, b16, G16, g16, h16, I16, i16, j16, rfl, hs, ht, hb⟩)
              clear e0 e1 e2 e3 e4 e5 e6 e7 e8 e9 e10 e11 e12 e13 e14 e15
              have BW := Lib.hid (below_on BW.out hb)
              have U4 := Lib.hid (U4.out.below hb)
              have V4 := Lib.hid (V4.out.below hb)
              have YS := Lib.hid (YS.out.below hb)
              have K := Lib.hid (RS.out _ _ K.out hb)
              clear hb
              have U16 := Lib.hid hs
              have V16 := Lib.hid ht
              clear hs ht
              obtain ⟨e0, e1, e2, e3⟩ := YS.out.c4
              obtain ⟨e4, e5, e6, e7⟩ := (RP.out _ K.out).2.2.2.2.2.2.1.c4
              obtain ⟨e8, e9, e10, e11⟩ := (RP.out _ K.out).2.2.2.2.2.2.2.1.c4
              obtain ⟨e12, e13, e14, e15⟩ := (RP.out _ K.out).2.2.2.2.2.2.2.2.c4
              go_upto_region 16 with fail
              clear e0 e1 e2 e3 e4 e5 e6 e7 e8 e9 e10 e11 e12 e13 e14 e15
              have K := Lib.hid (RS.out _ _ K.out ((Below.refl _ _).alloc (Nat.le_refl _) (.cells #[.bool (nOf (N16)), .slice G16 g16 h16, .bool (nOf (D16)), .slice I16 i16 j16] 37)))
              have ln14 := YS.out.lt
              have BW := Lib.hid (BW.out.alloc BW.out.size (.cells #[.bool (nOf (N16)), .slice G16 g16 h16, .bool (nOf (D16)), .slice I16 i16 j16] 37))
              have U4 := Lib.hid (U4.out.alloc (.cells #[.bool (nOf (N16)), .slice G16 g16 h16, .bool (nOf (D16)), .slice I16 i16 j16] 37))
              have V4 := Lib.hid (V4.out.alloc (.cells #[.bool (nOf (N16)), .slice G16 g16 h16, .bool (nOf (D16)), .slice I16 i16 j16] 37))
              have YS := Lib.hid (YS.out.alloc (.cells #[.bool (nOf (N16)), .slice G16 g16 h16, .bool (nOf (D16)), .slice I16 i16 j16] 37))
              have U16 := Lib.hid (U16.out.alloc (.cells #[.bool (nOf (N16)), .slice G16 g16 h16, .bool (nOf (D16)), .slice I16 i16 j16] 37))
              have V16 := Lib.hid (V16.out.alloc (.cells #[.bool (nOf (N16)), .slice G16 g16 h16, .bool (nOf (D16)), .slice I16 i16 j16] 37))
              have ZX := Lib.hid (Bk.new 37 x1 #[.bool (nOf (N16)), .slice G16 g16 h16, .bool (nOf (D16)), .slice I16 i16 j16])
              generalize (x1.alloc (.cells #[.bool (nOf (N16)), .slice G16 g16 h16, .bool (nOf (D16)), .slice I16 i16 j16] 37)) = W16 at *
              clear YS U4 V4 ZX U16 V16
              obtain ⟨e0, e1, e2, e3⟩ := (RP.out _ K.out).2.2.2.2.2.2.1.c4
              obtain ⟨e4, e5, e6, e7⟩ := (RP.out _ K.out).2.2.2.2.2.2.2.1.c4
              obtain ⟨e8, e9, e10, e11⟩ := (RP.out _ K.out).2.2.2.2.2.2.2.2.c4
              go_wp2_with fail
              ((with_reducible refine (rmul_some p1 q1 p3 q3 A1 B1 A3 B3 n1 c1 m1 d1 n3 c3 m3 d3 _ (RP.out _ K.out).1 (RP.out _ K.out).2.1 (RP.out _ K.out).2.2.2.2.1 (RP.out _ K.out).2.2.2.2.2.1).mono ?_); rintro e x2 ⟨N17, D17, b17, G17, g17, h17, I17, i17, j17, rfl, hs, ht, hb⟩)
              clear e0 e1 e2 e3 e4 e5 e6 e7 e8 e9 e10 e11
              have BW := Lib.hid (below_on BW.out hb)
              have K := Lib.hid (RS.out _ _ K.out hb)
              clear hb
              have U17 := Lib.hid hs
              have V17 := Lib.hid ht
              clear hs ht
              obtain ⟨e0, e1, e2, e3⟩ := (RP.out _ K.out).2.2.2.2.2.2.1.c4
              obtain ⟨e4, e5, e6, e7⟩ := (RP.out _ K.out).2.2.2.2.2.2.2.1.c4
              obtain ⟨e8, e9, e10, e11⟩ := (RP.out _ K.out).2.2.2.2.2.2.2.2.c4
              go_upto_region 17 with fail
              clear e0 e1 e2 e3 e4 e5 e6 e7 e8 e9 e10 e11
              have K := Lib.hid (RS.out _ _ K.out ((Below.refl _ _).alloc (Nat.le_refl _) (.cells #[.bool (nOf (N17)), .slice G17 g17 h17, .bool (nOf (D17)), .slice I17 i17 j17] 37)))
              have BW := Lib.hid (BW.out.alloc BW.out.size (.cells #[.bool (nOf (N17)), .slice G17 g17 h17, .bool (nOf (D17)), .slice I17 i17 j17] 37))
              have U17 := Lib.hid (U17.out.alloc (.cells #[.bool (nOf (N17)), .slice G17 g17 h17, .bool (nOf (D17)), .slice I17 i17 j17] 37))
              have V17 := Lib.hid (V17.out.alloc (.cells #[.bool (nOf (N17)), .slice G17 g17 h17, .bool (nOf (D17)), .slice I17 i17 j17] 37))
              have ZY := Lib.hid (Bk.new 37 x2 #[.bool (nOf (N17)), .slice G17 g17 h17, .bool (nOf (D17)), .slice I17 i17 j17])
              generalize (x2.alloc (.cells #[.bool (nOf (N17)), .slice G17 g17 h17, .bool (nOf (D17)), .slice I17 i17 j17] 37)) = W17 at *
              obtain ⟨e0, e1, e2, e3⟩ := (RP.out _ K.out).2.2.2.2.2.2.1.c4
              obtain ⟨e4, e5, e6, e7⟩ := (RP.out _ K.out).2.2.2.2.2.2.2.1.c4
              obtain ⟨e8, e9, e10, e11⟩ := (RP.out _ K.out).2.2.2.2.2.2.2.2.c4
              go_wp2_with fail
              ((with_reducible refine (rmul_some p2 q2 p3 q3 A2 B2 A3 B3 n2 c2 m2 d2 n3 c3 m3 d3 _ (RP.out _ K.out).2.2.1 (RP.out _ K.out).2.2.2.1 (RP.out _ K.out).2.2.2.2.1 (RP.out _ K.out).2.2.2.2.2.1).mono ?_); rintro e x3 ⟨N18, D18, b18, G18, g18, h18, I18, i18, j18, rfl, hs, ht, hb⟩)
              clear e0 e1 e2 e3 e4 e5 e6 e7 e8 e9 e10 e11
              have BW := Lib.hid (below_on BW.out hb)
              have U17 := Lib.hid (U17.out.below hb)
              have V17 := Lib.hid (V17.out.below hb)
              have ZY := Lib.hid (ZY.out.below hb)
              have K := Lib.hid (RS.out _ _ K.out hb)
              clear hb
              have U18 := Lib.hid hs
              have V18 := Lib.hid ht
              clear hs ht
              obtain ⟨e0, e1, e2, e3⟩ := (RP.out _ K.out).2.2.2.2.2.2.1.c4
              obtain ⟨e4, e5, e6, e7⟩ := (RP.out _ K.out).2.2.2.2.2.2.2.1.c4
              obtain ⟨e8, e9, e10, e11⟩ := (RP.out _ K.out).2.2.2.2.2.2.2.2.c4
              go_upto_region 18 with fail
              clear e0 e1 e2 e3 e4 e5 e6 e7 e8 e9 e10 e11
              have K := Lib.hid (RS.out _ _ K.out ((Below.refl _ _).alloc (Nat.le_refl _) (.cells #[.bool (nOf (N18)), .slice G18 g18 h18, .bool (nOf (D18)), .slice I18 i18 j18] 37)))
              have ln15 := ZY.out.lt
              have BW := Lib.hid (BW.out.alloc BW.out.size (.cells #[.bool (nOf (N18)), .slice G18 g18 h18, .bool (nOf (D18)), .slice I18 i18 j18] 37))
              have U17 := Lib.hid (U17.out.alloc (.cells #[.bool (nOf (N18)), .slice G18 g18 h18, .bool (nOf (D18)), .slice I18 i18 j18] 37))
              have V17 := Lib.hid (V17.out.alloc (.cells #[.bool (nOf (N18)), .slice G18 g18 h18, .bool (nOf (D18)), .slice I18 i18 j18] 37))
              have ZY := Lib.hid (ZY.out.alloc (.cells #[.bool (nOf (N18)), .slice G18 g18 h18, .bool (nOf (D18)), .slice I18 i18 j18] 37))
              have U18 := Lib.hid (U18.out.alloc (.cells #[.bool (nOf (N18)), .slice G18 g18 h18, .bool (nOf (D18)), .slice I18 i18 j18] 37))
              have V18 := Lib.hid (V18.out.alloc (.cells #[.bool (nOf (N18)), .slice G18 g18 h18, .bool (nOf (D18)), .slice I18 i18 j18] 37))
              have ZZ := Lib.hid (Bk.new 37 x3 #[.bool (nOf (N18)), .slice G18 g18 h18, .bool (nOf (D18)), .slice I18 i18 j18])
              generalize (x3.alloc (.cells #[.bool (nOf (N18)), .slice G18 g18 h18, .bool (nOf (D18)), .slice I18 i18 j18] 37)) = W18 at *
              obtain ⟨e0, e1, e2, e3⟩ := ZY.out.c4
              obtain ⟨e4, e5, e6, e7⟩ := ZZ.out.c4
              go_wp2_with fail
              ((with_reducible refine (radd_some N17 D17 N18 D18 G17 I17 G18 I18 g17 h17 i17 j17 g18 h18 i18 j18 _ U17.out V17.out U18.out V18.out).mono ?_); rintro e x4 ⟨N19, D19, b19, G19, g19, h19, I19, i19, j19, rfl, hs, ht, hb⟩)
              clear e0 e1 e2 e3 e4 e5 e6 e7
              have BW := Lib.hid (below_on BW.out hb)
              have U17 := Lib.hid (U17.out.below hb)
              have V17 := Lib.hid (V17.out.below hb)
              have ZY := Lib.hid (ZY.out.below hb)
              have U18 := Lib.hid (U18.out.below hb)
              have V18 := Lib.hid (V18.out.below hb)
              have ZZ := Lib.hid (ZZ.out.below hb)
              have K := Lib.hid (RS.out _ _ K.out hb)
              clear hb
              have U19 := Lib.hid hs
              have V19 := Lib.hid ht
              clear hs ht
              obtain ⟨e0, e1, e2, e3⟩ := ZY.out.c4
              obtain ⟨e4, e5, e6, e7⟩ := ZZ.out.c4
              go_upto_region 19 with fail
              clear e0 e1 e2 e3 e4 e5 e6 e7
              have K := Lib.hid (RS.out _ _ K.out ((Below.refl _ _).alloc (Nat.le_refl _) (.cells #[.bool (nOf (N19)), .slice G19 g19 h19, .bool (nOf (D19)), .slice I19 i19 j19] 37)))
              have ln16 := ZY.out.lt
              have ln17 := ZZ.out.lt
              have BW := Lib.hid (BW.out.alloc BW.out.size (.cells #[.bool (nOf (N19)), .slice G19 g19 h19, .bool (nOf (D19)), .slice I19 i19 j19] 37))
              have U17 := Lib.hid (U17.out.alloc (.cells #[.bool (nOf (N19)), .slice G19 g19 h19, .bool (nOf (D19)), .slice I19 i19 j19] 37))
              have V17 := Lib.hid (V17.out.alloc (.cells #[.bool (nOf (N19)), .slice G19 g19 h19, .bool (nOf (D19)), .slice I19 i19 j19] 37))
              have ZY := Lib.hid (ZY.out.alloc (.cells #[.bool (nOf (N19)), .slice G19 g19 h19, .bool (nOf (D19)), .slice I19 i19 j19] 37))
              have U18 := Lib.hid (U18.out.alloc (.cells #[.bool (nOf (N19)), .slice G19 g19 h19, .bool (nOf (D19)), .slice I19 i19 j19] 37))
              have V18 := Lib.hid (V18.out.alloc (.cells #[.bool (nOf (N19)), .slice G19 g19 h19, .bool (nOf (D19)), .slice I19 i19 j19] 37))
              have ZZ := Lib.hid (ZZ.out.alloc (.cells #[.bool (nOf (N19)), .slice G19 g19 h19, .bool (nOf (D19)), .slice I19 i19 j19] 37))
              have U19 := Lib.hid (U19.out.alloc (.cells #[.bool (nOf (N19)), .slice G19 g19 h19, .bool (nOf (D19)), .slice I19 i19 j19] 37))
              have V19 := Lib.hid (V19.out.alloc (.cells #[.bool (nOf (N19)), .slice G19 g19 h19, .bool (nOf (D19)), .slice I19 i19 j19] 37))
              have ZW := Lib.hid (Bk.new 37 x4 #[.bool (nOf (N19)), .slice G19 g19 h19, .bool (nOf (D19)), .slice I19 i19 j19])
              generalize (x4.alloc (.cells #[.bool (nOf (N19)), .slice G19 g19 h19, .bool (nOf (D19)), .slice I19 i19 j19] 37)) = W19 at *
              go_wp2_with fail
              go_ret
              exact ⟨rfl, BW.out⟩
        · have HL := Lib.hid hl
          have HV1 := Lib.hid e1
          have HV2 := Lib.hid e2
          have HV3 := Lib.hid e3
          clear hl e1 e2 e3
          have BW := Lib.hid (Below.refl w.heap.size w)
          go_enter Tryd.func7, Tryd.ntmps7
          go_upto_region 1 with fail
          have S1 := Lib.hid (S1.out.alloc (.cells #[.bool s1, .slice A1 n1 c1, .bool t1, .slice B1 m1 d1] 37))
          have T1 := Lib.hid (T1.out.alloc (.cells #[.bool s1, .slice A1 n1 c1, .bool t1, .slice B1 m1 d1] 37))
          have S2 := Lib.hid (S2.out.alloc (.cells #[.bool s1, .slice A1 n1 c1, .bool t1, .slice B1 m1 d1] 37))
          have T2 := Lib.hid (T2.out.alloc (.cells #[.bool s1, .slice A1 n1 c1, .bool t1, .slice B1 m1 d1] 37))
          have S3 := Lib.hid (S3.out.alloc (.cells #[.bool s1, .slice A1 n1 c1, .bool t1, .slice B1 m1 d1] 37))
          have T3 := Lib.hid (T3.out.alloc (.cells #[.bool s1, .slice A1 n1 c1, .bool t1, .slice B1 m1 d1] 37))
          have TB := Lib.hid (tab_on TB.out ((Below.refl _ _).alloc (Nat.le_refl _) (.cells #[.bool s1, .slice A1 n1 c1, .bool t1, .slice B1 m1 d1] 37)))
          have BW := Lib.hid (BW.out.alloc BW.out.size (.cells #[.bool s1, .slice A1 n1 c1, .bool t1, .slice B1 m1 d1] 37))
          have X1 := Lib.hid (Bk.new 37 w #[.bool s1, .slice A1 n1 c1, .bool t1, .slice B1 m1 d1])
          have S1 := Lib.hid (S1.out.alloc (.cells #[.bool s2, .slice A2 n2 c2, .bool t2, .slice B2 m2 d2] 37))
          have T1 := Lib.hid (T1.out.alloc (.cells #[.bool s2, .slice A2 n2 c2, .bool t2, .slice B2 m2 d2] 37))
          have S2 := Lib.hid (S2.out.alloc (.cells #[.bool s2, .slice A2 n2 c2, .bool t2, .slice B2 m2 d2] 37))
          have T2 := Lib.hid (T2.out.alloc (.cells #[.bool s2, .slice A2 n2 c2, .bool t2, .slice B2 m2 d2] 37))
          have S3 := Lib.hid (S3.out.alloc (.cells #[.bool s2, .slice A2 n2 c2, .bool t2, .slice B2 m2 d2] 37))
          have T3 := Lib.hid (T3.out.alloc (.cells #[.bool s2, .slice A2 n2 c2, .bool t2, .slice B2 m2 d2] 37))
          have TB := Lib.hid (tab_on TB.out ((Below.refl _ _).alloc (Nat.le_refl _) (.cells #[.bool s2, .slice A2 n2 c2, .bool t2, .slice B2 m2 d2] 37)))
          have BW := Lib.hid (BW.out.alloc BW.out.size (.cells #[.bool s2, .slice A2 n2 c2, .bool t2, .slice B2 m2 d2] 37))
          have X1 := Lib.hid (X1.out.alloc (.cells #[.bool s2, .slice A2 n2 c2, .bool t2, .slice B2 m2 d2] 37))
          have X2 := Lib.hid (Bk.new 37 (w.alloc (.cells #[.bool s1, .slice A1 n1 c1, .bool t1, .slice B1 m1 d1] 37)) #[.bool s2, .slice A2 n2 c2, .bool t2, .slice B2 m2 d2])
          rw [alloc_sz] at X2
          have S1 := Lib.hid (S1.out.alloc (.cells #[.bool s3, .slice A3 n3 c3, .bool t3, .slice B3 m3 d3] 37))
          have T1 := Lib.hid (T1.out.alloc (.cells #[.bool s3, .slice A3 n3 c3, .bool t3, .slice B3 m3 d3] 37))
          have S2 := Lib.hid (S2.out.alloc (.cells #[.bool s3, .slice A3 n3 c3, .bool t3, .slice B3 m3 d3] 37))
          have T2 := Lib.hid (T2.out.alloc (.cells #[.bool s3, .slice A3 n3 c3, .bool t3, .slice B3 m3 d3] 37))
          have S3 := Lib.hid (S3.out.alloc (.cells #[.bool s3, .slice A3 n3 c3, .bool t3, .slice B3 m3 d3] 37))
          have T3 := Lib.hid (T3.out.alloc (.cells #[.bool s3, .slice A3 n3 c3, .bool t3, .slice B3 m3 d3] 37))
          have TB := Lib.hid (tab_on TB.out ((Below.refl _ _).alloc (Nat.le_refl _) (.cells #[.bool s3, .slice A3 n3 c3, .bool t3, .slice B3 m3 d3] 37)))
          have BW := Lib.hid (BW.out.alloc BW.out.size (.cells #[.bool s3, .slice A3 n3 c3, .bool t3, .slice B3 m3 d3] 37))
          have X1 := Lib.hid (X1.out.alloc (.cells #[.bool s3, .slice A3 n3 c3, .bool t3, .slice B3 m3 d3] 37))
          have X2 := Lib.hid (X2.out.alloc (.cells #[.bool s3, .slice A3 n3 c3, .bool t3, .slice B3 m3 d3] 37))
          have X3 := Lib.hid (Bk.new 37 ((w.alloc (.cells #[.bool s1, .slice A1 n1 c1, .bool t1, .slice B1 m1 d1] 37)).alloc (.cells #[.bool s2, .slice A2 n2 c2, .bool t2, .slice B2 m2 d2] 37)) #[.bool s3, .slice A3 n3 c3, .bool t3, .slice B3 m3 d3])
          rw [alloc_sz, alloc_sz] at X3
          generalize (((w.alloc (.cells #[.bool s1, .slice A1 n1 c1, .bool t1, .slice B1 m1 d1] 37)).alloc (.cells #[.bool s2, .slice A2 n2 c2, .bool t2, .slice B2 m2 d2] 37)).alloc (.cells #[.bool s3, .slice A3 n3 c3, .bool t3, .slice B3 m3 d3] 37)) = W0 at *
          have e0 : W0.cell? ⟨w.heap.size, 0, none⟩ = some (.bool s1) := X1.out.c 0 rfl
          have e1 : W0.cell? ⟨w.heap.size, 1, none⟩ = some (.slice A1 n1 c1) := X1.out.c 1 rfl
          have e2 : W0.cell? ⟨w.heap.size, 2, none⟩ = some (.bool t1) := X1.out.c 2 rfl
          have e3 : W0.cell? ⟨w.heap.size, 3, none⟩ = some (.slice B1 m1 d1) := X1.out.c 3 rfl
          have e4 : W0.cell? ⟨w.heap.size + 1, 0, none⟩ = some (.bool s2) := X2.out.c 0 rfl
          have e5 : W0.cell? ⟨w.heap.size + 1, 1, none⟩ = some (.slice A2 n2 c2) := X2.out.c 1 rfl
          have e6 : W0.cell? ⟨w.heap.size + 1, 2, none⟩ = some (.bool t2) := X2.out.c 2 rfl
          have e7 : W0.cell? ⟨w.heap.size + 1, 3, none⟩ = some (.slice B2 m2 d2) := X2.out.c 3 rfl
          have e8 : W0.cell? ⟨w.heap.size + 1 + 1, 0, none⟩ = some (.bool s3) := X3.out.c 0 rfl
          have e9 : W0.cell? ⟨w.heap.size + 1 + 1, 1, none⟩ = some (.slice A3 n3 c3) := X3.out.c 1 rfl
          have e10 : W0.cell? ⟨w.heap.size + 1 + 1, 2, none⟩ = some (.bool t3) := X3.out.c 2 rfl
          have e11 : W0.cell? ⟨w.heap.size + 1 + 1, 3, none⟩ = some (.slice B3 m3 d3) := X3.out.c 3 rfl
          go_wp2_with fail
          clear e0 e1 e2 e3 e4 e5 e6 e7 e8 e9 e10 e11
          have ln1 := X1.out.lt
          have ln2 := X2.out.lt
          have ln3 := X3.out.lt
          have S1 := Lib.hid (S1.out.alloc (.cells #[.bool s1, .slice A1 n1 c1, .bool t1, .slice B1 m1 d1, .bool s2, .slice A2 n2 c2, .bool t2, .slice B2 m2 d2, .bool s3, .slice A3 n3 c3, .bool t3, .slice B3 m3 d3] 37))
          have T1 := Lib.hid (T1.out.alloc (.cells #[.bool s1, .slice A1 n1 c1, .bool t1, .slice B1 m1 d1, .bool s2, .slice A2 n2 c2, .bool t2, .slice B2 m2 d2, .bool s3, .slice A3 n3 c3, .bool t3, .slice B3 m3 d3] 37))
          have S2 := Lib.hid (S2.out.alloc (.cells #[.bool s1, .slice A1 n1 c1, .bool t1, .slice B1 m1 d1, .bool s2, .slice A2 n2 c2, .bool t2, .slice B2 m2 d2, .bool s3, .slice A3 n3 c3, .bool t3, .slice B3 m3 d3] 37))
          have T2 := Lib.hid (T2.out.alloc (.cells #[.bool s1, .slice A1 n1 c1, .bool t1, .slice B1 m1 d1, .bool s2, .slice A2 n2 c2, .bool t2, .slice B2 m2 d2, .bool s3, .slice A3 n3 c3, .bool t3, .slice B3 m3 d3] 37))
          have S3 := Lib.hid (S3.out.alloc (.cells #[.bool s1, .slice A1 n1 c1, .bool t1, .slice B1 m1 d1, .bool s2, .slice A2 n2 c2, .bool t2, .slice B2 m2 d2, .bool s3, .slice A3 n3 c3, .bool t3, .slice B3 m3 d3] 37))
          have T3 := Lib.hid (T3.out.alloc (.cells #[.bool s1, .slice A1 n1 c1, .bool t1, .slice B1 m1 d1, .bool s2, .slice A2 n2 c2, .bool t2, .slice B2 m2 d2, .bool s3, .slice A3 n3 c3, .bool t3, .slice B3 m3 d3] 37))
          have TB := Lib.hid (tab_on TB.out ((Below.refl _ _).alloc (Nat.le_refl _) (.cells #[.bool s1, .slice A1 n1 c1, .bool t1, .slice B1 m1 d1, .bool s2, .slice A2 n2 c2, .bool t2, .slice B2 m2 d2, .bool s3, .slice A3 n3 c3, .bool t3, .slice B3 m3 d3] 37)))
          have BW := Lib.hid (BW.out.alloc BW.out.size (.cells #[.bool s1, .slice A1 n1 c1, .bool t1, .slice B1 m1 d1, .bool s2, .slice A2 n2 c2, .bool t2, .slice B2 m2 d2, .bool s3, .slice A3 n3 c3, .bool t3, .slice B3 m3 d3] 37))
          have X1 := Lib.hid (X1.out.alloc (.cells #[.bool s1, .slice A1 n1 c1, .bool t1, .slice B1 m1 d1, .bool s2, .slice A2 n2 c2, .bool t2, .slice B2 m2 d2, .bool s3, .slice A3 n3 c3, .bool t3, .slice B3 m3 d3] 37))
          have X2 := Lib.hid (X2.out.alloc (.cells #[.bool s1, .slice A1 n1 c1, .bool t1, .slice B1 m1 d1, .bool s2, .slice A2 n2 c2, .bool t2, .slice B2 m2 d2, .bool s3, .slice A3 n3 c3, .bool t3, .slice B3 m3 d3] 37))
          have X3 := Lib.hid (X3.out.alloc (.cells #[.bool s1, .slice A1 n1 c1, .bool t1, .slice B1 m1 d1, .bool s2, .slice A2 n2 c2, .bool t2, .slice B2 m2 d2, .bool s3, .slice A3 n3 c3, .bool t3, .slice B3 m3 d3] 37))
          have XL := Lib.hid (Bk.new 37 W0 #[.bool s1, .slice A1 n1 c1, .bool t1, .slice B1 m1 d1, .bool s2, .slice A2 n2 c2, .bool t2, .slice B2 m2 d2, .bool s3, .slice A3 n3 c3, .bool t3, .slice B3 m3 d3])
          generalize (W0.alloc (.cells #[.bool s1, .slice A1 n1 c1, .bool t1, .slice B1 m1 d1, .bool s2, .slice A2 n2 c2, .bool t2, .slice B2 m2 d2, .bool s3, .slice A3 n3 c3, .bool t3, .slice B3 m3 d3] 37)) = WL at *
          have e0 : WL.cell? ⟨w.heap.size, 0, none⟩ = some (.bool s1) := X1.out.c 0 rfl
          have e1 : WL.cell? ⟨w.heap.size, 1, none⟩ = some (.slice A1 n1 c1) := X1.out.c 1 rfl
          have e2 : WL.cell? ⟨w.heap.size, 2, none⟩ = some (.bool t1) := X1.out.c 2 rfl
          have e3 : WL.cell? ⟨w.heap.size, 3, none⟩ = some (.slice B1 m1 d1) := X1.out.c 3 rfl
          have e4 : WL.cell? ⟨w.heap.size + 1, 0, none⟩ = some (.bool s2) := X2.out.c 0 rfl
          have e5 : WL.cell? ⟨w.heap.size + 1, 1, none⟩ = some (.slice A2 n2 c2) := X2.out.c 1 rfl
          have e6 : WL.cell? ⟨w.heap.size + 1, 2, none⟩ = some (.bool t2) := X2.out.c 2 rfl
          have e7 : WL.cell? ⟨w.heap.size + 1, 3, none⟩ = some (.slice B2 m2 d2) := X2.out.c 3 rfl
          have e8 : WL.cell? ⟨w.heap.size + 1 + 1, 0, none⟩ = some (.bool s3) := X3.out.c 0 rfl
          have e9 : WL.cell? ⟨w.heap.size + 1 + 1, 1, none⟩ = some (.slice A3 n3 c3) := X3.out.c 1 rfl
          have e10 : WL.cell? ⟨w.heap.size + 1 + 1, 2, none⟩ = some (.bool t3) := X3.out.c 2 rfl
          have e11 : WL.cell? ⟨w.heap.size + 1 + 1, 3, none⟩ = some (.slice B3 m3 d3) := X3.out.c 3 rfl
          ((with_reducible refine (light3_any W0.heap.size s1 t1 A1 B1 n1 c1 m1 d1 s2 t2 A2 B2 n2 c2 m2 d2 s3 t3 A3 B3 n3 c3 m3 d3 _ XL.out).mono ?_); rintro e w1 ⟨rfl, hb⟩)
          rw [HL.out]
          clear e0 e1 e2 e3 e4 e5 e6 e7 e8 e9 e10 e11
          have S1 := Lib.hid (S1.out.below hb)
          have T1 := Lib.hid (T1.out.below hb)
          have S2 := Lib.hid (S2.out.below hb)
          have T2 := Lib.hid (T2.out.below hb)
          have S3 := Lib.hid (S3.out.below hb)
          have T3 := Lib.hid (T3.out.below hb)
          have TB := Lib.hid (tab_on TB.out hb)
          have BW := Lib.hid (below_on BW.out hb)
          have X1 := Lib.hid (X1.out.below hb)
          have X2 := Lib.hid (X2.out.below hb)
          have X3 := Lib.hid (X3.out.below hb)
          have XL := Lib.hid (XL.out.below hb)
          clear hb
          clear XL
          have e0 : w1.cell? ⟨w.heap.size, 0, none⟩ = some (.bool s1) := X1.out.c 0 rfl
          have e1 : w1.cell? ⟨w.heap.size, 1, none⟩ = some (.slice A1 n1 c1) := X1.out.c 1 rfl
          have e2 : w1.cell? ⟨w.heap.size, 2, none⟩ = some (.bool t1) := X1.out.c 2 rfl
          have e3 : w1.cell? ⟨w.heap.size, 3, none⟩ = some (.slice B1 m1 d1) := X1.out.c 3 rfl
          have e4 : w1.cell? ⟨w.heap.size + 1, 0, none⟩ = some (.bool s2) := X2.out.c 0 rfl
          have e5 : w1.cell? ⟨w.heap.size + 1, 1, none⟩ = some (.slice A2 n2 c2) := X2.out.c 1 rfl
          have e6 : w1.cell? ⟨w.heap.size + 1, 2, none⟩ = some (.bool t2) := X2.out.c 2 rfl
          have e7 : w1.cell? ⟨w.heap.size + 1, 3, none⟩ = some (.slice B2 m2 d2) := X2.out.c 3 rfl
          have e8 : w1.cell? ⟨w.heap.size + 1 + 1, 0, none⟩ = some (.bool s3) := X3.out.c 0 rfl
          have e9 : w1.cell? ⟨w.heap.size + 1 + 1, 1, none⟩ = some (.slice A3 n3 c3) := X3.out.c 1 rfl
          have e10 : w1.cell? ⟨w.heap.size + 1 + 1, 2, none⟩ = some (.bool t3) := X3.out.c 2 rfl
          have e11 : w1.cell? ⟨w.heap.size + 1 + 1, 3, none⟩ = some (.slice B3 m3 d3) := X3.out.c 3 rfl
          go_wp2_with fail
          ((with_reducible refine (rvalid_any s1 t1 A1 B1 n1 c1 m1 d1 x1 y1 _ S1.out T1.out).mono ?_); rintro e v1 ⟨rfl, hb⟩)
          rw [HV1.out]
          clear e0 e1 e2 e3 e4 e5 e6 e7 e8 e9 e10 e11
          have S1 := Lib.hid (S1.out.below hb)
          have T1 := Lib.hid (T1.out.below hb)
          have S2 := Lib.hid (S2.out.below hb)
          have T2 := Lib.hid (T2.out.below hb)
          have S3 := Lib.hid (S3.out.below hb)
          have T3 := Lib.hid (T3.out.below hb)
          have TB := Lib.hid (tab_on TB.out hb)
          have BW := Lib.hid (below_on BW.out hb)
          have X1 := Lib.hid (X1.out.below hb)
          have X2 := Lib.hid (X2.out.below hb)
          have X3 := Lib.hid (X3.out.below hb)
          clear hb
          have e0 : v1.cell? ⟨w.heap.size, 0, none⟩ = some (.bool s1) := X1.out.c 0 rfl
          have e1 : v1.cell? ⟨w.heap.size, 1, none⟩ = some (.slice A1 n1 c1) := X1.out.c 1 rfl
          have e2 : v1.cell? ⟨w.heap.size, 2, none⟩ = some (.bool t1) := X1.out.c 2 rfl
          have e3 : v1.cell? ⟨w.heap.size, 3, none⟩ = some (.slice B1 m1 d1) := X1.out.c 3 rfl
          have e4 : v1.cell? ⟨w.heap.size + 1, 0, none⟩ = some (.bool s2) := X2.out.c 0 rfl
          have e5 : v1.cell? ⟨w.heap.size + 1, 1, none⟩ = some (.slice A2 n2 c2) := X2.out.c 1 rfl
          have e6 : v1.cell? ⟨w.heap.size + 1, 2, none⟩ = some (.bool t2) := X2.out.c 2 rfl
          have e7 : v1.cell? ⟨w.heap.size + 1, 3, none⟩ = some (.slice B2 m2 d2) := X2.out.c 3 rfl
          have e8 : v1.cell? ⟨w.heap.size + 1 + 1, 0, none⟩ = some (.bool s3) := X3.out.c 0 rfl
          have e9 : v1.cell? ⟨w.heap.size + 1 + 1, 1, none⟩ = some (.slice A3 n3 c3) := X3.out.c 1 rfl
          have e10 : v1.cell? ⟨w.heap.size + 1 + 1, 2, none⟩ = some (.bool t3) := X3.out.c 2 rfl
          have e11 : v1.cell? ⟨w.heap.size + 1 + 1, 3, none⟩ = some (.slice B3 m3 d3) := X3.out.c 3 rfl
          go_wp2_with fail
          ((with_reducible refine (rvalid_any s2 t2 A2 B2 n2 c2 m2 d2 x2 y2 _ S2.out T2.out).mono ?_); rintro e v2 ⟨rfl, hb⟩)
          rw [HV2.out]
          clear e0 e1 e2 e3 e4 e5 e6 e7 e8 e9 e10 e11
          have S1 := Lib.hid (S1.out.below hb)
          have T1 := Lib.hid (T1.out.below hb)
          have S2 := Lib.hid (S2.out.below hb)
          have T2 := Lib.hid (T2.out.below hb)
          have S3 := Lib.hid (S3.out.below hb)
          have T3 := Lib.hid (T3.out.below hb)
          have TB := Lib.hid (tab_on TB.out hb)
          have BW := Lib.hid (below_on BW.out hb)
          have X1 := Lib.hid (X1.out.below hb)
          have X2 := Lib.hid (X2.out.below hb)
          have X3 := Lib.hid (X3.out.below hb)
          clear hb
          have e0 : v2.cell? ⟨w.heap.size, 0, none⟩ = some (.bool s1) := X1.out.c 0 rfl
          have e1 : v2.cell? ⟨w.heap.size, 1, none⟩ = some (.slice A1 n1 c1) := X1.out.c 1 rfl
          have e2 : v2.cell? ⟨w.heap.size, 2, none⟩ = some (.bool t1) := X1.out.c 2 rfl
          have e3 : v2.cell? ⟨w.heap.size, 3, none⟩ = some (.slice B1 m1 d1) := X1.out.c 3 rfl
          have e4 : v2.cell? ⟨w.heap.size + 1, 0, none⟩ = some (.bool s2) := X2.out.c 0 rfl
          have e5 : v2.cell? ⟨w.heap.size + 1, 1, none⟩ = some (.slice A2 n2 c2) := X2.out.c 1 rfl
          have e6 : v2.cell? ⟨w.heap.size + 1, 2, none⟩ = some (.bool t2) := X2.out.c 2 rfl
          have e7 : v2.cell? ⟨w.heap.size + 1, 3, none⟩ = some (.slice B2 m2 d2) := X2.out.c 3 rfl
          have e8 : v2.cell? ⟨w.heap.size + 1 + 1, 0, none⟩ = some (.bool s3) := X3.out.c 0 rfl
          have e9 : v2.cell? ⟨w.heap.size + 1 + 1, 1, none⟩ = some (.slice A3 n3 c3) := X3.out.c 1 rfl
          have e10 : v2.cell? ⟨w.heap.size + 1 + 1, 2, none⟩ = some (.bool t3) := X3.out.c 2 rfl
          have e11 : v2.cell? ⟨w.heap.size + 1 + 1, 3, none⟩ = some (.slice B3 m3 d3) := X3.out.c 3 rfl
          go_wp2_with fail
          ((with_reducible refine (rvalid_any s3 t3 A3 B3 n3 c3 m3 d3 x3 y3 _ S3.out T3.out).mono ?_); rintro e v3 ⟨rfl, hb⟩)
          rw [HV3.out]
          clear e0 e1 e2 e3 e4 e5 e6 e7 e8 e9 e10 e11
          have S1 := Lib.hid (S1.out.below hb)
          have T1 := Lib.hid (T1.out.below hb)
          have S2 := Lib.hid (S2.out.below hb)
          have T2 := Lib.hid (T2.out.below hb)
          have S3 := Lib.hid (S3.out.below hb)
          have T3 := Lib.hid (T3.out.below hb)
          have TB := Lib.hid (tab_on TB.out hb)
          have BW := Lib.hid (below_on BW.out hb)
          have X1 := Lib.hid (X1.out.below hb)
          have X2 := Lib.hid (X2.out.below hb)
          have X3 := Lib.hid (X3.out.below hb)
          clear hb
          have e0 : v3.cell? ⟨w.heap.size, 0, none⟩ = some (.bool s1) := X1.out.c 0 rfl
          have e1 : v3.cell? ⟨w.heap.size, 1, none⟩ = some (.slice A1 n1 c1) := X1.out.c 1 rfl
          have e2 : v3.cell? ⟨w.heap.size, 2, none⟩ = some (.bool t1) := X1.out.c 2 rfl
          have e3 : v3.cell? ⟨w.heap.size, 3, none⟩ = some (.slice B1 m1 d1) := X1.out.c 3 rfl
          have e4 : v3.cell? ⟨w.heap.size + 1, 0, none⟩ = some (.bool s2) := X2.out.c 0 rfl
          have e5 : v3.cell? ⟨w.heap.size + 1, 1, none⟩ = some (.slice A2 n2 c2) := X2.out.c 1 rfl
          have e6 : v3.cell? ⟨w.heap.size + 1, 2, none⟩ = some (.bool t2) := X2.out.c 2 rfl
          have e7 : v3.cell? ⟨w.heap.size + 1, 3, none⟩ = some (.slice B2 m2 d2) := X2.out.c 3 rfl
          have e8 : v3.cell? ⟨w.heap.size + 1 + 1, 0, none⟩ = some (.bool s3) := X3.out.c 0 rfl
          have e9 : v3.cell? ⟨w.heap.size + 1 + 1, 1, none⟩ = some (.slice A3 n3 c3) := X3.out.c 1 rfl
          have e10 : v3.cell? ⟨w.heap.size + 1 + 1, 2, none⟩ = some (.bool t3) := X3.out.c 2 rfl
          have e11 : v3.cell? ⟨w.heap.size + 1 + 1, 3, none⟩ = some (.slice B3 m3 d3) := X3.out.c 3 rfl
          go_wp2_with fail
          ((with_reducible refine (awake3_any _ TB.out).mono ?_); rintro e w9 ⟨rfl, hb⟩)
          clear e0 e1 e2 e3 e4 e5 e6 e7 e8 e9 e10 e11
          have S1 := Lib.hid (S1.out.below hb)
          have T1 := Lib.hid (T1.out.below hb)
          have S2 := Lib.hid (S2.out.below hb)
          have T2 := Lib.hid (T2.out.below hb)
          have S3 := Lib.hid (S3.out.below hb)
          have T3 := Lib.hid (T3.out.below hb)
          have TB := Lib.hid (tab_on TB.out hb)
          have BW := Lib.hid (below_on BW.out hb)
          have X1 := Lib.hid (X1.out.below hb)
          have X2 := Lib.hid (X2.out.below hb)
          have X3 := Lib.hid (X3.out.below hb)
          clear hb
          go_wp2_with fail
          go_ret
          exact ⟨rfl, BW.out⟩
      · have HL := Lib.hid hl
        have HV1 := Lib.hid e1
        have HV2 := Lib.hid e2
        clear hl e1 e2
        have BW := Lib.hid (Below.refl w.heap.size w)
        go_enter Tryd.func7, Tryd.ntmps7
        go_upto_region 1 with fail
        have S1 := Lib.hid (S1.out.alloc (.cells #[.bool s1, .slice A1 n1 c1, .bool t1, .slice B1 m1 d1] 37))
        have T1 := Lib.hid (T1.out.alloc (.cells #[.bool s1, .slice A1 n1 c1, .bool t1, .slice B1 m1 d1] 37))
        have S2 := Lib.hid (S2.out.alloc (.cells #[.bool s1, .slice A1 n1 c1, .bool t1, .slice B1 m1 d1] 37))
        have T2 := Lib.hid (T2.out.alloc (.cells #[.bool s1, .slice A1 n1 c1, .bool t1, .slice B1 m1 d1] 37))
        have S3 := Lib.hid (S3.out.alloc (.cells #[.bool s1, .slice A1 n1 c1, .bool t1, .slice B1 m1 d1] 37))
        have T3 := Lib.hid (T3.out.alloc (.cells #[.bool s1, .slice A1 n1 c1, .bool t1, .slice B1 m1 d1] 37))
        have TB := Lib.hid (tab_on TB.out ((Below.refl _ _).alloc (Nat.le_refl _) (.cells #[.bool s1, .slice A1 n1 c1, .bool t1, .slice B1 m1 d1] 37)))
        have BW := Lib.hid (BW.out.alloc BW.out.size (.cells #[.bool s1, .slice A1 n1 c1, .bool t1, .slice B1 m1 d1] 37))
        have X1 := Lib.hid (Bk.new 37 w #[.bool s1, .slice A1 n1 c1, .bool t1, .slice B1 m1 d1])
        have S1 := Lib.hid (S1.out.alloc (.cells #[.bool s2, .slice A2 n2 c2, .bool t2, .slice B2 m2 d2] 37))
        have T1 := Lib.hid (T1.out.alloc (.cells #[.bool s2, .slice A2 n2 c2, .bool t2, .slice B2 m2 d2] 37))
        have S2 := Lib.hid (S2.out.alloc (.cells #[.bool s2, .slice A2 n2 c2, .bool t2, .slice B2 m2 d2] 37))
        have T2 := Lib.hid (T2.out.alloc (.cells #[.bool s2, .slice A2 n2 c2, .bool t2, .slice B2 m2 d2] 37))
        have S3 := Lib.hid (S3.out.alloc (.cells #[.bool s2, .slice A2 n2 c2, .bool t2, .slice B2 m2 d2] 37))
        have T3 := Lib.hid (T3.out.alloc (.cells #[.bool s2, .slice A2 n2 c2, .bool t2, .slice B2 m2 d2] 37))
        have TB := Lib.hid (tab_on TB.out ((Below.refl _ _).alloc (Nat.le_refl _) (.cells #[.bool s2, .slice A2 n2 c2, .bool t2, .slice B2 m2 d2] 37)))
        have BW := Lib.hid (BW.out.alloc BW.out.size (.cells #[.bool s2, .slice A2 n2 c2, .bool t2, .slice B2 m2 d2] 37))
        have X1 := Lib.hid (X1.out.alloc (.cells #[.bool s2, .slice A2 n2 c2, .bool t2, .slice B2 m2 d2] 37))
        have X2 := Lib.hid (Bk.new 37 (w.alloc (.cells #[.bool s1, .slice A1 n1 c1, .bool t1, .slice B1 m1 d1] 37)) #[.bool s2, .slice A2 n2 c2, .bool t2, .slice B2 m2 d2])
        rw [alloc_sz] at X2
        have S1 := Lib.hid (S1.out.alloc (.cells #[.bool s3, .slice A3 n3 c3, .bool t3, .slice B3 m3 d3] 37))
        have T1 := Lib.hid (T1.out.alloc (.cells #[.bool s3, .slice A3 n3 c3, .bool t3, .slice B3 m3 d3] 37))
        have S2 := Lib.hid (S2.out.alloc (.cells #[.bool s3, .slice A3 n3 c3, .bool t3, .slice B3 m3 d3] 37))
        have T2 := Lib.hid (T2.out.alloc (.cells #[.bool s3, .slice A3 n3 c3, .bool t3, .slice B3 m3 d3] 37))
        have S3 := Lib.hid (S3.out.alloc (.cells #[.bool s3, .slice A3 n3 c3, .bool t3, .slice B3 m3 d3] 37))
        have T3 := Lib.hid (T3.out.alloc (.cells #[.bool s3, .slice A3 n3 c3, .bool t3, .slice B3 m3 d3] 37))
        have TB := Lib.hid (tab_on TB.out ((Below.refl _ _).alloc (Nat.le_refl _) (.cells #[.bool s3, .slice A3 n3 c3, .bool t3, .slice B3 m3 d3] 37)))
        have BW := Lib.hid (BW.out.alloc BW.out.size (.cells #[.bool s3, .slice A3 n3 c3, .bool t3, .slice B3 m3 d3] 37))
        have X1 := Lib.hid (X1.out.alloc (.cells #[.bool s3, .slice A3 n3 c3, .bool t3, .slice B3 m3 d3] 37))
        have X2 := Lib.hid (X2.out.alloc (.cells #[.bool s3, .slice A3 n3 c3, .bool t3, .slice B3 m3 d3] 37))
        have X3 := Lib.hid (Bk.new 37 ((w.alloc (.cells #[.bool s1, .slice A1 n1 c1, .bool t1, .slice B1 m1 d1] 37)).alloc (.cells #[.bool s2, .slice A2 n2 c2, .bool t2, .slice B2 m2 d2] 37)) #[.bool s3, .slice A3 n3 c3, .bool t3, .slice B3 m3 d3])
        rw [alloc_sz, alloc_sz] at X3
        generalize (((w.alloc (.cells #[.bool s1, .slice A1 n1 c1, .bool t1, .slice B1 m1 d1] 37)).alloc (.cells #[.bool s2, .slice A2 n2 c2, .bool t2, .slice B2 m2 d2] 37)).alloc (.cells #[.bool s3, .slice A3 n3 c3, .bool t3, .slice B3 m3 d3] 37)) = W0 at *
        have e0 : W0.cell? ⟨w.heap.size, 0, none⟩ = some (.bool s1) := X1.out.c 0 rfl
        have e1 : W0.cell? ⟨w.heap.size, 1, none⟩ = some (.slice A1 n1 c1) := X1.out.c 1 rfl
        have e2 : W0.cell? ⟨w.heap.size, 2, none⟩ = some (.bool t1) := X1.out.c 2 rfl
        have e3 : W0.cell? ⟨w.heap.size, 3, none⟩ = some (.slice B1 m1 d1) := X1.out.c 3 rfl
        have e4 : W0.cell? ⟨w.heap.size + 1, 0, none⟩ = some (.bool s2) := X2.out.c 0 rfl
        have e5 : W0.cell? ⟨w.heap.size + 1, 1, none⟩ = some (.slice A2 n2 c2) := X2.out.c 1 rfl
        have e6 : W0.cell? ⟨w.heap.size + 1, 2, none⟩ = some (.bool t2) := X2.out.c 2 rfl
        have e7 : W0.cell? ⟨w.heap.size + 1, 3, none⟩ = some (.slice B2 m2 d2) := X2.out.c 3 rfl
        have e8 : W0.cell? ⟨w.heap.size + 1 + 1, 0, none⟩ = some (.bool s3) := X3.out.c 0 rfl
        have e9 : W0.cell? ⟨w.heap.size + 1 + 1, 1, none⟩ = some (.slice A3 n3 c3) := X3.out.c 1 rfl
        have e10 : W0.cell? ⟨w.heap.size + 1 + 1, 2, none⟩ = some (.bool t3) := X3.out.c 2 rfl
        have e11 : W0.cell? ⟨w.heap.size + 1 + 1, 3, none⟩ = some (.slice B3 m3 d3) := X3.out.c 3 rfl
        go_wp2_with fail
        clear e0 e1 e2 e3 e4 e5 e6 e7 e8 e9 e10 e11
        have ln1 := X1.out.lt
        have ln2 := X2.out.lt
        have ln3 := X3.out.lt
        have S1 := Lib.hid (S1.out.alloc (.cells #[.bool s1, .slice A1 n1 c1, .bool t1, .slice B1 m1 d1, .bool s2, .slice A2 n2 c2, .bool t2, .slice B2 m2 d2, .bool s3, .slice A3 n3 c3, .bool t3, .slice B3 m3 d3] 37))
        have T1 := Lib.hid (T1.out.alloc (.cells #[.bool s1, .slice A1 n1 c1, .bool t1, .slice B1 m1 d1, .bool s2, .slice A2 n2 c2, .bool t2, .slice B2 m2 d2, .bool s3, .slice A3 n3 c3, .bool t3, .slice B3 m3 d3] 37))
        have S2 := Lib.hid (S2.out.alloc (.cells #[.bool s1, .slice A1 n1 c1, .bool t1, .slice B1 m1 d1, .bool s2, .slice A2 n2 c2, .bool t2, .slice B2 m2 d2, .bool s3, .slice A3 n3 c3, .bool t3, .slice B3 m3 d3] 37))
        have T2 := Lib.hid (T2.out.alloc (.cells #[.bool s1, .slice A1 n1 c1, .bool t1, .slice B1 m1 d1, .bool s2, .slice A2 n2 c2, .bool t2, .slice B2 m2 d2, .bool s3, .slice A3 n3 c3, .bool t3, .slice B3 m3 d3] 37))
        have S3 := Lib.hid (S3.out.alloc (.cells #[.bool s1, .slice A1 n1 c1, .bool t1, .slice B1 m1 d1, .bool s2, .slice A2 n2 c2, .bool t2, .slice B2 m2 d2, .bool s3, .slice A3 n3 c3, .bool t3, .slice B3 m3 d3] 37))
        have T3 := Lib.hid (T3.out.alloc (.cells #[.bool s1, .slice A1 n1 c1, .bool t1, .slice B1 m1 d1, .bool s2, .slice A2 n2 c2, .bool t2, .slice B2 m2 d2, .bool s3, .slice A3 n3 c3, .bool t3, .slice B3 m3 d3] 37))
        have TB := Lib.hid (tab_on TB.out ((Below.refl _ _).alloc (Nat.le_refl _) (.cells #[.bool s1, .slice A1 n1 c1, .bool t1, .slice B1 m1 d1, .bool s2, .slice A2 n2 c2, .bool t2, .slice B2 m2 d2, .bool s3, .slice A3 n3 c3, .bool t3, .slice B3 m3 d3] 37)))
        have BW := Lib.hid (BW.out.alloc BW.out.size (.cells #[.bool s1, .slice A1 n1 c1, .bool t1, .slice B1 m1 d1, .bool s2, .slice A2 n2 c2, .bool t2, .slice B2 m2 d2, .bool s3, .slice A3 n3 c3, .bool t3, .slice B3 m3 d3] 37))
        have X1 := Lib.hid (X1.out.alloc (.cells #[.bool s1, .slice A1 n1 c1, .bool t1, .slice B1 m1 d1, .bool s2, .slice A2 n2 c2, .bool t2, .slice B2 m2 d2, .bool s3, .slice A3 n3 c3, .bool t3, .slice B3 m3 d3] 37))
        have X2 := Lib.hid (X2.out.alloc (.cells #[.bool s1, .slice A1 n1 c1, .bool t1, .slice B1 m1 d1, .bool s2, .slice A2 n2 c2, .bool t2, .slice B2 m2 d2, .bool s3, .slice A3 n3 c3, .bool t3, .slice B3 m3 d3] 37))
        have X3 := Lib.hid (X3.out.alloc (.cells #[.bool s1, .slice A1 n1 c1, .bool t1, .slice B1 m1 d1, .bool s2, .slice A2 n2 c2, .bool t2, .slice B2 m2 d2, .bool s3, .slice A3 n3 c3, .bool t3, .slice B3 m3 d3] 37))
        have XL := Lib.hid (Bk.new 37 W0 #[.bool s1, .slice A1 n1 c1, .bool t1, .slice B1 m1 d1, .bool s2, .slice A2 n2 c2, .bool t2, .slice B2 m2 d2, .bool s3, .slice A3 n3 c3, .bool t3, .slice B3 m3 d3])
        generalize (W0.alloc (.cells #[.bool s1, .slice A1 n1 c1, .bool t1, .slice B1 m1 d1, .bool s2, .slice A2 n2 c2, .bool t2, .slice B2 m2 d2, .bool s3, .slice A3 n3 c3, .bool t3, .slice B3 m3 d3] 37)) = WL at *
        have e0 : WL.cell? ⟨w.heap.size, 0, none⟩ = some (.bool s1) := X1.out.c 0 rfl
        have e1 : WL.cell? ⟨w.heap.size, 1, none⟩ = some (.slice A1 n1 c1) := X1.out.c 1 rfl
        have e2 : WL.cell? ⟨w.heap.size, 2, none⟩ = some (.bool t1) := X1.out.c 2 rfl
        have e3 : WL.cell? ⟨w.heap.size, 3, none⟩ = some (.slice B1 m1 d1) := X1.out.c 3 rfl
        have e4 : WL.cell? ⟨w.heap.size + 1, 0, none⟩ = some (.bool s2) := X2.out.c 0 rfl
        have e5 : WL.cell? ⟨w.heap.size + 1, 1, none⟩ = some (.slice A2 n2 c2) := X2.out.c 1 rfl
        have e6 : WL.cell? ⟨w.heap.size + 1, 2, none⟩ = some (.bool t2) := X2.out.c 2 rfl
        have e7 : WL.cell? ⟨w.heap.size + 1, 3, none⟩ = some (.slice B2 m2 d2) := X2.out.c 3 rfl
        have e8 : WL.cell? ⟨w.heap.size + 1 + 1, 0, none⟩ = some (.bool s3) := X3.out.c 0 rfl
        have e9 : WL.cell? ⟨w.heap.size + 1 + 1, 1, none⟩ = some (.slice A3 n3 c3) := X3.out.c 1 rfl
        have e10 : WL.cell? ⟨w.heap.size + 1 + 1, 2, none⟩ = some (.bool t3) := X3.out.c 2 rfl
        have e11 : WL.cell? ⟨w.heap.size + 1 + 1, 3, none⟩ = some (.slice B3 m3 d3) := X3.out.c 3 rfl
        ((with_reducible refine (light3_any W0.heap.size s1 t1 A1 B1 n1 c1 m1 d1 s2 t2 A2 B2 n2 c2 m2 d2 s3 t3 A3 B3 n3 c3 m3 d3 _ XL.out).mono ?_); rintro e w1 ⟨rfl, hb⟩)
        rw [HL.out]
        clear e0 e1 e2 e3 e4 e5 e6 e7 e8 e9 e10 e11
        have S1 := Lib.hid (S1.out.below hb)
        have T1 := Lib.hid (T1.out.below hb)
        have S2 := Lib.hid (S2.out.below hb)
        have T2 := Lib.hid (T2.out.below hb)
        have S3 := Lib.hid (S3.out.below hb)
        have T3 := Lib.hid (T3.out.below hb)
        have TB := Lib.hid (tab_on TB.out hb)
        have BW := Lib.hid (below_on BW.out hb)
        have X1 := Lib.hid (X1.out.below hb)
        have X2 := Lib.hid (X2.out.below hb)
        have X3 := Lib.hid (X3.out.below hb)
        have XL := Lib.hid (XL.out.below hb)
        clear hb
        clear XL
        have e0 : w1.cell? ⟨w.heap.size, 0, none⟩ = some (.bool s1) := X1.out.c 0 rfl
        have e1 : w1.cell? ⟨w.heap.size, 1, none⟩ = some (.slice A1 n1 c1) := X1.out.c 1 rfl
        have e2 : w1.cell? ⟨w.heap.size, 2, none⟩ = some (.bool t1) := X1.out.c 2 rfl
        have e3 : w1.cell? ⟨w.heap.size, 3, none⟩ = some (.slice B1 m1 d1) := X1.out.c 3 rfl
        have e4 : w1.cell? ⟨w.heap.size + 1, 0, none⟩ = some (.bool s2) := X2.out.c 0 rfl
        have e5 : w1.cell? ⟨w.heap.size + 1, 1, none⟩ = some (.slice A2 n2 c2) := X2.out.c 1 rfl
        have e6 : w1.cell? ⟨w.heap.size + 1, 2, none⟩ = some (.bool t2) := X2.out.c 2 rfl
        have e7 : w1.cell? ⟨w.heap.size + 1, 3, none⟩ = some (.slice B2 m2 d2) := X2.out.c 3 rfl
        have e8 : w1.cell? ⟨w.heap.size + 1 + 1, 0, none⟩ = some (.bool s3) := X3.out.c 0 rfl
        have e9 : w1.cell? ⟨w.heap.size + 1 + 1, 1, none⟩ = some (.slice A3 n3 c3) := X3.out.c 1 rfl
        have e10 : w1.cell? ⟨w.heap.size + 1 + 1, 2, none⟩ = some (.bool t3) := X3.out.c 2 rfl
        have e11 : w1.cell? ⟨w.heap.size + 1 + 1, 3, none⟩ = some (.slice B3 m3 d3) := X3.out.c 3 rfl
        go_wp2_with fail
        ((with_reducible refine (rvalid_any s1 t1 A1 B1 n1 c1 m1 d1 x1 y1 _ S1.out T1.out).mono ?_); rintro e v1 ⟨rfl, hb⟩)
        rw [HV1.out]
        clear e0 e1 e2 e3 e4 e5 e6 e7 e8 e9 e10 e11
        have S1 := Lib.hid (S1.out.below hb)
        have T1 := Lib.hid (T1.out.below hb)
        have S2 := Lib.hid (S2.out.below hb)
        have T2 := Lib.hid (T2.out.below hb)
        have S3 := Lib.hid (S3.out.below hb)
        have T3 := Lib.hid (T3.out.below hb)
        have TB := Lib.hid (tab_on TB.out hb)
        have BW := Lib.hid (below_on BW.out hb)
        have X1 := Lib.hid (X1.out.below hb)
        have X2 := Lib.hid (X2.out.below hb)
        have X3 := Lib.hid (X3.out.below hb)
        clear hb
        have e0 : v1.cell? ⟨w.heap.size, 0, none⟩ = some (.bool s1) := X1.out.c 0 rfl
        have e1 : v1.cell? ⟨w.heap.size, 1, none⟩ = some (.slice A1 n1 c1) := X1.out.c 1 rfl
        have e2 : v1.cell? ⟨w.heap.size, 2, none⟩ = some (.bool t1) := X1.out.c 2 rfl
        have e3 : v1.cell? ⟨w.heap.size, 3, none⟩ = some (.slice B1 m1 d1) := X1.out.c 3 rfl
        have e4 : v1.cell? ⟨w.heap.size + 1, 0, none⟩ = some (.bool s2) := X2.out.c 0 rfl
        have e5 : v1.cell? ⟨w.heap.size + 1, 1, none⟩ = some (.slice A2 n2 c2) := X2.out.c 1 rfl
        have e6 : v1.cell? ⟨w.heap.size + 1, 2, none⟩ = some (.bool t2) := X2.out.c 2 rfl
        have e7 : v1.cell? ⟨w.heap.size + 1, 3, none⟩ = some (.slice B2 m2 d2) := X2.out.c 3 rfl
        have e8 : v1.cell? ⟨w.heap.size + 1 + 1, 0, none⟩ = some (.bool s3) := X3.out.c 0 rfl
        have e9 : v1.cell? ⟨w.heap.size + 1 + 1, 1, none⟩ = some (.slice A3 n3 c3) := X3.out.c 1 rfl
        have e10 : v1.cell? ⟨w.heap.size + 1 + 1, 2, none⟩ = some (.bool t3) := X3.out.c 2 rfl
        have e11 : v1.cell? ⟨w.heap.size + 1 + 1, 3, none⟩ = some (.slice B3 m3 d3) := X3.out.c 3 rfl
        go_wp2_with fail
        ((with_reducible refine (rvalid_any s2 t2 A2 B2 n2 c2 m2 d2 x2 y2 _ S2.out T2.out).mono ?_); rintro e v2 ⟨rfl, hb⟩)
        rw [HV2.out]
        clear e0 e1 e2 e3 e4 e5 e6 e7 e8 e9 e10 e11
        have S1 := Lib.hid (S1.out.below hb)
        have T1 := Lib.hid (T1.out.below hb)
        have S2 := Lib.hid (S2.out.below hb)
        have T2 := Lib.hid (T2.out.below hb)
        have S3 := Lib.hid (S3.out.below hb)
        have T3 := Lib.hid (T3.out.below hb)
        have TB := Lib.hid (tab_on TB.out hb)
        have BW := Lib.hid (below_on BW.out hb)
        have X1 := Lib.hid (X1.out.below hb)
        have X2 := Lib.hid (X2.out.below hb)
        have X3 := Lib.hid (X3.out.below hb)
        clear hb
        have e0 : v2.cell? ⟨w.heap.size, 0, none⟩ = some (.bool s1) := X1.out.c 0 rfl
        have e1 : v2.cell? ⟨w.heap.size, 1, none⟩ = some (.slice A1 n1 c1) := X1.out.c 1 rfl
        have e2 : v2.cell? ⟨w.heap.size, 2, none⟩ = some (.bool t1) := X1.out.c 2 rfl
        have e3 : v2.cell? ⟨w.heap.size, 3, none⟩ = some (.slice B1 m1 d1) := X1.out.c 3 rfl
        have e4 : v2.cell? ⟨w.heap.size + 1, 0, none⟩ = some (.bool s2) := X2.out.c 0 rfl
        have e5 : v2.cell? ⟨w.heap.size + 1, 1, none⟩ = some (.slice A2 n2 c2) := X2.out.c 1 rfl
        have e6 : v2.cell? ⟨w.heap.size + 1, 2, none⟩ = some (.bool t2) := X2.out.c 2 rfl
        have e7 : v2.cell? ⟨w.heap.size + 1, 3, none⟩ = some (.slice B2 m2 d2) := X2.out.c 3 rfl
        have e8 : v2.cell? ⟨w.heap.size + 1 + 1, 0, none⟩ = some (.bool s3) := X3.out.c 0 rfl
        have e9 : v2.cell? ⟨w.heap.size + 1 + 1, 1, none⟩ = some (.slice A3 n3 c3) := X3.out.c 1 rfl
        have e10 : v2.cell? ⟨w.heap.size + 1 + 1, 2, none⟩ = some (.bool t3) := X3.out.c 2 rfl
        have e11 : v2.cell? ⟨w.heap.size + 1 + 1, 3, none⟩ = some (.slice B3 m3 d3) := X3.out.c 3 rfl
        go_wp2_with fail
        ((with_reducible refine (awake3_any _ TB.out).mono ?_); rintro e w9 ⟨rfl, hb⟩)
        clear e0 e1 e2 e3 e4 e5 e6 e7 e8 e9 e10 e11
        have S1 := Lib.hid (S1.out.below hb)
        have T1 := Lib.hid (T1.out.below hb)
        have S2 := Lib.hid (S2.out.below hb)
        have T2 := Lib.hid (T2.out.below hb)
        have S3 := Lib.hid (S3.out.below hb)
        have T3 := Lib.hid (T3.out.below hb)
        have TB := Lib.hid (tab_on TB.out hb)
        have BW := Lib.hid (below_on BW.out hb)
        have X1 := Lib.hid (X1.out.below hb)
        have X2 := Lib.hid (X2.out.below hb)
        have X3 := Lib.hid (X3.out.below hb)
        clear hb
        go_wp2_with fail
        go_ret
        exact ⟨rfl, BW.out⟩
    · have HL := Lib.hid hl
      have HV1 := Lib.hid e1
      clear hl e1
      have BW := Lib.hid (Below.refl w.heap.size w)
      go_enter Tryd.func7, Tryd.ntmps7
      go_upto_region 1 with fail
      have S1 := Lib.hid (S1.out.alloc (.cells #[.bool s1, .slice A1 n1 c1, .bool t1, .slice B1 m1 d1] 37))
      have T1 := Lib.hid (T1.out.alloc (.cells #[.bool s1, .slice A1 n1 c1, .bool t1, .slice B1 m1 d1] 37))
      have S2 := Lib.hid (S2.out.alloc (.cells #[.bool s1, .slice A1 n1 c1, .bool t1, .slice B1 m1 d1] 37))
      have T2 := Lib.hid (T2.out.alloc (.cells #[.bool s1, .slice A1 n1 c1, .bool t1, .slice B1 m1 d1] 37))
      have S3 := Lib.hid (S3.out.alloc (.cells #[.bool s1, .slice A1 n1 c1, .bool t1, .slice B1 m1 d1] 37))
      have T3 := Lib.hid (T3.out.alloc (.cells #[.bool s1, .slice A1 n1 c1, .bool t1, .slice B1 m1 d1] 37))
      have TB := Lib.hid (tab_on TB.out ((Below.refl _ _).alloc (Nat.le_refl _) (.cells #[.bool s1, .slice A1 n1 c1, .bool t1, .slice B1 m1 d1] 37)))
      have BW := Lib.hid (BW.out.alloc BW.out.size (.cells #[.bool s1, .slice A1 n1 c1, .bool t1, .slice B1 m1 d1] 37))
      have X1 := Lib.hid (Bk.new 37 w #[.bool s1, .slice A1 n1 c1, .bool t1, .slice B1 m1 d1])
      have S1 := Lib.hid (S1.out.alloc (.cells #[.bool s2, .slice A2 n2 c2, .bool t2, .slice B2 m2 d2] 37))
      have T1 := Lib.hid (T1.out.alloc (.cells #[.bool s2, .slice A2 n2 c2, .bool t2, .slice B2 m2 d2] 37))
      have S2 := Lib.hid (S2.out.alloc (.cells #[.bool s2, .slice A2 n2 c2, .bool t2, .slice B2 m2 d2] 37))
      have T2 := Lib.hid (T2.out.alloc (.cells #[.bool s2, .slice A2 n2 c2, .bool t2, .slice B2 m2 d2] 37))
      have S3 := Lib.hid (S3.out.alloc (.cells #[.bool s2, .slice A2 n2 c2, .bool t2, .slice B2 m2 d2] 37))
      have T3 := Lib.hid (T3.out.alloc (.cells #[.bool s2, .slice A2 n2 c2, .bool t2, .slice B2 m2 d2] 37))
      have TB := Lib.hid (tab_on TB.out ((Below.refl _ _).alloc (Nat.le_refl _) (.cells #[.bool s2, .slice A2 n2 c2, .bool t2, .slice B2 m2 d2] 37)))
      have BW := Lib.hid (BW.out.alloc BW.out.size (.cells #[.bool s2, .slice A2 n2 c2, .bool t2, .slice B2 m2 d2] 37))
      have X1 := Lib.hid (X1.out.alloc (.cells #[.bool s2, .slice A2 n2 c2, .bool t2, .slice B2 m2 d2] 37))
      have X2 := Lib.hid (Bk.new 37 (w.alloc (.cells #[.bool s1, .slice A1 n1 c1, .bool t1, .slice B1 m1 d1] 37)) #[.bool s2, .slice A2 n2 c2, .bool t2, .slice B2 m2 d2])
      rw [alloc_sz] at X2
      have S1 := Lib.hid (S1.out.alloc (.cells #[.bool s3, .slice A3 n3 c3, .bool t3, .slice B3 m3 d3] 37))
      have T1 := Lib.hid (T1.out.alloc (.cells #[.bool s3, .slice A3 n3 c3, .bool t3, .slice B3 m3 d3] 37))
      have S2 := Lib.hid (S2.out.alloc (.cells #[.bool s3, .slice A3 n3 c3, .bool t3, .slice B3 m3 d3] 37))
      have T2 := Lib.hid (T2.out.alloc (.cells #[.bool s3, .slice A3 n3 c3, .bool t3, .slice B3 m3 d3] 37))
      have S3 := Lib.hid (S3.out.alloc (.cells #[.bool s3, .slice A3 n3 c3, .bool t3, .slice B3 m3 d3] 37))
      have T3 := Lib.hid (T3.out.alloc (.cells #[.bool s3, .slice A3 n3 c3, .bool t3, .slice B3 m3 d3] 37))
      have TB := Lib.hid (tab_on TB.out ((Below.refl _ _).alloc (Nat.le_refl _) (.cells #[.bool s3, .slice A3 n3 c3, .bool t3, .slice B3 m3 d3] 37)))
      have BW := Lib.hid (BW.out.alloc BW.out.size (.cells #[.bool s3, .slice A3 n3 c3, .bool t3, .slice B3 m3 d3] 37))
      have X1 := Lib.hid (X1.out.alloc (.cells #[.bool s3, .slice A3 n3 c3, .bool t3, .slice B3 m3 d3] 37))
      have X2 := Lib.hid (X2.out.alloc (.cells #[.bool s3, .slice A3 n3 c3, .bool t3, .slice B3 m3 d3] 37))
      have X3 := Lib.hid (Bk.new 37 ((w.alloc (.cells #[.bool s1, .slice A1 n1 c1, .bool t1, .slice B1 m1 d1] 37)).alloc (.cells #[.bool s2, .slice A2 n2 c2, .bool t2, .slice B2 m2 d2] 37)) #[.bool s3, .slice A3 n3 c3, .bool t3, .slice B3 m3 d3])
      rw [alloc_sz, alloc_sz] at X3
      generalize (((w.alloc (.cells #[.bool s1, .slice A1 n1 c1, .bool t1, .slice B1 m1 d1] 37)).alloc (.cells #[.bool s2, .slice A2 n2 c2, .bool t2, .slice B2 m2 d2] 37)).alloc (.cells #[.bool s3, .slice A3 n3 c3, .bool t3, .slice B3 m3 d3] 37)) = W0 at *
      have e0 : W0.cell? ⟨w.heap.size, 0, none⟩ = some (.bool s1) := X1.out.c 0 rfl
      have e1 : W0.cell? ⟨w.heap.size, 1, none⟩ = some (.slice A1 n1 c1) := X1.out.c 1 rfl
      have e2 : W0.cell? ⟨w.heap.size, 2, none⟩ = some (.bool t1) := X1.out.c 2 rfl
      have e3 : W0.cell? ⟨w.heap.size, 3, none⟩ = some (.slice B1 m1 d1) := X1.out.c 3 rfl
      have e4 : W0.cell? ⟨w.heap.size + 1, 0, none⟩ = some (.bool s2) := X2.out.c 0 rfl
      have e5 : W0.cell? ⟨w.heap.size + 1, 1, none⟩ = some (.slice A2 n2 c2) := X2.out.c 1 rfl
      have e6 : W0.cell? ⟨w.heap.size + 1, 2, none⟩ = some (.bool t2) := X2.out.c 2 rfl
      have e7 : W0.cell? ⟨w.heap.size + 1, 3, none⟩ = some (.slice B2 m2 d2) := X2.out.c 3 rfl
      have e8 : W0.cell? ⟨w.heap.size + 1 + 1, 0, none⟩ = some (.bool s3) := X3.out.c 0 rfl
      have e9 : W0.cell? ⟨w.heap.size + 1 + 1, 1, none⟩ = some (.slice A3 n3 c3) := X3.out.c 1 rfl
      have e10 : W0.cell? ⟨w.heap.size + 1 + 1, 2, none⟩ = some (.bool t3) := X3.out.c 2 rfl
      have e11 : W0.cell? ⟨w.heap.size + 1 + 1, 3, none⟩ = some (.slice B3 m3 d3) := X3.out.c 3 rfl
      go_wp2_with fail
      clear e0 e1 e2 e3 e4 e5 e6 e7 e8 e9 e10 e11
      have ln1 := X1.out.lt
      have ln2 := X2.out.lt
      have ln3 := X3.out.lt
      have S1 := Lib.hid (S1.out.alloc (.cells #[.bool s1, .slice A1 n1 c1, .bool t1, .slice B1 m1 d1, .bool s2, .slice A2 n2 c2, .bool t2, .slice B2 m2 d2, .bool s3, .slice A3 n3 c3, .bool t3, .slice B3 m3 d3] 37))
      have T1 := Lib.hid (T1.out.alloc (.cells #[.bool s1, .slice A1 n1 c1, .bool t1, .slice B1 m1 d1, .bool s2, .slice A2 n2 c2, .bool t2, .slice B2 m2 d2, .bool s3, .slice A3 n3 c3, .bool t3, .slice B3 m3 d3] 37))
      have S2 := Lib.hid (S2.out.alloc (.cells #[.bool s1, .slice A1 n1 c1, .bool t1, .slice B1 m1 d1, .bool s2, .slice A2 n2 c2, .bool t2, .slice B2 m2 d2, .bool s3, .slice A3 n3 c3, .bool t3, .slice B3 m3 d3] 37))
      have T2 := Lib.hid (T2.out.alloc (.cells #[.bool s1, .slice A1 n1 c1, .bool t1, .slice B1 m1 d1, .bool s2, .slice A2 n2 c2, .bool t2, .slice B2 m2 d2, .bool s3, .slice A3 n3 c3, .bool t3, .slice B3 m3 d3] 37))
      have S3 := Lib.hid (S3.out.alloc (.cells #[.bool s1, .slice A1 n1 c1, .bool t1, .slice B1 m1 d1, .bool s2, .slice A2 n2 c2, .bool t2, .slice B2 m2 d2, .bool s3, .slice A3 n3 c3, .bool t3, .slice B3 m3 d3] 37))
      have T3 := Lib.hid (T3.out.alloc (.cells #[.bool s1, .slice A1 n1 c1, .bool t1, .slice B1 m1 d1, .bool s2, .slice A2 n2 c2, .bool t2, .slice B2 m2 d2, .bool s3, .slice A3 n3 c3, .bool t3, .slice B3 m3 d3] 37))
      have TB := Lib.hid (tab_on TB.out ((Below.refl _ _).alloc (Nat.le_refl _) (.cells #[.bool s1, .slice A1 n1 c1, .bool t1, .slice B1 m1 d1, .bool s2, .slice A2 n2 c2, .bool t2, .slice B2 m2 d2, .bool s3, .slice A3 n3 c3, .bool t3, .slice B3 m3 d3] 37)))
      have BW := Lib.hid (BW.out.alloc BW.out.size (.cells #[.bool s1, .slice A1 n1 c1, .bool t1, .slice B1 m1 d1, .bool s2, .slice A2 n2 c2, .bool t2, .slice B2 m2 d2, .bool s3, .slice A3 n3 c3, .bool t3, .slice B3 m3 d3] 37))
      have X1 := Lib.hid (X1.out.alloc (.cells #[.bool s1, .slice A1 n1 c1, .bool t1, .slice B1 m1 d1, .bool s2, .slice A2 n2 c2, .bool t2, .slice B2 m2 d2, .bool s3, .slice A3 n3 c3, .bool t3, .slice B3 m3 d3] 37))
      have X2 := Lib.hid (X2.out.alloc (.cells #[.bool s1, .slice A1 n1 c1, .bool t1, .slice B1 m1 d1, .bool s2, .slice A2 n2 c2, .bool t2, .slice B2 m2 d2, .bool s3, .slice A3 n3 c3, .bool t3, .slice B3 m3 d3] 37))
      have X3 := Lib.hid (X3.out.alloc (.cells #[.bool s1, .slice A1 n1 c1, .bool t1, .slice B1 m1 d1, .bool s2, .slice A2 n2 c2, .bool t2, .slice B2 m2 d2, .bool s3, .slice A3 n3 c3, .bool t3, .slice B3 m3 d3] 37))
      have XL := Lib.hid (Bk.new 37 W0 #[.bool s1, .slice A1 n1 c1, .bool t1, .slice B1 m1 d1, .bool s2, .slice A2 n2 c2, .bool t2, .slice B2 m2 d2, .bool s3, .slice A3 n3 c3, .bool t3, .slice B3 m3 d3])
      generalize (W0.alloc (.cells #[.bool s1, .slice A1 n1 c1, .bool t1, .slice B1 m1 d1, .bool s2, .slice A2 n2 c2, .bool t2, .slice B2 m2 d2, .bool s3, .slice A3 n3 c3, .bool t3, .slice B3 m3 d3] 37)) = WL at *
      have e0 : WL.cell? ⟨w.heap.size, 0, none⟩ = some (.bool s1) := X1.out.c 0 rfl
      have e1 : WL.cell? ⟨w.heap.size, 1, none⟩ = some (.slice A1 n1 c1) := X1.out.c 1 rfl
      have e2 : WL.cell? ⟨w.heap.size, 2, none⟩ = some (.bool t1) := X1.out.c 2 rfl
      have e3 : WL.cell? ⟨w.heap.size, 3, none⟩ = some (.slice B1 m1 d1) := X1.out.c 3 rfl
      have e4 : WL.cell? ⟨w.heap.size + 1, 0, none⟩ = some (.bool s2) := X2.out.c 0 rfl
      have e5 : WL.cell? ⟨w.heap.size + 1, 1, none⟩ = some (.slice A2 n2 c2) := X2.out.c 1 rfl
      have e6 : WL.cell? ⟨w.heap.size + 1, 2, none⟩ = some (.bool t2) := X2.out.c 2 rfl
      have e7 : WL.cell? ⟨w.heap.size + 1, 3, none⟩ = some (.slice B2 m2 d2) := X2.out.c 3 rfl
      have e8 : WL.cell? ⟨w.heap.size + 1 + 1, 0, none⟩ = some (.bool s3) := X3.out.c 0 rfl
      have e9 : WL.cell? ⟨w.heap.size + 1 + 1, 1, none⟩ = some (.slice A3 n3 c3) := X3.out.c 1 rfl
      have e10 : WL.cell? ⟨w.heap.size + 1 + 1, 2, none⟩ = some (.bool t3) := X3.out.c 2 rfl
      have e11 : WL.cell? ⟨w.heap.size + 1 + 1, 3, none⟩ = some (.slice B3 m3 d3) := X3.out.c 3 rfl
      ((with_reducible refine (light3_any W0.heap.size s1 t1 A1 B1 n1 c1 m1 d1 s2 t2 A2 B2 n2 c2 m2 d2 s3 t3 A3 B3 n3 c3 m3 d3 _ XL.out).mono ?_); rintro e w1 ⟨rfl, hb⟩)
      rw [HL.out]
      clear e0 e1 e2 e3 e4 e5 e6 e7 e8 e9 e10 e11
      have S1 := Lib.hid (S1.out.below hb)
      have T1 := Lib.hid (T1.out.below hb)
      have S2 := Lib.hid (S2.out.below hb)
      have T2 := Lib.hid (T2.out.below hb)
      have S3 := Lib.hid (S3.out.below hb)
      have T3 := Lib.hid (T3.out.below hb)
      have TB := Lib.hid (tab_on TB.out hb)
      have BW := Lib.hid (below_on BW.out hb)
      have X1 := Lib.hid (X1.out.below hb)
      have X2 := Lib.hid (X2.out.below hb)
      have X3 := Lib.hid (X3.out.below hb)
      have XL := Lib.hid (XL.out.below hb)
      clear hb
      clear XL
      have e0 : w1.cell? ⟨w.heap.size, 0, none⟩ = some (.bool s1) := X1.out.c 0 rfl
      have e1 : w1.cell? ⟨w.heap.size, 1, none⟩ = some (.slice A1 n1 c1) := X1.out.c 1 rfl
      have e2 : w1.cell? ⟨w.heap.size, 2, none⟩ = some (.bool t1) := X1.out.c 2 rfl
      have e3 : w1.cell? ⟨w.heap.size, 3, none⟩ = some (.slice B1 m1 d1) := X1.out.c 3 rfl
      have e4 : w1.cell? ⟨w.heap.size + 1, 0, none⟩ = some (.bool s2) := X2.out.c 0 rfl
      have e5 : w1.cell? ⟨w.heap.size + 1, 1, none⟩ = some (.slice A2 n2 c2) := X2.out.c 1 rfl
      have e6 : w1.cell? ⟨w.heap.size + 1, 2, none⟩ = some (.bool t2) := X2.out.c 2 rfl
      have e7 : w1.cell? ⟨w.heap.size + 1, 3, none⟩ = some (.slice B2 m2 d2) := X2.out.c 3 rfl
      have e8 : w1.cell? ⟨w.heap.size + 1 + 1, 0, none⟩ = some (.bool s3) := X3.out.c 0 rfl
      have e9 : w1.cell? ⟨w.heap.size + 1 + 1, 1, none⟩ = some (.slice A3 n3 c3) := X3.out.c 1 rfl
      have e10 : w1.cell? ⟨w.heap.size + 1 + 1, 2, none⟩ = some (.bool t3) := X3.out.c 2 rfl
      have e11 : w1.cell? ⟨w.heap.size + 1 + 1, 3, none⟩ = some (.slice B3 m3 d3) := X3.out.c 3 rfl
      go_wp2_with fail
      ((with_reducible refine (rvalid_any s1 t1 A1 B1 n1 c1 m1 d1 x1 y1 _ S1.out T1.out).mono ?_); rintro e v1 ⟨rfl, hb⟩)
      rw [HV1.out]
      clear e0 e1 e2 e3 e4 e5 e6 e7 e8 e9 e10 e11
      have S1 := Lib.hid (S1.out.below hb)
      have T1 := Lib.hid (T1.out.below hb)
      have S2 := Lib.hid (S2.out.below hb)
      have T2 := Lib.hid (T2.out.below hb)
      have S3 := Lib.hid (S3.out.below hb)
      have T3 := Lib.hid (T3.out.below hb)
      have TB := Lib.hid (tab_on TB.out hb)
      have BW := Lib.hid (below_on BW.out hb)
      have X1 := Lib.hid (X1.out.below hb)
      have X2 := Lib.hid (X2.out.below hb)
      have X3 := Lib.hid (X3.out.below hb)
      clear hb
      have e0 : v1.cell? ⟨w.heap.size, 0, none⟩ = some (.bool s1) := X1.out.c 0 rfl
      have e1 : v1.cell? ⟨w.heap.size, 1, none⟩ = some (.slice A1 n1 c1) := X1.out.c 1 rfl
      have e2 : v1.cell? ⟨w.heap.size, 2, none⟩ = some (.bool t1) := X1.out.c 2 rfl
      have e3 : v1.cell? ⟨w.heap.size, 3, none⟩ = some (.slice B1 m1 d1) := X1.out.c 3 rfl
      have e4 : v1.cell? ⟨w.heap.size + 1, 0, none⟩ = some (.bool s2) := X2.out.c 0 rfl
      have e5 : v1.cell? ⟨w.heap.size + 1, 1, none⟩ = some (.slice A2 n2 c2) := X2.out.c 1 rfl
      have e6 : v1.cell? ⟨w.heap.size + 1, 2, none⟩ = some (.bool t2) := X2.out.c 2 rfl
      have e7 : v1.cell? ⟨w.heap.size + 1, 3, none⟩ = some (.slice B2 m2 d2) := X2.out.c 3 rfl
      have e8 : v1.cell? ⟨w.heap.size + 1 + 1, 0, none⟩ = some (.bool s3) := X3.out.c 0 rfl
      have e9 : v1.cell? ⟨w.heap.size + 1 + 1, 1, none⟩ = some (.slice A3 n3 c3) := X3.out.c 1 rfl
      have e10 : v1.cell? ⟨w.heap.size + 1 + 1, 2, none⟩ = some (.bool t3) := X3.out.c 2 rfl
      have e11 : v1.cell? ⟨w.heap.size + 1 + 1, 3, none⟩ = some (.slice B3 m3 d3) := X3.out.c 3 rfl
      go_wp2_with fail
      ((with_reducible refine (awake3_any _ TB.out).mono ?_); rintro e w9 ⟨rfl, hb⟩)
      clear e0 e1 e2 e3 e4 e5 e6 e7 e8 e9 e10 e11
      have S1 := Lib.hid (S1.out.below hb)
      have T1 := Lib.hid (T1.out.below hb)
      have S2 := Lib.hid (S2.out.below hb)
      have T2 := Lib.hid (T2.out.below hb)
      have S3 := Lib.hid (S3.out.below hb)
      have T3 := Lib.hid (T3.out.below hb)
      have TB := Lib.hid (tab_on TB.out hb)
      have BW := Lib.hid (below_on BW.out hb)
      have X1 := Lib.hid (X1.out.below hb)
      have X2 := Lib.hid (X2.out.below hb)
      have X3 := Lib.hid (X3.out.below hb)
      clear hb
      go_wp2_with fail
      go_ret
      exact ⟨rfl, BW.out⟩
  · have HL := Lib.hid hl
    clear hl
    have BW := Lib.hid (Below.refl w.heap.size w)
    go_enter Tryd.func7, Tryd.ntmps7
    go_upto_region 1 with fail
    have S1 := Lib.hid (S1.out.alloc (.cells #[.bool s1, .slice A1 n1 c1, .bool t1, .slice B1 m1 d1] 37))
    have T1 := Lib.hid (T1.out.alloc (.cells #[.bool s1, .slice A1 n1 c1, .bool t1, .slice B1 m1 d1] 37))
    have S2 := Lib.hid (S2.out.alloc (.cells #[.bool s1, .slice A1 n1 c1, .bool t1, .slice B1 m1 d1] 37))
    have T2 := Lib.hid (T2.out.alloc (.cells #[.bool s1, .slice A1 n1 c1, .bool t1, .slice B1 m1 d1] 37))
    have S3 := Lib.hid (S3.out.alloc (.cells #[.bool s1, .slice A1 n1 c1, .bool t1, .slice B1 m1 d1] 37))
    have T3 := Lib.hid (T3.out.alloc (.cells #[.bool s1, .slice A1 n1 c1, .bool t1, .slice B1 m1 d1] 37))
    have TB := Lib.hid (tab_on TB.out ((Below.refl _ _).alloc (Nat.le_refl _) (.cells #[.bool s1, .slice A1 n1 c1, .bool t1, .slice B1 m1 d1] 37)))
    have BW := Lib.hid (BW.out.alloc BW.out.size (.cells #[.bool s1, .slice A1 n1 c1, .bool t1, .slice B1 m1 d1] 37))
    have X1 := Lib.hid (Bk.new 37 w #[.bool s1, .slice A1 n1 c1, .bool t1, .slice B1 m1 d1])
    have S1 := Lib.hid (S1.out.alloc (.cells #[.bool s2, .slice A2 n2 c2, .bool t2, .slice B2 m2 d2] 37))
    have T1 := Lib.hid (T1.out.alloc (.cells #[.bool s2, .slice A2 n2 c2, .bool t2, .slice B2 m2 d2] 37))
    have S2 := Lib.hid (S2.out.alloc (.cells #[.bool s2, .slice A2 n2 c2, .bool t2, .slice B2 m2 d2] 37))
    have T2 := Lib.hid (T2.out.alloc (.cells #[.bool s2, .slice A2 n2 c2, .bool t2, .slice B2 m2 d2] 37))
    have S3 := Lib.hid (S3.out.alloc (.cells #[.bool s2, .slice A2 n2 c2, .bool t2, .slice B2 m2 d2] 37))
    have T3 := Lib.hid (T3.out.alloc (.cells #[.bool s2, .slice A2 n2 c2, .bool t2, .slice B2 m2 d2] 37))
    have TB := Lib.hid (tab_on TB.out ((Below.refl _ _).alloc (Nat.le_refl _) (.cells #[.bool s2, .slice A2 n2 c2, .bool t2, .slice B2 m2 d2] 37)))
    have BW := Lib.hid (BW.out.alloc BW.out.size (.cells #[.bool s2, .slice A2 n2 c2, .bool t2, .slice B2 m2 d2] 37))
    have X1 := Lib.hid (X1.out.alloc (.cells #[.bool s2, .slice A2 n2 c2, .bool t2, .slice B2 m2 d2] 37))
    have X2 := Lib.hid (Bk.new 37 (w.alloc (.cells #[.bool s1, .slice A1 n1 c1, .bool t1, .slice B1 m1 d1] 37)) #[.bool s2, .slice A2 n2 c2, .bool t2, .slice B2 m2 d2])
    rw [alloc_sz] at X2
    have S1 := Lib.hid (S1.out.alloc (.cells #[.bool s3, .slice A3 n3 c3, .bool t3, .slice B3 m3 d3] 37))
    have T1 := Lib.hid (T1.out.alloc (.cells #[.bool s3, .slice A3 n3 c3, .bool t3, .slice B3 m3 d3] 37))
    have S2 := Lib.hid (S2.out.alloc (.cells #[.bool s3, .slice A3 n3 c3, .bool t3, .slice B3 m3 d3] 37))
    have T2 := Lib.hid (T2.out.alloc (.cells #[.bool s3, .slice A3 n3 c3, .bool t3, .slice B3 m3 d3] 37))
    have S3 := Lib.hid (S3.out.alloc (.cells #[.bool s3, .slice A3 n3 c3, .bool t3, .slice B3 m3 d3] 37))
    have T3 := Lib.hid (T3.out.alloc (.cells #[.bool s3, .slice A3 n3 c3, .bool t3, .slice B3 m3 d3] 37))
    have TB := Lib.hid (tab_on TB.out ((Below.refl _ _).alloc (Nat.le_refl _) (.cells #[.bool s3, .slice A3 n3 c3, .bool t3, .slice B3 m3 d3] 37)))
    have BW := Lib.hid (BW.out.alloc BW.out.size (.cells #[.bool s3, .slice A3 n3 c3, .bool t3, .slice B3 m3 d3] 37))
    have X1 := Lib.hid (X1.out.alloc (.cells #[.bool s3, .slice A3 n3 c3, .bool t3, .slice B3 m3 d3] 37))
    have X2 := Lib.hid (X2.out.alloc (.cells #[.bool s3, .slice A3 n3 c3, .bool t3, .slice B3 m3 d3] 37))
    have X3 := Lib.hid (Bk.new 37 ((w.alloc (.cells #[.bool s1, .slice A1 n1 c1, .bool t1, .slice B1 m1 d1] 37)).alloc (.cells #[.bool s2, .slice A2 n2 c2, .bool t2, .slice B2 m2 d2] 37)) #[.bool s3, .slice A3 n3 c3, .bool t3, .slice B3 m3 d3])
    rw [alloc_sz, alloc_sz] at X3
    generalize (((w.alloc (.cells #[.bool s1, .slice A1 n1 c1, .bool t1, .slice B1 m1 d1] 37)).alloc (.cells #[.bool s2, .slice A2 n2 c2, .bool t2, .slice B2 m2 d2] 37)).alloc (.cells #[.bool s3, .slice A3 n3 c3, .bool t3, .slice B3 m3 d3] 37)) = W0 at *
    have e0 : W0.cell? ⟨w.heap.size, 0, none⟩ = some (.bool s1) := X1.out.c 0 rfl
    have e1 : W0.cell? ⟨w.heap.size, 1, none⟩ = some (.slice A1 n1 c1) := X1.out.c 1 rfl
    have e2 : W0.cell? ⟨w.heap.size, 2, none⟩ = some (.bool t1) := X1.out.c 2 rfl
    have e3 : W0.cell? ⟨w.heap.size, 3, none⟩ = some (.slice B1 m1 d1) := X1.out.c 3 rfl
    have e4 : W0.cell? ⟨w.heap.size + 1, 0, none⟩ = some (.bool s2) := X2.out.c 0 rfl
    have e5 : W0.cell? ⟨w.heap.size + 1, 1, none⟩ = some (.slice A2 n2 c2) := X2.out.c 1 rfl
    have e6 : W0.cell? ⟨w.heap.size + 1, 2, none⟩ = some (.bool t2) := X2.out.c 2 rfl
    have e7 : W0.cell? ⟨w.heap.size + 1, 3, none⟩ = some (.slice B2 m2 d2) := X2.out.c 3 rfl
    have e8 : W0.cell? ⟨w.heap.size + 1 + 1, 0, none⟩ = some (.bool s3) := X3.out.c 0 rfl
    have e9 : W0.cell? ⟨w.heap.size + 1 + 1, 1, none⟩ = some (.slice A3 n3 c3) := X3.out.c 1 rfl
    have e10 : W0.cell? ⟨w.heap.size + 1 + 1, 2, none⟩ = some (.bool t3) := X3.out.c 2 rfl
    have e11 : W0.cell? ⟨w.heap.size + 1 + 1, 3, none⟩ = some (.slice B3 m3 d3) := X3.out.c 3 rfl
    go_wp2_with fail
    clear e0 e1 e2 e3 e4 e5 e6 e7 e8 e9 e10 e11
    have ln1 := X1.out.lt
    have ln2 := X2.out.lt
    have ln3 := X3.out.lt
    have S1 := Lib.hid (S1.out.alloc (.cells #[.bool s1, .slice A1 n1 c1, .bool t1, .slice B1 m1 d1, .bool s2, .slice A2 n2 c2, .bool t2, .slice B2 m2 d2, .bool s3, .slice A3 n3 c3, .bool t3, .slice B3 m3 d3] 37))
    have T1 := Lib.hid (T1.out.alloc (.cells #[.bool s1, .slice A1 n1 c1, .bool t1, .slice B1 m1 d1, .bool s2, .slice A2 n2 c2, .bool t2, .slice B2 m2 d2, .bool s3, .slice A3 n3 c3, .bool t3, .slice B3 m3 d3] 37))
    have S2 := Lib.hid (S2.out.alloc (.cells #[.bool s1, .slice A1 n1 c1, .bool t1, .slice B1 m1 d1, .bool s2, .slice A2 n2 c2, .bool t2, .slice B2 m2 d2, .bool s3, .slice A3 n3 c3, .bool t3, .slice B3 m3 d3] 37))
    have T2 := Lib.hid (T2.out.alloc (.cells #[.bool s1, .slice A1 n1 c1, .bool t1, .slice B1 m1 d1, .bool s2, .slice A2 n2 c2, .bool t2, .slice B2 m2 d2, .bool s3, .slice A3 n3 c3, .bool t3, .slice B3 m3 d3] 37))
    have S3 := Lib.hid (S3.out.alloc (.cells #[.bool s1, .slice A1 n1 c1, .bool t1, .slice B1 m1 d1, .bool s2, .slice A2 n2 c2, .bool t2, .slice B2 m2 d2, .bool s3, .slice A3 n3 c3, .bool t3, .slice B3 m3 d3] 37))
    have T3 := Lib.hid (T3.out.alloc (.cells #[.bool s1, .slice A1 n1 c1, .bool t1, .slice B1 m1 d1, .bool s2, .slice A2 n2 c2, .bool t2, .slice B2 m2 d2, .bool s3, .slice A3 n3 c3, .bool t3, .slice B3 m3 d3] 37))
    have TB := Lib.hid (tab_on TB.out ((Below.refl _ _).alloc (Nat.le_refl _) (.cells #[.bool s1, .slice A1 n1 c1, .bool t1, .slice B1 m1 d1, .bool s2, .slice A2 n2 c2, .bool t2, .slice B2 m2 d2, .bool s3, .slice A3 n3 c3, .bool t3, .slice B3 m3 d3] 37)))
    have BW := Lib.hid (BW.out.alloc BW.out.size (.cells #[.bool s1, .slice A1 n1 c1, .bool t1, .slice B1 m1 d1, .bool s2, .slice A2 n2 c2, .bool t2, .slice B2 m2 d2, .bool s3, .slice A3 n3 c3, .bool t3, .slice B3 m3 d3] 37))
    have X1 := Lib.hid (X1.out.alloc (.cells #[.bool s1, .slice A1 n1 c1, .bool t1, .slice B1 m1 d1, .bool s2, .slice A2 n2 c2, .bool t2, .slice B2 m2 d2, .bool s3, .slice A3 n3 c3, .bool t3, .slice B3 m3 d3] 37))
    have X2 := Lib.hid (X2.out.alloc (.cells #[.bool s1, .slice A1 n1 c1, .bool t1, .slice B1 m1 d1, .bool s2, .slice A2 n2 c2, .bool t2, .slice B2 m2 d2, .bool s3, .slice A3 n3 c3, .bool t3, .slice B3 m3 d3] 37))
    have X3 := Lib.hid (X3.out.alloc (.cells #[.bool s1, .slice A1 n1 c1, .bool t1, .slice B1 m1 d1, .bool s2, .slice A2 n2 c2, .bool t2, .slice B2 m2 d2, .bool s3, .slice A3 n3 c3, .bool t3, .slice B3 m3 d3] 37))
    have XL := Lib.hid (Bk.new 37 W0 #[.bool s1, .slice A1 n1 c1, .bool t1, .slice B1 m1 d1, .bool s2, .slice A2 n2 c2, .bool t2, .slice B2 m2 d2, .bool s3, .slice A3 n3 c3, .bool t3, .slice B3 m3 d3])
    generalize (W0.alloc (.cells #[.bool s1, .slice A1 n1 c1, .bool t1, .slice B1 m1 d1, .bool s2, .slice A2 n2 c2, .bool t2, .slice B2 m2 d2, .bool s3, .slice A3 n3 c3, .bool t3, .slice B3 m3 d3] 37)) = WL at *
    have e0 : WL.cell? ⟨w.heap.size, 0, none⟩ = some (.bool s1) := X1.out.c 0 rfl
    have e1 : WL.cell? ⟨w.heap.size, 1, none⟩ = some (.slice A1 n1 c1) := X1.out.c 1 rfl
    have e2 : WL.cell? ⟨w.heap.size, 2, none⟩ = some (.bool t1) := X1.out.c 2 rfl
    have e3 : WL.cell? ⟨w.heap.size, 3, none⟩ = some (.slice B1 m1 d1) := X1.out.c 3 rfl
    have e4 : WL.cell? ⟨w.heap.size + 1, 0, none⟩ = some (.bool s2) := X2.out.c 0 rfl
    have e5 : WL.cell? ⟨w.heap.size + 1, 1, none⟩ = some (.slice A2 n2 c2) := X2.out.c 1 rfl
    have e6 : WL.cell? ⟨w.heap.size + 1, 2, none⟩ = some (.bool t2) := X2.out.c 2 rfl
    have e7 : WL.cell? ⟨w.heap.size + 1, 3, none⟩ = some (.slice B2 m2 d2) := X2.out.c 3 rfl
    have e8 : WL.cell? ⟨w.heap.size + 1 + 1, 0, none⟩ = some (.bool s3) := X3.out.c 0 rfl
    have e9 : WL.cell? ⟨w.heap.size + 1 + 1, 1, none⟩ = some (.slice A3 n3 c3) := X3.out.c 1 rfl
    have e10 : WL.cell? ⟨w.heap.size + 1 + 1, 2, none⟩ = some (.bool t3) := X3.out.c 2 rfl
    have e11 : WL.cell? ⟨w.heap.size + 1 + 1, 3, none⟩ = some (.slice B3 m3 d3) := X3.out.c 3 rfl
    ((with_reducible refine (light3_any W0.heap.size s1 t1 A1 B1 n1 c1 m1 d1 s2 t2 A2 B2 n2 c2 m2 d2 s3 t3 A3 B3 n3 c3 m3 d3 _ XL.out).mono ?_); rintro e w1 ⟨rfl, hb⟩)
    rw [HL.out]
    clear e0 e1 e2 e3 e4 e5 e6 e7 e8 e9 e10 e11
    have S1 := Lib.hid (S1.out.below hb)
    have T1 := Lib.hid (T1.out.below hb)
    have S2 := Lib.hid (S2.out.below hb)
    have T2 := Lib.hid (T2.out.below hb)
    have S3 := Lib.hid (S3.out.below hb)
    have T3 := Lib.hid (T3.out.below hb)
    have TB := Lib.hid (tab_on TB.out hb)
    have BW := Lib.hid (below_on BW.out hb)
    have X1 := Lib.hid (X1.out.below hb)
    have X2 := Lib.hid (X2.out.below hb)
    have X3 := Lib.hid (X3.out.below hb)
    have XL := Lib.hid (XL.out.below hb)
    clear hb
    clear XL
    have e0 : w1.cell? ⟨w.heap.size, 0, none⟩ = some (.bool s1) := X1.out.c 0 rfl
    have e1 : w1.cell? ⟨w.heap.size, 1, none⟩ = some (.slice A1 n1 c1) := X1.out.c 1 rfl
    have e2 : w1.cell? ⟨w.heap.size, 2, none⟩ = some (.bool t1) := X1.out.c 2 rfl
    have e3 : w1.cell? ⟨w.heap.size, 3, none⟩ = some (.slice B1 m1 d1) := X1.out.c 3 rfl
    have e4 : w1.cell? ⟨w.heap.size + 1, 0, none⟩ = some (.bool s2) := X2.out.c 0 rfl
    have e5 : w1.cell? ⟨w.heap.size + 1, 1, none⟩ = some (.slice A2 n2 c2) := X2.out.c 1 rfl
    have e6 : w1.cell? ⟨w.heap.size + 1, 2, none⟩ = some (.bool t2) := X2.out.c 2 rfl
    have e7 : w1.cell? ⟨w.heap.size + 1, 3, none⟩ = some (.slice B2 m2 d2) := X2.out.c 3 rfl
    have e8 : w1.cell? ⟨w.heap.size + 1 + 1, 0, none⟩ = some (.bool s3) := X3.out.c 0 rfl
    have e9 : w1.cell? ⟨w.heap.size + 1 + 1, 1, none⟩ = some (.slice A3 n3 c3) := X3.out.c 1 rfl
    have e10 : w1.cell? ⟨w.heap.size + 1 + 1, 2, none⟩ = some (.bool t3) := X3.out.c 2 rfl
    have e11 : w1.cell? ⟨w.heap.size + 1 + 1, 3, none⟩ = some (.slice B3 m3 d3) := X3.out.c 3 rfl
    go_wp2_with fail
    ((with_reducible refine (awake3_any _ TB.out).mono ?_); rintro e w9 ⟨rfl, hb⟩)
    clear e0 e1 e2 e3 e4 e5 e6 e7 e8 e9 e10 e11
    have S1 := Lib.hid (S1.out.below hb)
    have T1 := Lib.hid (T1.out.below hb)
    have S2 := Lib.hid (S2.out.below hb)
    have T2 := Lib.hid (T2.out.below hb)
    have S3 := Lib.hid (S3.out.below hb)
    have T3 := Lib.hid (T3.out.below hb)
    have TB := Lib.hid (tab_on TB.out hb)
    have BW := Lib.hid (below_on BW.out hb)
    have X1 := Lib.hid (X1.out.below hb)
    have X2 := Lib.hid (X2.out.below hb)
    have X3 := Lib.hid (X3.out.below hb)
    clear hb
    go_wp2_with fail
    go_ret
    exact ⟨rfl, BW.out⟩

set_option maxRecDepth 100000 in
theorem contract (H : Type) (enc : TypeId × Value → H) (W : World) (base : Nat) (args : Array Value) (ds gs : List (DataW H)) (before : List MemPlace)
    (hval : ∀ (j : Nat) t v, Tryd.f7.params[j]? = some t → args[j]? = some v → Value.okWide Tryd.prog W .any base t v)
    (hW : DataW.Whole enc Tryd.prog Tryd.f7.params.toList Rows.ratFieldSpec.vars false W args.toList ds gs before) (hL : laidMetH Tryd.prog Rows.ratFieldRow.laid W) :
    Calls Tryd.prog 7 args W fun e W' => ∃ v, e = .returned v ∧ Rows.ratFieldSpec.post enc Tryd.prog Tryd.f7 false true false false W args v W' := by
  have hW' := hW
  obtain ⟨p, q, hA0, hV, rfl, hfz, hnd⟩ := hW
  have hA : DataW.TrodAll enc Tryd.prog W 0 (fun _ => true) true Tryd.f7.params.toList args.toList ds p := hA0
  have hlt : ∀ x ∈ p, x.block < W.heap.size := fun x hx => hW'.lt x (by simp [hx])
  have hAll := hA
  rw [Tryd.params7] at hA hval
  obtain ⟨v0, vs0, d0, ds0, p0, q0, hargs, rfl, rfl, h0, r0⟩ := trodAll_cons hA
  obtain ⟨v1, vs1, d1, ds1, p1, q1, rfl, rfl, rfl, h1, r1⟩ := trodAll_cons r0
  obtain ⟨v2, vs2, d2, ds2, p2, q2, rfl, rfl, rfl, h2, r2⟩ := trodAll_cons r1
  obtain ⟨rfl, rfl, rfl⟩ := trodAll_nil r2
  obtain rfl : args = #[v0, v1, v2] := by cases args; simp_all
  obtain ⟨rfl, rfl⟩ := trodVars_none hV
  obtain ⟨s1, A1, n1, c1, x1, t1, B1, m1, d1', y1, rfl, g1, k1⟩ := open_rat (hval 0 37 v0 rfl rfl) h0
  obtain ⟨s2, A2, n2, c2, x2, t2, B2, m2, d2', y2, rfl, g2, k2⟩ := open_rat (hval 1 37 v1 rfl rfl) h1
  obtain ⟨s3, A3, n3, c3, x3, t3, B3, m3, d3', y3, rfl, g3, k3⟩ := open_rat (hval 2 37 v2 rfl rfl) h2
  refine (walk s1 t1 A1 B1 n1 c1 m1 d1' x1 y1 s2 t2 A2 B2 n2 c2 m2 d2' x2 y2 s3 t3 A3 B3 n3 c3 m3 d3' x3 y3 W g1 k1 g2 k2 g3 k3 (tab_of_laid hL)).mono fun e W' ⟨he, hg⟩ => ?_
  subst he
  refine ⟨_, rfl, _, _, _, [], _, [], hW', trodAll_mk1 (shut_bool Tryd.underlying4 _), trodAll_below hg (fun t ht => ?_) hAll hlt, rfl, hg.frame _, fun h => by cases h⟩
  rw [Tryd.params7] at ht
  simp only [List.mem_cons, List.not_mem_nil, or_false] at ht
  rcases ht with rfl | rfl | rfl
  · exact read_rat
  · exact read_rat
  · exact read_rat

set_option maxRecDepth 100000 in
theorem reads (os : Os) {H : Type} (enc : TypeId × Value → H) : ∃ places, DataW.whole enc Tryd.prog ((World.doorLaid Tryd.prog 24 os).forCall (fun _ _ => 0) ⟨#[], #[Value.agg #[.bool false, .slice none 0 0, .bool false, .slice none 0 0], Value.agg #[.bool false, .slice none 0 0, .bool false, .slice none 0 0], Value.agg #[.bool false, .slice none 0 0, .bool false, .slice none 0 0]], []⟩).memory Tryd.f7.params.toList Rows.ratFieldSpec.vars false #[Value.agg #[.bool false, .slice none 0 0, .bool false, .slice none 0 0], Value.agg #[.bool false, .slice none 0 0, .bool false, .slice none 0 0], Value.agg #[.bool false, .slice none 0 0, .bool false, .slice none 0 0]].toList 8 = some ([.agg [.agg [.lit (.bool false), .nil], .agg [.lit (.bool false), .nil]], .agg [.agg [.lit (.bool false), .nil], .agg [.lit (.bool false), .nil]], .agg [.agg [.lit (.bool false), .nil], .agg [.lit (.bool false), .nil]]], [], places) :=
  ⟨[], by kernel_rfl⟩

set_option maxRecDepth 100000 in
theorem lifted (os : Os) (started : os.Started) (H : Type) (enc : TypeId × Value → H) (F : Stop.Interp) :
    ReturnsInHanded {} Tryd.checked os 7 .any ((OpenSpec.ofChange Rows.ratFieldSpec).preRow enc Tryd.prog Tryd.f7 Rows.ratFieldRow.domain false Rows.ratFieldRow.laid) (((OpenSpec.ofChange Rows.ratFieldSpec).at F).post enc Tryd.prog Tryd.f7 false true false false) := by
  obtain ⟨places, hx⟩ := reads os enc
  refine returnsInHanded_of_row (C := Tryd.checked) (s := OpenSpec.ofChange Rows.ratFieldSpec) own started (by kernel_rfl) Tryd.func7
    (witness_row_at (enc := enc) (C := Tryd.checked) false (World.doorLaid Tryd.prog 24 os) #[Value.agg #[.bool false, .slice none 0 0, .bool false, .slice none 0 0], Value.agg #[.bool false, .slice none 0 0, .bool false, .slice none 0 0], Value.agg #[.bool false, .slice none 0 0, .bool false, .slice none 0 0]] rfl (by kernel_rfl) (by kernel_rfl) (by kernel_rfl)
      (OpenSpec.preRow_of_cond 8 hx (by kernel_rfl) (fun k hk => by cases hk) (by kernel_rfl) (laid_met os _))) ?_
  intro W base args ds gs before hval hW _ _ _ hL _ _
  exact contract H enc W base args ds gs before hval hW hL

theorem said : Rows.RatFieldSaid :=
  OpenClaim.holds_of_cond 7 Tryd.f7 rfl rfl rfl rfl rfl rfl rfl ⟨rfl, rfl, rfl, rfl, rfl⟩ rfl rfl rfl rfl rfl (by kernel_rfl) Tryd.func7 (by kernel_rfl)
    (of_decide_eq_true (by kernel_rfl)) (by unfold Func.isWrapper; first | (rw [if_pos (by decide +kernel)]; kernel_rfl) | (rw [if_neg (by decide +kernel)]; exact ⟨rfl, rfl⟩))
    (fun os started H enc _ F => by rw [OpenClaim.pre_eq_preRow]; exact lifted os started H enc F)

theorem plain (f : FuncId) (fn : Func) (hf : Tryd.pinned.checked.prog.funcNamed "liquidcheck/liquidchecklaw03.RatField" = some f) (hfn : Tryd.pinned.checked.prog.funcs[f]? = some fn) :
    false = Tryd.pinned.checked.prog.looks [] ∧ ∀ (j : Nat) t, fn.params[j]? = some t → Tryd.pinned.checked.prog.wantsStandIn t = false := by
  obtain rfl : f = 7 := Option.some.inj ((show Tryd.prog.funcNamed "liquidcheck/liquidchecklaw03.RatField" = some 7 by kernel_rfl).symm.trans hf) |>.symm
  obtain rfl : fn = Tryd.f7 := (Option.some.inj (Tryd.func7.symm.trans hfn)).symm
  refine ⟨by kernel_rfl, fun j t ht => ?_⟩
  rw [Tryd.params7] at ht
  have hm := Array.mem_of_getElem? ht
  simp only [List.mem_toArray, List.mem_cons, List.not_mem_nil, or_false] at hm
  rcases hm with rfl | rfl | rfl
  · exact (show Tryd.prog.wantsStandIn 37 = false by kernel_rfl)
  · exact (show Tryd.prog.wantsStandIn 37 = false by kernel_rfl)
  · exact (show Tryd.prog.wantsStandIn 37 = false by kernel_rfl)

theorem card : Rows.RatFieldCardSaid :=
  Claim7.holds_tied_plain_at .later [] _ _ _ _ said (fun _ h => by cases h) (by kernel_rfl) (fun _ h => by cases h) ratField_row_tie rfl ⟨rfl, rfl⟩ (by kernel_rfl) rfl plain (by kernel_rfl)
end Go.Proofs.YtamlkmmhbejgfaaDoor.ratField
