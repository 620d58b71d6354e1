/-
  THE STATEMENT RatAdds IS PROVED: for every two fractions (the listed library tables holding what the program's text lays, tied by the card), the law returns true and its arguments read as before.
-/
import Derived.Test.YtfenmogbellhdaaGreatDoorCards
import Derived.Test.YtfenmogbellhdaaGreatDoorTie
import Derived.Test.YtfenmogbellhdaaGreatDoorRatLaid
import Derived.Test.YtfenmogbellhdaaGreatDoorR3W
import Derived.Test.YtfenmogbellhdaaGreatDoorRatN
import Derived.Test.YtfenmogbellhdaaGreatDoorRatLaid
import Derived.Test.YtfenmogbellhdaaGreatDoorRatFewB
namespace Go.Proofs.YtfenmogbellhdaaGreatDoor.ratAdds
open Go.ChangeShapes Go.WideShapes Go.ChangeAt Go.RowKit
open Go.ChangeMaps (open_string shut_string)


set_option maxRecDepth 100000 in
set_option maxHeartbeats 8000000 in
theorem walk (s1 t1 : Bool) (A1 B1 : Option Addr) (n1 c1 m1 d1 : Nat) (x1 y1 : List Int) (s2 t2 : Bool) (A2 B2 : Option Addr) (n2 c2 m2 d2 : Nat) (x2 y2 : List Int) (w : World) (h1 : Sl w A1 n1 c1 x1) (k1 : Sl w B1 m1 d1 y1) (h2 : Sl w A2 n2 c2 x2) (k2 : Sl w B2 m2 d2 y2) (htab : Tab w) :
    Calls Tryz.prog 3 #[.agg #[.bool s1, .slice A1 n1 c1, .bool t1, .slice B1 m1 d1], .agg #[.bool s2, .slice A2 n2 c2, .bool t2, .slice B2 m2 d2]] w fun e w' => e = .returned (.bool true) ∧ Below w.heap.size w w' := by
  have S1 := Lib.hid h1
  have T1 := Lib.hid k1
  have S2 := Lib.hid h2
  have T2 := Lib.hid k2
  have TB := Lib.hid htab
  have TB0 := Lib.hid htab
  clear h1 k1 h2 k2 htab
  rcases Bool.eq_false_or_eq_true (fewB n1 m1 && fewB n2 m2) with hl | hl
  · have HL := Lib.hid hl
    clear hl
    have BW := Lib.hid (Below.refl w.heap.size w)
    go_enter Tryz.func3, Tryz.ntmps3
    go_upto_region 1 with fail
    have S1 := Lib.hid (S1.out.alloc (.cells #[.bool s1, .slice A1 n1 c1, .bool t1, .slice B1 m1 d1] 26))
    have T1 := Lib.hid (T1.out.alloc (.cells #[.bool s1, .slice A1 n1 c1, .bool t1, .slice B1 m1 d1] 26))
    have S2 := Lib.hid (S2.out.alloc (.cells #[.bool s1, .slice A1 n1 c1, .bool t1, .slice B1 m1 d1] 26))
    have T2 := Lib.hid (T2.out.alloc (.cells #[.bool s1, .slice A1 n1 c1, .bool t1, .slice B1 m1 d1] 26))
    have TB := Lib.hid (tab_on TB.out ((Below.refl _ _).alloc (Nat.le_refl _) (.cells #[.bool s1, .slice A1 n1 c1, .bool t1, .slice B1 m1 d1] 26)))
    have BW := Lib.hid (BW.out.alloc BW.out.size (.cells #[.bool s1, .slice A1 n1 c1, .bool t1, .slice B1 m1 d1] 26))
    have X1 := Lib.hid (Bk.new 26 w #[.bool s1, .slice A1 n1 c1, .bool t1, .slice B1 m1 d1])
    have S1 := Lib.hid (S1.out.alloc (.cells #[.bool s2, .slice A2 n2 c2, .bool t2, .slice B2 m2 d2] 26))
    have T1 := Lib.hid (T1.out.alloc (.cells #[.bool s2, .slice A2 n2 c2, .bool t2, .slice B2 m2 d2] 26))
    have S2 := Lib.hid (S2.out.alloc (.cells #[.bool s2, .slice A2 n2 c2, .bool t2, .slice B2 m2 d2] 26))
    have T2 := Lib.hid (T2.out.alloc (.cells #[.bool s2, .slice A2 n2 c2, .bool t2, .slice B2 m2 d2] 26))
    have TB := Lib.hid (tab_on TB.out ((Below.refl _ _).alloc (Nat.le_refl _) (.cells #[.bool s2, .slice A2 n2 c2, .bool t2, .slice B2 m2 d2] 26)))
    have BW := Lib.hid (BW.out.alloc BW.out.size (.cells #[.bool s2, .slice A2 n2 c2, .bool t2, .slice B2 m2 d2] 26))
    have X1 := Lib.hid (X1.out.alloc (.cells #[.bool s2, .slice A2 n2 c2, .bool t2, .slice B2 m2 d2] 26))
    have X2 := Lib.hid (Bk.new 26 (w.alloc (.cells #[.bool s1, .slice A1 n1 c1, .bool t1, .slice B1 m1 d1] 26)) #[.bool s2, .slice A2 n2 c2, .bool t2, .slice B2 m2 d2])
    rw [alloc_sz] at X2
    generalize ((w.alloc (.cells #[.bool s1, .slice A1 n1 c1, .bool t1, .slice B1 m1 d1] 26)).alloc (.cells #[.bool s2, .slice A2 n2 c2, .bool t2, .slice B2 m2 d2] 26)) = W0 at *
    have e0 : W0.cell? ⟨w.heap.size, 0, none⟩ = some (.bool s1) := X1.out.c 0 rfl
    have e1 : W0.cell? ⟨w.heap.size, 1, none⟩ = some (.slice A1 n1 c1) := X1.out.c 1 rfl
    have e2 : W0.cell? ⟨w.heap.size, 2, none⟩ = some (.bool t1) := X1.out.c 2 rfl
    have e3 : W0.cell? ⟨w.heap.size, 3, none⟩ = some (.slice B1 m1 d1) := X1.out.c 3 rfl
    have e4 : W0.cell? ⟨w.heap.size + 1, 0, none⟩ = some (.bool s2) := X2.out.c 0 rfl
    have e5 : W0.cell? ⟨w.heap.size + 1, 1, none⟩ = some (.slice A2 n2 c2) := X2.out.c 1 rfl
    have e6 : W0.cell? ⟨w.heap.size + 1, 2, none⟩ = some (.bool t2) := X2.out.c 2 rfl
    have e7 : W0.cell? ⟨w.heap.size + 1, 3, none⟩ = some (.slice B2 m2 d2) := X2.out.c 3 rfl
    go_wp2_with fail
    clear e0 e1 e2 e3 e4 e5 e6 e7
    have ln1 := X1.out.lt
    have ln2 := X2.out.lt
    have S1 := Lib.hid (S1.out.alloc (.cells #[.bool s1, .slice A1 n1 c1, .bool t1, .slice B1 m1 d1, .bool s2, .slice A2 n2 c2, .bool t2, .slice B2 m2 d2] 26))
    have T1 := Lib.hid (T1.out.alloc (.cells #[.bool s1, .slice A1 n1 c1, .bool t1, .slice B1 m1 d1, .bool s2, .slice A2 n2 c2, .bool t2, .slice B2 m2 d2] 26))
    have S2 := Lib.hid (S2.out.alloc (.cells #[.bool s1, .slice A1 n1 c1, .bool t1, .slice B1 m1 d1, .bool s2, .slice A2 n2 c2, .bool t2, .slice B2 m2 d2] 26))
    have T2 := Lib.hid (T2.out.alloc (.cells #[.bool s1, .slice A1 n1 c1, .bool t1, .slice B1 m1 d1, .bool s2, .slice A2 n2 c2, .bool t2, .slice B2 m2 d2] 26))
    have TB := Lib.hid (tab_on TB.out ((Below.refl _ _).alloc (Nat.le_refl _) (.cells #[.bool s1, .slice A1 n1 c1, .bool t1, .slice B1 m1 d1, .bool s2, .slice A2 n2 c2, .bool t2, .slice B2 m2 d2] 26)))
    have BW := Lib.hid (BW.out.alloc BW.out.size (.cells #[.bool s1, .slice A1 n1 c1, .bool t1, .slice B1 m1 d1, .bool s2, .slice A2 n2 c2, .bool t2, .slice B2 m2 d2] 26))
    have X1 := Lib.hid (X1.out.alloc (.cells #[.bool s1, .slice A1 n1 c1, .bool t1, .slice B1 m1 d1, .bool s2, .slice A2 n2 c2, .bool t2, .slice B2 m2 d2] 26))
    have X2 := Lib.hid (X2.out.alloc (.cells #[.bool s1, .slice A1 n1 c1, .bool t1, .slice B1 m1 d1, .bool s2, .slice A2 n2 c2, .bool t2, .slice B2 m2 d2] 26))
    have XL := Lib.hid (Bk.new 26 W0 #[.bool s1, .slice A1 n1 c1, .bool t1, .slice B1 m1 d1, .bool s2, .slice A2 n2 c2, .bool t2, .slice B2 m2 d2])
    generalize (W0.alloc (.cells #[.bool s1, .slice A1 n1 c1, .bool t1, .slice B1 m1 d1, .bool s2, .slice A2 n2 c2, .bool t2, .slice B2 m2 d2] 26)) = WL at *
    have e0 : WL.cell? ⟨w.heap.size, 0, none⟩ = some (.bool s1) := X1.out.c 0 rfl
    have e1 : WL.cell? ⟨w.heap.size, 1, none⟩ = some (.slice A1 n1 c1) := X1.out.c 1 rfl
    have e2 : WL.cell? ⟨w.heap.size, 2, none⟩ = some (.bool t1) := X1.out.c 2 rfl
    have e3 : WL.cell? ⟨w.heap.size, 3, none⟩ = some (.slice B1 m1 d1) := X1.out.c 3 rfl
    have e4 : WL.cell? ⟨w.heap.size + 1, 0, none⟩ = some (.bool s2) := X2.out.c 0 rfl
    have e5 : WL.cell? ⟨w.heap.size + 1, 1, none⟩ = some (.slice A2 n2 c2) := X2.out.c 1 rfl
    have e6 : WL.cell? ⟨w.heap.size + 1, 2, none⟩ = some (.bool t2) := X2.out.c 2 rfl
    have e7 : WL.cell? ⟨w.heap.size + 1, 3, none⟩ = some (.slice B2 m2 d2) := X2.out.c 3 rfl
    ((with_reducible refine (light2_any W0.heap.size s1 t1 A1 B1 n1 c1 m1 d1 s2 t2 A2 B2 n2 c2 m2 d2 _ XL.out).mono ?_); rintro e w1 ⟨rfl, hb⟩)
    rw [HL.out]
    clear e0 e1 e2 e3 e4 e5 e6 e7
    have S1 := Lib.hid (S1.out.below hb)
    have T1 := Lib.hid (T1.out.below hb)
    have S2 := Lib.hid (S2.out.below hb)
    have T2 := Lib.hid (T2.out.below hb)
    have TB := Lib.hid (tab_on TB.out hb)
    have BW := Lib.hid (below_on BW.out hb)
    have X1 := Lib.hid (X1.out.below hb)
    have X2 := Lib.hid (X2.out.below hb)
    have XL := Lib.hid (XL.out.below hb)
    clear hb
    clear XL
    have e0 : w1.cell? ⟨w.heap.size, 0, none⟩ = some (.bool s1) := X1.out.c 0 rfl
    have e1 : w1.cell? ⟨w.heap.size, 1, none⟩ = some (.slice A1 n1 c1) := X1.out.c 1 rfl
    have e2 : w1.cell? ⟨w.heap.size, 2, none⟩ = some (.bool t1) := X1.out.c 2 rfl
    have e3 : w1.cell? ⟨w.heap.size, 3, none⟩ = some (.slice B1 m1 d1) := X1.out.c 3 rfl
    have e4 : w1.cell? ⟨w.heap.size + 1, 0, none⟩ = some (.bool s2) := X2.out.c 0 rfl
    have e5 : w1.cell? ⟨w.heap.size + 1, 1, none⟩ = some (.slice A2 n2 c2) := X2.out.c 1 rfl
    have e6 : w1.cell? ⟨w.heap.size + 1, 2, none⟩ = some (.bool t2) := X2.out.c 2 rfl
    have e7 : w1.cell? ⟨w.heap.size + 1, 3, none⟩ = some (.slice B2 m2 d2) := X2.out.c 3 rfl
    go_wp2_with fail
    ((with_reducible refine (radd_any s1 t1 s2 t2 A1 B1 A2 B2 n1 c1 m1 d1 n2 c2 m2 d2 x1 y1 x2 y2 _ S1.out T1.out S2.out T2.out).mono ?_); rintro e w3 ⟨G3, g3, h3, I3, i3, j3, rfl, hs, ht, hb⟩)
    clear e0 e1 e2 e3 e4 e5 e6 e7
    have S1 := Lib.hid (S1.out.below hb)
    have T1 := Lib.hid (T1.out.below hb)
    have S2 := Lib.hid (S2.out.below hb)
    have T2 := Lib.hid (T2.out.below hb)
    have TB := Lib.hid (tab_on TB.out hb)
    have BW := Lib.hid (below_on BW.out hb)
    have X1 := Lib.hid (X1.out.below hb)
    have X2 := Lib.hid (X2.out.below hb)
    clear hb
    have U3 := Lib.hid hs
    have V3 := Lib.hid ht
    clear hs ht
    have e0 : w3.cell? ⟨w.heap.size, 0, none⟩ = some (.bool s1) := X1.out.c 0 rfl
    have e1 : w3.cell? ⟨w.heap.size, 1, none⟩ = some (.slice A1 n1 c1) := X1.out.c 1 rfl
    have e2 : w3.cell? ⟨w.heap.size, 2, none⟩ = some (.bool t1) := X1.out.c 2 rfl
    have e3 : w3.cell? ⟨w.heap.size, 3, none⟩ = some (.slice B1 m1 d1) := X1.out.c 3 rfl
    have e4 : w3.cell? ⟨w.heap.size + 1, 0, none⟩ = some (.bool s2) := X2.out.c 0 rfl
    have e5 : w3.cell? ⟨w.heap.size + 1, 1, none⟩ = some (.slice A2 n2 c2) := X2.out.c 1 rfl
    have e6 : w3.cell? ⟨w.heap.size + 1, 2, none⟩ = some (.bool t2) := X2.out.c 2 rfl
    have e7 : w3.cell? ⟨w.heap.size + 1, 3, none⟩ = some (.slice B2 m2 d2) := X2.out.c 3 rfl
    go_upto_region 4 with fail
    clear e0 e1 e2 e3 e4 e5 e6 e7
    have ln3 := X1.out.lt
    have ln4 := X2.out.lt
    have S1 := Lib.hid (S1.out.alloc (.cells #[.bool (nOf (resN (frN s1 x1 t1 y1 * frD s2 x2 t2 y2 + frN s2 x2 t2 y2 * frD s1 x1 t1 y1) (frD s1 x1 t1 y1 * frD s2 x2 t2 y2))), .slice G3 g3 h3, .bool (nOf (resD (frN s1 x1 t1 y1 * frD s2 x2 t2 y2 + frN s2 x2 t2 y2 * frD s1 x1 t1 y1) (frD s1 x1 t1 y1 * frD s2 x2 t2 y2))), .slice I3 i3 j3] 26))
    have T1 := Lib.hid (T1.out.alloc (.cells #[.bool (nOf (resN (frN s1 x1 t1 y1 * frD s2 x2 t2 y2 + frN s2 x2 t2 y2 * frD s1 x1 t1 y1) (frD s1 x1 t1 y1 * frD s2 x2 t2 y2))), .slice G3 g3 h3, .bool (nOf (resD (frN s1 x1 t1 y1 * frD s2 x2 t2 y2 + frN s2 x2 t2 y2 * frD s1 x1 t1 y1) (frD s1 x1 t1 y1 * frD s2 x2 t2 y2))), .slice I3 i3 j3] 26))
    have S2 := Lib.hid (S2.out.alloc (.cells #[.bool (nOf (resN (frN s1 x1 t1 y1 * frD s2 x2 t2 y2 + frN s2 x2 t2 y2 * frD s1 x1 t1 y1) (frD s1 x1 t1 y1 * frD s2 x2 t2 y2))), .slice G3 g3 h3, .bool (nOf (resD (frN s1 x1 t1 y1 * frD s2 x2 t2 y2 + frN s2 x2 t2 y2 * frD s1 x1 t1 y1) (frD s1 x1 t1 y1 * frD s2 x2 t2 y2))), .slice I3 i3 j3] 26))
    have T2 := Lib.hid (T2.out.alloc (.cells #[.bool (nOf (resN (frN s1 x1 t1 y1 * frD s2 x2 t2 y2 + frN s2 x2 t2 y2 * frD s1 x1 t1 y1) (frD s1 x1 t1 y1 * frD s2 x2 t2 y2))), .slice G3 g3 h3, .bool (nOf (resD (frN s1 x1 t1 y1 * frD s2 x2 t2 y2 + frN s2 x2 t2 y2 * frD s1 x1 t1 y1) (frD s1 x1 t1 y1 * frD s2 x2 t2 y2))), .slice I3 i3 j3] 26))
    have TB := Lib.hid (tab_on TB.out ((Below.refl _ _).alloc (Nat.le_refl _) (.cells #[.bool (nOf (resN (frN s1 x1 t1 y1 * frD s2 x2 t2 y2 + frN s2 x2 t2 y2 * frD s1 x1 t1 y1) (frD s1 x1 t1 y1 * frD s2 x2 t2 y2))), .slice G3 g3 h3, .bool (nOf (resD (frN s1 x1 t1 y1 * frD s2 x2 t2 y2 + frN s2 x2 t2 y2 * frD s1 x1 t1 y1) (frD s1 x1 t1 y1 * frD s2 x2 t2 y2))), .slice I3 i3 j3] 26)))
    have BW := Lib.hid (BW.out.alloc BW.out.size (.cells #[.bool (nOf (resN (frN s1 x1 t1 y1 * frD s2 x2 t2 y2 + frN s2 x2 t2 y2 * frD s1 x1 t1 y1) (frD s1 x1 t1 y1 * frD s2 x2 t2 y2))), .slice G3 g3 h3, .bool (nOf (resD (frN s1 x1 t1 y1 * frD s2 x2 t2 y2 + frN s2 x2 t2 y2 * frD s1 x1 t1 y1) (frD s1 x1 t1 y1 * frD s2 x2 t2 y2))), .slice I3 i3 j3] 26))
    have X1 := Lib.hid (X1.out.alloc (.cells #[.bool (nOf (resN (frN s1 x1 t1 y1 * frD s2 x2 t2 y2 + frN s2 x2 t2 y2 * frD s1 x1 t1 y1) (frD s1 x1 t1 y1 * frD s2 x2 t2 y2))), .slice G3 g3 h3, .bool (nOf (resD (frN s1 x1 t1 y1 * frD s2 x2 t2 y2 + frN s2 x2 t2 y2 * frD s1 x1 t1 y1) (frD s1 x1 t1 y1 * frD s2 x2 t2 y2))), .slice I3 i3 j3] 26))
    have X2 := Lib.hid (X2.out.alloc (.cells #[.bool (nOf (resN (frN s1 x1 t1 y1 * frD s2 x2 t2 y2 + frN s2 x2 t2 y2 * frD s1 x1 t1 y1) (frD s1 x1 t1 y1 * frD s2 x2 t2 y2))), .slice G3 g3 h3, .bool (nOf (resD (frN s1 x1 t1 y1 * frD s2 x2 t2 y2 + frN s2 x2 t2 y2 * frD s1 x1 t1 y1) (frD s1 x1 t1 y1 * frD s2 x2 t2 y2))), .slice I3 i3 j3] 26))
    have U3 := Lib.hid (U3.out.alloc (.cells #[.bool (nOf (resN (frN s1 x1 t1 y1 * frD s2 x2 t2 y2 + frN s2 x2 t2 y2 * frD s1 x1 t1 y1) (frD s1 x1 t1 y1 * frD s2 x2 t2 y2))), .slice G3 g3 h3, .bool (nOf (resD (frN s1 x1 t1 y1 * frD s2 x2 t2 y2 + frN s2 x2 t2 y2 * frD s1 x1 t1 y1) (frD s1 x1 t1 y1 * frD s2 x2 t2 y2))), .slice I3 i3 j3] 26))
    have V3 := Lib.hid (V3.out.alloc (.cells #[.bool (nOf (resN (frN s1 x1 t1 y1 * frD s2 x2 t2 y2 + frN s2 x2 t2 y2 * frD s1 x1 t1 y1) (frD s1 x1 t1 y1 * frD s2 x2 t2 y2))), .slice G3 g3 h3, .bool (nOf (resD (frN s1 x1 t1 y1 * frD s2 x2 t2 y2 + frN s2 x2 t2 y2 * frD s1 x1 t1 y1) (frD s1 x1 t1 y1 * frD s2 x2 t2 y2))), .slice I3 i3 j3] 26))
    have Y3 := Lib.hid (Bk.new 26 w3 #[.bool (nOf (resN (frN s1 x1 t1 y1 * frD s2 x2 t2 y2 + frN s2 x2 t2 y2 * frD s1 x1 t1 y1) (frD s1 x1 t1 y1 * frD s2 x2 t2 y2))), .slice G3 g3 h3, .bool (nOf (resD (frN s1 x1 t1 y1 * frD s2 x2 t2 y2 + frN s2 x2 t2 y2 * frD s1 x1 t1 y1) (frD s1 x1 t1 y1 * frD s2 x2 t2 y2))), .slice I3 i3 j3])
    generalize (w3.alloc (.cells #[.bool (nOf (resN (frN s1 x1 t1 y1 * frD s2 x2 t2 y2 + frN s2 x2 t2 y2 * frD s1 x1 t1 y1) (frD s1 x1 t1 y1 * frD s2 x2 t2 y2))), .slice G3 g3 h3, .bool (nOf (resD (frN s1 x1 t1 y1 * frD s2 x2 t2 y2 + frN s2 x2 t2 y2 * frD s1 x1 t1 y1) (frD s1 x1 t1 y1 * frD s2 x2 t2 y2))), .slice I3 i3 j3] 26)) = W3 at *
    have e0 : W3.cell? ⟨w.heap.size, 0, none⟩ = some (.bool s1) := X1.out.c 0 rfl
    have e1 : W3.cell? ⟨w.heap.size, 1, none⟩ = some (.slice A1 n1 c1) := X1.out.c 1 rfl
    have e2 : W3.cell? ⟨w.heap.size, 2, none⟩ = some (.bool t1) := X1.out.c 2 rfl
    have e3 : W3.cell? ⟨w.heap.size, 3, none⟩ = some (.slice B1 m1 d1) := X1.out.c 3 rfl
    have e4 : W3.cell? ⟨w.heap.size + 1, 0, none⟩ = some (.bool s2) := X2.out.c 0 rfl
    have e5 : W3.cell? ⟨w.heap.size + 1, 1, none⟩ = some (.slice A2 n2 c2) := X2.out.c 1 rfl
    have e6 : W3.cell? ⟨w.heap.size + 1, 2, none⟩ = some (.bool t2) := X2.out.c 2 rfl
    have e7 : W3.cell? ⟨w.heap.size + 1, 3, none⟩ = some (.slice B2 m2 d2) := X2.out.c 3 rfl
    go_wp2_with fail
    ((with_reducible refine (r3add_any s1 t1 s2 t2 A1 B1 A2 B2 n1 c1 m1 d1 n2 c2 m2 d2 x1 y1 x2 y2 _ S1.out T1.out S2.out T2.out).mono ?_); rintro e w4 ⟨G4, g4, h4, I4, i4, j4, rfl, hs, ht, hb⟩)
    clear e0 e1 e2 e3 e4 e5 e6 e7
    have S1 := Lib.hid (S1.out.below hb)
    have T1 := Lib.hid (T1.out.below hb)
    have S2 := Lib.hid (S2.out.below hb)
    have T2 := Lib.hid (T2.out.below hb)
    have TB := Lib.hid (tab_on TB.out hb)
    have BW := Lib.hid (below_on BW.out hb)
    have X1 := Lib.hid (X1.out.below hb)
    have X2 := Lib.hid (X2.out.below hb)
    have U3 := Lib.hid (U3.out.below hb)
    have V3 := Lib.hid (V3.out.below hb)
    have Y3 := Lib.hid (Y3.out.below hb)
    clear hb
    have U4 := Lib.hid hs
    have V4 := Lib.hid ht
    clear hs ht
    have e0 : w4.cell? ⟨w.heap.size, 0, none⟩ = some (.bool s1) := X1.out.c 0 rfl
    have e1 : w4.cell? ⟨w.heap.size, 1, none⟩ = some (.slice A1 n1 c1) := X1.out.c 1 rfl
    have e2 : w4.cell? ⟨w.heap.size, 2, none⟩ = some (.bool t1) := X1.out.c 2 rfl
    have e3 : w4.cell? ⟨w.heap.size, 3, none⟩ = some (.slice B1 m1 d1) := X1.out.c 3 rfl
    have e4 : w4.cell? ⟨w.heap.size + 1, 0, none⟩ = some (.bool s2) := X2.out.c 0 rfl
    have e5 : w4.cell? ⟨w.heap.size + 1, 1, none⟩ = some (.slice A2 n2 c2) := X2.out.c 1 rfl
    have e6 : w4.cell? ⟨w.heap.size + 1, 2, none⟩ = some (.bool t2) := X2.out.c 2 rfl
    have e7 : w4.cell? ⟨w.heap.size + 1, 3, none⟩ = some (.slice B2 m2 d2) := X2.out.c 3 rfl
    go_upto_region 5 with fail
    clear e0 e1 e2 e3 e4 e5 e6 e7
    have ln5 := X1.out.lt
    have ln6 := X2.out.lt
    have ln7 := Y3.out.lt
    have S1 := Lib.hid (S1.out.alloc (.cells #[.bool (nOf (resN (frN s1 x1 t1 y1 * frD s2 x2 t2 y2 + frN s2 x2 t2 y2 * frD s1 x1 t1 y1) (frD s1 x1 t1 y1 * frD s2 x2 t2 y2))), .slice G4 g4 h4, .bool (nOf (resD (frN s1 x1 t1 y1 * frD s2 x2 t2 y2 + frN s2 x2 t2 y2 * frD s1 x1 t1 y1) (frD s1 x1 t1 y1 * frD s2 x2 t2 y2))), .slice I4 i4 j4] 26))
    have T1 := Lib.hid (T1.out.alloc (.cells #[.bool (nOf (resN (frN s1 x1 t1 y1 * frD s2 x2 t2 y2 + frN s2 x2 t2 y2 * frD s1 x1 t1 y1) (frD s1 x1 t1 y1 * frD s2 x2 t2 y2))), .slice G4 g4 h4, .bool (nOf (resD (frN s1 x1 t1 y1 * frD s2 x2 t2 y2 + frN s2 x2 t2 y2 * frD s1 x1 t1 y1) (frD s1 x1 t1 y1 * frD s2 x2 t2 y2))), .slice I4 i4 j4] 26))
    have S2 := Lib.hid (S2.out.alloc (.cells #[.bool (nOf (resN (frN s1 x1 t1 y1 * frD s2 x2 t2 y2 + frN s2 x2 t2 y2 * frD s1 x1 t1 y1) (frD s1 x1 t1 y1 * frD s2 x2 t2 y2))), .slice G4 g4 h4, .bool (nOf (resD (frN s1 x1 t1 y1 * frD s2 x2 t2 y2 + frN s2 x2 t2 y2 * frD s1 x1 t1 y1) (frD s1 x1 t1 y1 * frD s2 x2 t2 y2))), .slice I4 i4 j4] 26))
    have T2 := Lib.hid (T2.out.alloc (.cells #[.bool (nOf (resN (frN s1 x1 t1 y1 * frD s2 x2 t2 y2 + frN s2 x2 t2 y2 * frD s1 x1 t1 y1) (frD s1 x1 t1 y1 * frD s2 x2 t2 y2))), .slice G4 g4 h4, .bool (nOf (resD (frN s1 x1 t1 y1 * frD s2 x2 t2 y2 + frN s2 x2 t2 y2 * frD s1 x1 t1 y1) (frD s1 x1 t1 y1 * frD s2 x2 t2 y2))), .slice I4 i4 j4] 26))
    have TB := Lib.hid (tab_on TB.out ((Below.refl _ _).alloc (Nat.le_refl _) (.cells #[.bool (nOf (resN (frN s1 x1 t1 y1 * frD s2 x2 t2 y2 + frN s2 x2 t2 y2 * frD s1 x1 t1 y1) (frD s1 x1 t1 y1 * frD s2 x2 t2 y2))), .slice G4 g4 h4, .bool (nOf (resD (frN s1 x1 t1 y1 * frD s2 x2 t2 y2 + frN s2 x2 t2 y2 * frD s1 x1 t1 y1) (frD s1 x1 t1 y1 * frD s2 x2 t2 y2))), .slice I4 i4 j4] 26)))
    have BW := Lib.hid (BW.out.alloc BW.out.size (.cells #[.bool (nOf (resN (frN s1 x1 t1 y1 * frD s2 x2 t2 y2 + frN s2 x2 t2 y2 * frD s1 x1 t1 y1) (frD s1 x1 t1 y1 * frD s2 x2 t2 y2))), .slice G4 g4 h4, .bool (nOf (resD (frN s1 x1 t1 y1 * frD s2 x2 t2 y2 + frN s2 x2 t2 y2 * frD s1 x1 t1 y1) (frD s1 x1 t1 y1 * frD s2 x2 t2 y2))), .slice I4 i4 j4] 26))
    have X1 := Lib.hid (X1.out.alloc (.cells #[.bool (nOf (resN (frN s1 x1 t1 y1 * frD s2 x2 t2 y2 + frN s2 x2 t2 y2 * frD s1 x1 t1 y1) (frD s1 x1 t1 y1 * frD s2 x2 t2 y2))), .slice G4 g4 h4, .bool (nOf (resD (frN s1 x1 t1 y1 * frD s2 x2 t2 y2 + frN s2 x2 t2 y2 * frD s1 x1 t1 y1) (frD s1 x1 t1 y1 * frD s2 x2 t2 y2))), .slice I4 i4 j4] 26))
    have X2 := Lib.hid (X2.out.alloc (.cells #[.bool (nOf (resN (frN s1 x1 t1 y1 * frD s2 x2 t2 y2 + frN s2 x2 t2 y2 * frD s1 x1 t1 y1) (frD s1 x1 t1 y1 * frD s2 x2 t2 y2))), .slice G4 g4 h4, .bool (nOf (resD (frN s1 x1 t1 y1 * frD s2 x2 t2 y2 + frN s2 x2 t2 y2 * frD s1 x1 t1 y1) (frD s1 x1 t1 y1 * frD s2 x2 t2 y2))), .slice I4 i4 j4] 26))
    have U3 := Lib.hid (U3.out.alloc (.cells #[.bool (nOf (resN (frN s1 x1 t1 y1 * frD s2 x2 t2 y2 + frN s2 x2 t2 y2 * frD s1 x1 t1 y1) (frD s1 x1 t1 y1 * frD s2 x2 t2 y2))), .slice G4 g4 h4, .bool (nOf (resD (frN s1 x1 t1 y1 * frD s2 x2 t2 y2 + frN s2 x2 t2 y2 * frD s1 x1 t1 y1) (frD s1 x1 t1 y1 * frD s2 x2 t2 y2))), .slice I4 i4 j4] 26))
    have V3 := Lib.hid (V3.out.alloc (.cells #[.bool (nOf (resN (frN s1 x1 t1 y1 * frD s2 x2 t2 y2 + frN s2 x2 t2 y2 * frD s1 x1 t1 y1) (frD s1 x1 t1 y1 * frD s2 x2 t2 y2))), .slice G4 g4 h4, .bool (nOf (resD (frN s1 x1 t1 y1 * frD s2 x2 t2 y2 + frN s2 x2 t2 y2 * frD s1 x1 t1 y1) (frD s1 x1 t1 y1 * frD s2 x2 t2 y2))), .slice I4 i4 j4] 26))
    have Y3 := Lib.hid (Y3.out.alloc (.cells #[.bool (nOf (resN (frN s1 x1 t1 y1 * frD s2 x2 t2 y2 + frN s2 x2 t2 y2 * frD s1 x1 t1 y1) (frD s1 x1 t1 y1 * frD s2 x2 t2 y2))), .slice G4 g4 h4, .bool (nOf (resD (frN s1 x1 t1 y1 * frD s2 x2 t2 y2 + frN s2 x2 t2 y2 * frD s1 x1 t1 y1) (frD s1 x1 t1 y1 * frD s2 x2 t2 y2))), .slice I4 i4 j4] 26))
    have U4 := Lib.hid (U4.out.alloc (.cells #[.bool (nOf (resN (frN s1 x1 t1 y1 * frD s2 x2 t2 y2 + frN s2 x2 t2 y2 * frD s1 x1 t1 y1) (frD s1 x1 t1 y1 * frD s2 x2 t2 y2))), .slice G4 g4 h4, .bool (nOf (resD (frN s1 x1 t1 y1 * frD s2 x2 t2 y2 + frN s2 x2 t2 y2 * frD s1 x1 t1 y1) (frD s1 x1 t1 y1 * frD s2 x2 t2 y2))), .slice I4 i4 j4] 26))
    have V4 := Lib.hid (V4.out.alloc (.cells #[.bool (nOf (resN (frN s1 x1 t1 y1 * frD s2 x2 t2 y2 + frN s2 x2 t2 y2 * frD s1 x1 t1 y1) (frD s1 x1 t1 y1 * frD s2 x2 t2 y2))), .slice G4 g4 h4, .bool (nOf (resD (frN s1 x1 t1 y1 * frD s2 x2 t2 y2 + frN s2 x2 t2 y2 * frD s1 x1 t1 y1) (frD s1 x1 t1 y1 * frD s2 x2 t2 y2))), .slice I4 i4 j4] 26))
    have Y4 := Lib.hid (Bk.new 26 w4 #[.bool (nOf (resN (frN s1 x1 t1 y1 * frD s2 x2 t2 y2 + frN s2 x2 t2 y2 * frD s1 x1 t1 y1) (frD s1 x1 t1 y1 * frD s2 x2 t2 y2))), .slice G4 g4 h4, .bool (nOf (resD (frN s1 x1 t1 y1 * frD s2 x2 t2 y2 + frN s2 x2 t2 y2 * frD s1 x1 t1 y1) (frD s1 x1 t1 y1 * frD s2 x2 t2 y2))), .slice I4 i4 j4])
    generalize (w4.alloc (.cells #[.bool (nOf (resN (frN s1 x1 t1 y1 * frD s2 x2 t2 y2 + frN s2 x2 t2 y2 * frD s1 x1 t1 y1) (frD s1 x1 t1 y1 * frD s2 x2 t2 y2))), .slice G4 g4 h4, .bool (nOf (resD (frN s1 x1 t1 y1 * frD s2 x2 t2 y2 + frN s2 x2 t2 y2 * frD s1 x1 t1 y1) (frD s1 x1 t1 y1 * frD s2 x2 t2 y2))), .slice I4 i4 j4] 26)) = W4 at *
    have e0 : W4.cell? ⟨w.heap.size, 0, none⟩ = some (.bool s1) := X1.out.c 0 rfl
    have e1 : W4.cell? ⟨w.heap.size, 1, none⟩ = some (.slice A1 n1 c1) := X1.out.c 1 rfl
    have e2 : W4.cell? ⟨w.heap.size, 2, none⟩ = some (.bool t1) := X1.out.c 2 rfl
    have e3 : W4.cell? ⟨w.heap.size, 3, none⟩ = some (.slice B1 m1 d1) := X1.out.c 3 rfl
    have e4 : W4.cell? ⟨w.heap.size + 1, 0, none⟩ = some (.bool s2) := X2.out.c 0 rfl
    have e5 : W4.cell? ⟨w.heap.size + 1, 1, none⟩ = some (.slice A2 n2 c2) := X2.out.c 1 rfl
    have e6 : W4.cell? ⟨w.heap.size + 1, 2, none⟩ = some (.bool t2) := X2.out.c 2 rfl
    have e7 : W4.cell? ⟨w.heap.size + 1, 3, none⟩ = some (.slice B2 m2 d2) := X2.out.c 3 rfl
    go_wp2_with fail
    ((with_reducible refine (rsub_any s1 t1 s2 t2 A1 B1 A2 B2 n1 c1 m1 d1 n2 c2 m2 d2 x1 y1 x2 y2 _ S1.out T1.out S2.out T2.out).mono ?_); rintro e w5 ⟨G5, g5, h5, I5, i5, j5, rfl, hs, ht, hb⟩)
    clear e0 e1 e2 e3 e4 e5 e6 e7
    have S1 := Lib.hid (S1.out.below hb)
    have T1 := Lib.hid (T1.out.below hb)
    have S2 := Lib.hid (S2.out.below hb)
    have T2 := Lib.hid (T2.out.below hb)
    have TB := Lib.hid (tab_on TB.out hb)
    have BW := Lib.hid (below_on BW.out hb)
    have X1 := Lib.hid (X1.out.below hb)
    have X2 := Lib.hid (X2.out.below hb)
    have U3 := Lib.hid (U3.out.below hb)
    have V3 := Lib.hid (V3.out.below hb)
    have Y3 := Lib.hid (Y3.out.below hb)
    have U4 := Lib.hid (U4.out.below hb)
    have V4 := Lib.hid (V4.out.below hb)
    have Y4 := Lib.hid (Y4.out.below hb)
    clear hb
    have U5 := Lib.hid hs
    have V5 := Lib.hid ht
    clear hs ht
    have e0 : w5.cell? ⟨w.heap.size, 0, none⟩ = some (.bool s1) := X1.out.c 0 rfl
    have e1 : w5.cell? ⟨w.heap.size, 1, none⟩ = some (.slice A1 n1 c1) := X1.out.c 1 rfl
    have e2 : w5.cell? ⟨w.heap.size, 2, none⟩ = some (.bool t1) := X1.out.c 2 rfl
    have e3 : w5.cell? ⟨w.heap.size, 3, none⟩ = some (.slice B1 m1 d1) := X1.out.c 3 rfl
    have e4 : w5.cell? ⟨w.heap.size + 1, 0, none⟩ = some (.bool s2) := X2.out.c 0 rfl
    have e5 : w5.cell? ⟨w.heap.size + 1, 1, none⟩ = some (.slice A2 n2 c2) := X2.out.c 1 rfl
    have e6 : w5.cell? ⟨w.heap.size + 1, 2, none⟩ = some (.bool t2) := X2.out.c 2 rfl
    have e7 : w5.cell? ⟨w.heap.size + 1, 3, none⟩ = some (.slice B2 m2 d2) := X2.out.c 3 rfl
    go_upto_region 6 with fail
    clear e0 e1 e2 e3 e4 e5 e6 e7
    have ln8 := X1.out.lt
    have ln9 := X2.out.lt
    have ln10 := Y3.out.lt
    have ln11 := Y4.out.lt
    have S1 := Lib.hid (S1.out.alloc (.cells #[.bool (nOf (resN (frN s1 x1 t1 y1 * frD s2 x2 t2 y2 - frN s2 x2 t2 y2 * frD s1 x1 t1 y1) (frD s1 x1 t1 y1 * frD s2 x2 t2 y2))), .slice G5 g5 h5, .bool (nOf (resD (frN s1 x1 t1 y1 * frD s2 x2 t2 y2 - frN s2 x2 t2 y2 * frD s1 x1 t1 y1) (frD s1 x1 t1 y1 * frD s2 x2 t2 y2))), .slice I5 i5 j5] 26))
    have T1 := Lib.hid (T1.out.alloc (.cells #[.bool (nOf (resN (frN s1 x1 t1 y1 * frD s2 x2 t2 y2 - frN s2 x2 t2 y2 * frD s1 x1 t1 y1) (frD s1 x1 t1 y1 * frD s2 x2 t2 y2))), .slice G5 g5 h5, .bool (nOf (resD (frN s1 x1 t1 y1 * frD s2 x2 t2 y2 - frN s2 x2 t2 y2 * frD s1 x1 t1 y1) (frD s1 x1 t1 y1 * frD s2 x2 t2 y2))), .slice I5 i5 j5] 26))
    have S2 := Lib.hid (S2.out.alloc (.cells #[.bool (nOf (resN (frN s1 x1 t1 y1 * frD s2 x2 t2 y2 - frN s2 x2 t2 y2 * frD s1 x1 t1 y1) (frD s1 x1 t1 y1 * frD s2 x2 t2 y2))), .slice G5 g5 h5, .bool (nOf (resD (frN s1 x1 t1 y1 * frD s2 x2 t2 y2 - frN s2 x2 t2 y2 * frD s1 x1 t1 y1) (frD s1 x1 t1 y1 * frD s2 x2 t2 y2))), .slice I5 i5 j5] 26))
    have T2 := Lib.hid (T2.out.alloc (.cells #[.bool (nOf (resN (frN s1 x1 t1 y1 * frD s2 x2 t2 y2 - frN s2 x2 t2 y2 * frD s1 x1 t1 y1) (frD s1 x1 t1 y1 * frD s2 x2 t2 y2))), .slice G5 g5 h5, .bool (nOf (resD (frN s1 x1 t1 y1 * frD s2 x2 t2 y2 - frN s2 x2 t2 y2 * frD s1 x1 t1 y1) (frD s1 x1 t1 y1 * frD s2 x2 t2 y2))), .slice I5 i5 j5] 26))
    have TB := Lib.hid (tab_on TB.out ((Below.refl _ _).alloc (Nat.le_refl _) (.cells #[.bool (nOf (resN (frN s1 x1 t1 y1 * frD s2 x2 t2 y2 - frN s2 x2 t2 y2 * frD s1 x1 t1 y1) (frD s1 x1 t1 y1 * frD s2 x2 t2 y2))), .slice G5 g5 h5, .bool (nOf (resD (frN s1 x1 t1 y1 * frD s2 x2 t2 y2 - frN s2 x2 t2 y2 * frD s1 x1 t1 y1) (frD s1 x1 t1 y1 * frD s2 x2 t2 y2))), .slice I5 i5 j5] 26)))
    have BW := Lib.hid (BW.out.alloc BW.out.size (.cells #[.bool (nOf (resN (frN s1 x1 t1 y1 * frD s2 x2 t2 y2 - frN s2 x2 t2 y2 * frD s1 x1 t1 y1) (frD s1 x1 t1 y1 * frD s2 x2 t2 y2))), .slice G5 g5 h5, .bool (nOf (resD (frN s1 x1 t1 y1 * frD s2 x2 t2 y2 - frN s2 x2 t2 y2 * frD s1 x1 t1 y1) (frD s1 x1 t1 y1 * frD s2 x2 t2 y2))), .slice I5 i5 j5] 26))
    have X1 := Lib.hid (X1.out.alloc (.cells #[.bool (nOf (resN (frN s1 x1 t1 y1 * frD s2 x2 t2 y2 - frN s2 x2 t2 y2 * frD s1 x1 t1 y1) (frD s1 x1 t1 y1 * frD s2 x2 t2 y2))), .slice G5 g5 h5, .bool (nOf (resD (frN s1 x1 t1 y1 * frD s2 x2 t2 y2 - frN s2 x2 t2 y2 * frD s1 x1 t1 y1) (frD s1 x1 t1 y1 * frD s2 x2 t2 y2))), .slice I5 i5 j5] 26))
    have X2 := Lib.hid (X2.out.alloc (.cells #[.bool (nOf (resN (frN s1 x1 t1 y1 * frD s2 x2 t2 y2 - frN s2 x2 t2 y2 * frD s1 x1 t1 y1) (frD s1 x1 t1 y1 * frD s2 x2 t2 y2))), .slice G5 g5 h5, .bool (nOf (resD (frN s1 x1 t1 y1 * frD s2 x2 t2 y2 - frN s2 x2 t2 y2 * frD s1 x1 t1 y1) (frD s1 x1 t1 y1 * frD s2 x2 t2 y2))), .slice I5 i5 j5] 26))
    have U3 := Lib.hid (U3.out.alloc (.cells #[.bool (nOf (resN (frN s1 x1 t1 y1 * frD s2 x2 t2 y2 - frN s2 x2 t2 y2 * frD s1 x1 t1 y1) (frD s1 x1 t1 y1 * frD s2 x2 t2 y2))), .slice G5 g5 h5, .bool (nOf (resD (frN s1 x1 t1 y1 * frD s2 x2 t2 y2 - frN s2 x2 t2 y2 * frD s1 x1 t1 y1) (frD s1 x1 t1 y1 * frD s2 x2 t2 y2))), .slice I5 i5 j5] 26))
    have V3 := Lib.hid (V3.out.alloc (.cells #[.bool (nOf (resN (frN s1 x1 t1 y1 * frD s2 x2 t2 y2 - frN s2 x2 t2 y2 * frD s1 x1 t1 y1) (frD s1 x1 t1 y1 * frD s2 x2 t2 y2))), .slice G5 g5 h5, .bool (nOf (resD (frN s1 x1 t1 y1 * frD s2 x2 t2 y2 - frN s2 x2 t2 y2 * frD s1 x1 t1 y1) (frD s1 x1 t1 y1 * frD s2 x2 t2 y2))), .slice I5 i5 j5] 26))
    have Y3 := Lib.hid (Y3.out.alloc (.cells #[.bool (nOf (resN (frN s1 x1 t1 y1 * frD s2 x2 t2 y2 - frN s2 x2 t2 y2 * frD s1 x1 t1 y1) (frD s1 x1 t1 y1 * frD s2 x2 t2 y2))), .slice G5 g5 h5, .bool (nOf (resD (frN s1 x1 t1 y1 * frD s2 x2 t2 y2 - frN s2 x2 t2 y2 * frD s1 x1 t1 y1) (frD s1 x1 t1 y1 * frD s2 x2 t2 y2))), .slice I5 i5 j5] 26))
    have U4 := Lib.hid (U4.out.alloc (.cells #[.bool (nOf (resN (frN s1 x1 t1 y1 * frD s2 x2 t2 y2 - frN s2 x2 t2 y2 * frD s1 x1 t1 y1) (frD s1 x1 t1 y1 * frD s2 x2 t2 y2))), .slice G5 g5 h5, .bool (nOf (resD (frN s1 x1 t1 y1 * frD s2 x2 t2 y2 - frN s2 x2 t2 y2 * frD s1 x1 t1 y1) (frD s1 x1 t1 y1 * frD s2 x2 t2 y2))), .slice I5 i5 j5] 26))
    have V4 := Lib.hid (V4.out.alloc (.cells #[.bool (nOf (resN (frN s1 x1 t1 y1 * frD s2 x2 t2 y2 - frN s2 x2 t2 y2 * frD s1 x1 t1 y1) (frD s1 x1 t1 y1 * frD s2 x2 t2 y2))), .slice G5 g5 h5, .bool (nOf (resD (frN s1 x1 t1 y1 * frD s2 x2 t2 y2 - frN s2 x2 t2 y2 * frD s1 x1 t1 y1) (frD s1 x1 t1 y1 * frD s2 x2 t2 y2))), .slice I5 i5 j5] 26))
    have Y4 := Lib.hid (Y4.out.alloc (.cells #[.bool (nOf (resN (frN s1 x1 t1 y1 * frD s2 x2 t2 y2 - frN s2 x2 t2 y2 * frD s1 x1 t1 y1) (frD s1 x1 t1 y1 * frD s2 x2 t2 y2))), .slice G5 g5 h5, .bool (nOf (resD (frN s1 x1 t1 y1 * frD s2 x2 t2 y2 - frN s2 x2 t2 y2 * frD s1 x1 t1 y1) (frD s1 x1 t1 y1 * frD s2 x2 t2 y2))), .slice I5 i5 j5] 26))
    have U5 := Lib.hid (U5.out.alloc (.cells #[.bool (nOf (resN (frN s1 x1 t1 y1 * frD s2 x2 t2 y2 - frN s2 x2 t2 y2 * frD s1 x1 t1 y1) (frD s1 x1 t1 y1 * frD s2 x2 t2 y2))), .slice G5 g5 h5, .bool (nOf (resD (frN s1 x1 t1 y1 * frD s2 x2 t2 y2 - frN s2 x2 t2 y2 * frD s1 x1 t1 y1) (frD s1 x1 t1 y1 * frD s2 x2 t2 y2))), .slice I5 i5 j5] 26))
    have V5 := Lib.hid (V5.out.alloc (.cells #[.bool (nOf (resN (frN s1 x1 t1 y1 * frD s2 x2 t2 y2 - frN s2 x2 t2 y2 * frD s1 x1 t1 y1) (frD s1 x1 t1 y1 * frD s2 x2 t2 y2))), .slice G5 g5 h5, .bool (nOf (resD (frN s1 x1 t1 y1 * frD s2 x2 t2 y2 - frN s2 x2 t2 y2 * frD s1 x1 t1 y1) (frD s1 x1 t1 y1 * frD s2 x2 t2 y2))), .slice I5 i5 j5] 26))
    have Y5 := Lib.hid (Bk.new 26 w5 #[.bool (nOf (resN (frN s1 x1 t1 y1 * frD s2 x2 t2 y2 - frN s2 x2 t2 y2 * frD s1 x1 t1 y1) (frD s1 x1 t1 y1 * frD s2 x2 t2 y2))), .slice G5 g5 h5, .bool (nOf (resD (frN s1 x1 t1 y1 * frD s2 x2 t2 y2 - frN s2 x2 t2 y2 * frD s1 x1 t1 y1) (frD s1 x1 t1 y1 * frD s2 x2 t2 y2))), .slice I5 i5 j5])
    generalize (w5.alloc (.cells #[.bool (nOf (resN (frN s1 x1 t1 y1 * frD s2 x2 t2 y2 - frN s2 x2 t2 y2 * frD s1 x1 t1 y1) (frD s1 x1 t1 y1 * frD s2 x2 t2 y2))), .slice G5 g5 h5, .bool (nOf (resD (frN s1 x1 t1 y1 * frD s2 x2 t2 y2 - frN s2 x2 t2 y2 * frD s1 x1 t1 y1) (frD s1 x1 t1 y1 * frD s2 x2 t2 y2))), .slice I5 i5 j5] 26)) = W5 at *
    have e0 : W5.cell? ⟨w.heap.size, 0, none⟩ = some (.bool s1) := X1.out.c 0 rfl
    have e1 : W5.cell? ⟨w.heap.size, 1, none⟩ = some (.slice A1 n1 c1) := X1.out.c 1 rfl
    have e2 : W5.cell? ⟨w.heap.size, 2, none⟩ = some (.bool t1) := X1.out.c 2 rfl
    have e3 : W5.cell? ⟨w.heap.size, 3, none⟩ = some (.slice B1 m1 d1) := X1.out.c 3 rfl
    have e4 : W5.cell? ⟨w.heap.size + 1, 0, none⟩ = some (.bool s2) := X2.out.c 0 rfl
    have e5 : W5.cell? ⟨w.heap.size + 1, 1, none⟩ = some (.slice A2 n2 c2) := X2.out.c 1 rfl
    have e6 : W5.cell? ⟨w.heap.size + 1, 2, none⟩ = some (.bool t2) := X2.out.c 2 rfl
    have e7 : W5.cell? ⟨w.heap.size + 1, 3, none⟩ = some (.slice B2 m2 d2) := X2.out.c 3 rfl
    go_wp2_with fail
    ((with_reducible refine (r3sub_any s1 t1 s2 t2 A1 B1 A2 B2 n1 c1 m1 d1 n2 c2 m2 d2 x1 y1 x2 y2 _ S1.out T1.out S2.out T2.out).mono ?_); rintro e w6 ⟨G6, g6, h6, I6, i6, j6, rfl, hs, ht, hb⟩)
    clear e0 e1 e2 e3 e4 e5 e6 e7
    have S1 := Lib.hid (S1.out.below hb)
    have T1 := Lib.hid (T1.out.below hb)
    have S2 := Lib.hid (S2.out.below hb)
    have T2 := Lib.hid (T2.out.below hb)
    have TB := Lib.hid (tab_on TB.out hb)
    have BW := Lib.hid (below_on BW.out hb)
    have X1 := Lib.hid (X1.out.below hb)
    have X2 := Lib.hid (X2.out.below hb)
    have U3 := Lib.hid (U3.out.below hb)
    have V3 := Lib.hid (V3.out.below hb)
    have Y3 := Lib.hid (Y3.out.below hb)
    have U4 := Lib.hid (U4.out.below hb)
    have V4 := Lib.hid (V4.out.below hb)
    have Y4 := Lib.hid (Y4.out.below hb)
    have U5 := Lib.hid (U5.out.below hb)
    have V5 := Lib.hid (V5.out.below hb)
    have Y5 := Lib.hid (Y5.out.below hb)
    clear hb
    have U6 := Lib.hid hs
    have V6 := Lib.hid ht
    clear hs ht
    have e0 : w6.cell? ⟨w.heap.size, 0, none⟩ = some (.bool s1) := X1.out.c 0 rfl
    have e1 : w6.cell? ⟨w.heap.size, 1, none⟩ = some (.slice A1 n1 c1) := X1.out.c 1 rfl
    have e2 : w6.cell? ⟨w.heap.size, 2, none⟩ = some (.bool t1) := X1.out.c 2 rfl
    have e3 : w6.cell? ⟨w.heap.size, 3, none⟩ = some (.slice B1 m1 d1) := X1.out.c 3 rfl
    have e4 : w6.cell? ⟨w.heap.size + 1, 0, none⟩ = some (.bool s2) := X2.out.c 0 rfl
    have e5 : w6.cell? ⟨w.heap.size + 1, 1, none⟩ = some (.slice A2 n2 c2) := X2.out.c 1 rfl
    have e6 : w6.cell? ⟨w.heap.size + 1, 2, none⟩ = some (.bool t2) := X2.out.c 2 rfl
    have e7 : w6.cell? ⟨w.heap.size + 1, 3, none⟩ = some (.slice B2 m2 d2) := X2.out.c 3 rfl
    go_upto_region 7 with fail
    clear e0 e1 e2 e3 e4 e5 e6 e7
    have ln12 := X1.out.lt
    have ln13 := X2.out.lt
    have ln14 := Y3.out.lt
    have ln15 := Y4.out.lt
    have ln16 := Y5.out.lt
    have S1 := Lib.hid (S1.out.alloc (.cells #[.bool (nOf (resN (frN s1 x1 t1 y1 * frD s2 x2 t2 y2 - frN s2 x2 t2 y2 * frD s1 x1 t1 y1) (frD s1 x1 t1 y1 * frD s2 x2 t2 y2))), .slice G6 g6 h6, .bool (nOf (resD (frN s1 x1 t1 y1 * frD s2 x2 t2 y2 - frN s2 x2 t2 y2 * frD s1 x1 t1 y1) (frD s1 x1 t1 y1 * frD s2 x2 t2 y2))), .slice I6 i6 j6] 26))
    have T1 := Lib.hid (T1.out.alloc (.cells #[.bool (nOf (resN (frN s1 x1 t1 y1 * frD s2 x2 t2 y2 - frN s2 x2 t2 y2 * frD s1 x1 t1 y1) (frD s1 x1 t1 y1 * frD s2 x2 t2 y2))), .slice G6 g6 h6, .bool (nOf (resD (frN s1 x1 t1 y1 * frD s2 x2 t2 y2 - frN s2 x2 t2 y2 * frD s1 x1 t1 y1) (frD s1 x1 t1 y1 * frD s2 x2 t2 y2))), .slice I6 i6 j6] 26))
    have S2 := Lib.hid (S2.out.alloc (.cells #[.bool (nOf (resN (frN s1 x1 t1 y1 * frD s2 x2 t2 y2 - frN s2 x2 t2 y2 * frD s1 x1 t1 y1) (frD s1 x1 t1 y1 * frD s2 x2 t2 y2))), .slice G6 g6 h6, .bool (nOf (resD (frN s1 x1 t1 y1 * frD s2 x2 t2 y2 - frN s2 x2 t2 y2 * frD s1 x1 t1 y1) (frD s1 x1 t1 y1 * frD s2 x2 t2 y2))), .slice I6 i6 j6] 26))
    have T2 := Lib.hid (T2.out.alloc (.cells #[.bool (nOf (resN (frN s1 x1 t1 y1 * frD s2 x2 t2 y2 - frN s2 x2 t2 y2 * frD s1 x1 t1 y1) (frD s1 x1 t1 y1 * frD s2 x2 t2 y2))), .slice G6 g6 h6, .bool (nOf (resD (frN s1 x1 t1 y1 * frD s2 x2 t2 y2 - frN s2 x2 t2 y2 * frD s1 x1 t1 y1) (frD s1 x1 t1 y1 * frD s2 x2 t2 y2))), .slice I6 i6 j6] 26))
    have TB := Lib.hid (tab_on TB.out ((Below.refl _ _).alloc (Nat.le_refl _) (.cells #[.bool (nOf (resN (frN s1 x1 t1 y1 * frD s2 x2 t2 y2 - frN s2 x2 t2 y2 * frD s1 x1 t1 y1) (frD s1 x1 t1 y1 * frD s2 x2 t2 y2))), .slice G6 g6 h6, .bool (nOf (resD (frN s1 x1 t1 y1 * frD s2 x2 t2 y2 - frN s2 x2 t2 y2 * frD s1 x1 t1 y1) (frD s1 x1 t1 y1 * frD s2 x2 t2 y2))), .slice I6 i6 j6] 26)))
    have BW := Lib.hid (BW.out.alloc BW.out.size (.cells #[.bool (nOf (resN (frN s1 x1 t1 y1 * frD s2 x2 t2 y2 - frN s2 x2 t2 y2 * frD s1 x1 t1 y1) (frD s1 x1 t1 y1 * frD s2 x2 t2 y2))), .slice G6 g6 h6, .bool (nOf (resD (frN s1 x1 t1 y1 * frD s2 x2 t2 y2 - frN s2 x2 t2 y2 * frD s1 x1 t1 y1) (frD s1 x1 t1 y1 * frD s2 x2 t2 y2))), .slice I6 i6 j6] 26))
    have X1 := Lib.hid (X1.out.alloc (.cells #[.bool (nOf (resN (frN s1 x1 t1 y1 * frD s2 x2 t2 y2 - frN s2 x2 t2 y2 * frD s1 x1 t1 y1) (frD s1 x1 t1 y1 * frD s2 x2 t2 y2))), .slice G6 g6 h6, .bool (nOf (resD (frN s1 x1 t1 y1 * frD s2 x2 t2 y2 - frN s2 x2 t2 y2 * frD s1 x1 t1 y1) (frD s1 x1 t1 y1 * frD s2 x2 t2 y2))), .slice I6 i6 j6] 26))
    have X2 := Lib.hid (X2.out.alloc (.cells #[.bool (nOf (resN (frN s1 x1 t1 y1 * frD s2 x2 t2 y2 - frN s2 x2 t2 y2 * frD s1 x1 t1 y1) (frD s1 x1 t1 y1 * frD s2 x2 t2 y2))), .slice G6 g6 h6, .bool (nOf (resD (frN s1 x1 t1 y1 * frD s2 x2 t2 y2 - frN s2 x2 t2 y2 * frD s1 x1 t1 y1) (frD s1 x1 t1 y1 * frD s2 x2 t2 y2))), .slice I6 i6 j6] 26))
    have U3 := Lib.hid (U3.out.alloc (.cells #[.bool (nOf (resN (frN s1 x1 t1 y1 * frD s2 x2 t2 y2 - frN s2 x2 t2 y2 * frD s1 x1 t1 y1) (frD s1 x1 t1 y1 * frD s2 x2 t2 y2))), .slice G6 g6 h6, .bool (nOf (resD (frN s1 x1 t1 y1 * frD s2 x2 t2 y2 - frN s2 x2 t2 y2 * frD s1 x1 t1 y1) (frD s1 x1 t1 y1 * frD s2 x2 t2 y2))), .slice I6 i6 j6] 26))
    have V3 := Lib.hid (V3.out.alloc (.cells #[.bool (nOf (resN (frN s1 x1 t1 y1 * frD s2 x2 t2 y2 - frN s2 x2 t2 y2 * frD s1 x1 t1 y1) (frD s1 x1 t1 y1 * frD s2 x2 t2 y2))), .slice G6 g6 h6, .bool (nOf (resD (frN s1 x1 t1 y1 * frD s2 x2 t2 y2 - frN s2 x2 t2 y2 * frD s1 x1 t1 y1) (frD s1 x1 t1 y1 * frD s2 x2 t2 y2))), .slice I6 i6 j6] 26))
    have Y3 := Lib.hid (Y3.out.alloc (.cells #[.bool (nOf (resN (frN s1 x1 t1 y1 * frD s2 x2 t2 y2 - frN s2 x2 t2 y2 * frD s1 x1 t1 y1) (frD s1 x1 t1 y1 * frD s2 x2 t2 y2))), .slice G6 g6 h6, .bool (nOf (resD (frN s1 x1 t1 y1 * frD s2 x2 t2 y2 - frN s2 x2 t2 y2 * frD s1 x1 t1 y1) (frD s1 x1 t1 y1 * frD s2 x2 t2 y2))), .slice I6 i6 j6] 26))
    have U4 := Lib.hid (U4.out.alloc (.cells #[.bool (nOf (resN (frN s1 x1 t1 y1 * frD s2 x2 t2 y2 - frN s2 x2 t2 y2 * frD s1 x1 t1 y1) (frD s1 x1 t1 y1 * frD s2 x2 t2 y2))), .slice G6 g6 h6, .bool (nOf (resD (frN s1 x1 t1 y1 * frD s2 x2 t2 y2 - frN s2 x2 t2 y2 * frD s1 x1 t1 y1) (frD s1 x1 t1 y1 * frD s2 x2 t2 y2))), .slice I6 i6 j6] 26))
    have V4 := Lib.hid (V4.out.alloc (.cells #[.bool (nOf (resN (frN s1 x1 t1 y1 * frD s2 x2 t2 y2 - frN s2 x2 t2 y2 * frD s1 x1 t1 y1) (frD s1 x1 t1 y1 * frD s2 x2 t2 y2))), .slice G6 g6 h6, .bool (nOf (resD (frN s1 x1 t1 y1 * frD s2 x2 t2 y2 - frN s2 x2 t2 y2 * frD s1 x1 t1 y1) (frD s1 x1 t1 y1 * frD s2 x2 t2 y2))), .slice I6 i6 j6] 26))
    have Y4 := Lib.hid (Y4.out.alloc (.cells #[.bool (nOf (resN (frN s1 x1 t1 y1 * frD s2 x2 t2 y2 - frN s2 x2 t2 y2 * frD s1 x1 t1 y1) (frD s1 x1 t1 y1 * frD s2 x2 t2 y2))), .slice G6 g6 h6, .bool (nOf (resD (frN s1 x1 t1 y1 * frD s2 x2 t2 y2 - frN s2 x2 t2 y2 * frD s1 x1 t1 y1) (frD s1 x1 t1 y1 * frD s2 x2 t2 y2))), .slice I6 i6 j6] 26))
    have U5 := Lib.hid (U5.out.alloc (.cells #[.bool (nOf (resN (frN s1 x1 t1 y1 * frD s2 x2 t2 y2 - frN s2 x2 t2 y2 * frD s1 x1 t1 y1) (frD s1 x1 t1 y1 * frD s2 x2 t2 y2))), .slice G6 g6 h6, .bool (nOf (resD (frN s1 x1 t1 y1 * frD s2 x2 t2 y2 - frN s2 x2 t2 y2 * frD s1 x1 t1 y1) (frD s1 x1 t1 y1 * frD s2 x2 t2 y2))), .slice I6 i6 j6] 26))
    have V5 := Lib.hid (V5.out.alloc (.cells #[.bool (nOf (resN (frN s1 x1 t1 y1 * frD s2 x2 t2 y2 - frN s2 x2 t2 y2 * frD s1 x1 t1 y1) (frD s1 x1 t1 y1 * frD s2 x2 t2 y2))), .slice G6 g6 h6, .bool (nOf (resD (frN s1 x1 t1 y1 * frD s2 x2 t2 y2 - frN s2 x2 t2 y2 * frD s1 x1 t1 y1) (frD s1 x1 t1 y1 * frD s2 x2 t2 y2))), .slice I6 i6 j6] 26))
    have Y5 := Lib.hid (Y5.out.alloc (.cells #[.bool (nOf (resN (frN s1 x1 t1 y1 * frD s2 x2 t2 y2 - frN s2 x2 t2 y2 * frD s1 x1 t1 y1) (frD s1 x1 t1 y1 * frD s2 x2 t2 y2))), .slice G6 g6 h6, .bool (nOf (resD (frN s1 x1 t1 y1 * frD s2 x2 t2 y2 - frN s2 x2 t2 y2 * frD s1 x1 t1 y1) (frD s1 x1 t1 y1 * frD s2 x2 t2 y2))), .slice I6 i6 j6] 26))
    have U6 := Lib.hid (U6.out.alloc (.cells #[.bool (nOf (resN (frN s1 x1 t1 y1 * frD s2 x2 t2 y2 - frN s2 x2 t2 y2 * frD s1 x1 t1 y1) (frD s1 x1 t1 y1 * frD s2 x2 t2 y2))), .slice G6 g6 h6, .bool (nOf (resD (frN s1 x1 t1 y1 * frD s2 x2 t2 y2 - frN s2 x2 t2 y2 * frD s1 x1 t1 y1) (frD s1 x1 t1 y1 * frD s2 x2 t2 y2))), .slice I6 i6 j6] 26))
    have V6 := Lib.hid (V6.out.alloc (.cells #[.bool (nOf (resN (frN s1 x1 t1 y1 * frD s2 x2 t2 y2 - frN s2 x2 t2 y2 * frD s1 x1 t1 y1) (frD s1 x1 t1 y1 * frD s2 x2 t2 y2))), .slice G6 g6 h6, .bool (nOf (resD (frN s1 x1 t1 y1 * frD s2 x2 t2 y2 - frN s2 x2 t2 y2 * frD s1 x1 t1 y1) (frD s1 x1 t1 y1 * frD s2 x2 t2 y2))), .slice I6 i6 j6] 26))
    have Y6 := Lib.hid (Bk.new 26 w6 #[.bool (nOf (resN (frN s1 x1 t1 y1 * frD s2 x2 t2 y2 - frN s2 x2 t2 y2 * frD s1 x1 t1 y1) (frD s1 x1 t1 y1 * frD s2 x2 t2 y2))), .slice G6 g6 h6, .bool (nOf (resD (frN s1 x1 t1 y1 * frD s2 x2 t2 y2 - frN s2 x2 t2 y2 * frD s1 x1 t1 y1) (frD s1 x1 t1 y1 * frD s2 x2 t2 y2))), .slice I6 i6 j6])
    generalize (w6.alloc (.cells #[.bool (nOf (resN (frN s1 x1 t1 y1 * frD s2 x2 t2 y2 - frN s2 x2 t2 y2 * frD s1 x1 t1 y1) (frD s1 x1 t1 y1 * frD s2 x2 t2 y2))), .slice G6 g6 h6, .bool (nOf (resD (frN s1 x1 t1 y1 * frD s2 x2 t2 y2 - frN s2 x2 t2 y2 * frD s1 x1 t1 y1) (frD s1 x1 t1 y1 * frD s2 x2 t2 y2))), .slice I6 i6 j6] 26)) = W6 at *
    clear X1 X2
    have bb0 : (resB (frN s1 x1 t1 y1 * frD s2 x2 t2 y2 + frN s2 x2 t2 y2 * frD s1 x1 t1 y1) (frD s1 x1 t1 y1 * frD s2 x2 t2 y2) == resB (frN s1 x1 t1 y1 * frD s2 x2 t2 y2 + frN s2 x2 t2 y2 * frD s1 x1 t1 y1) (frD s1 x1 t1 y1 * frD s2 x2 t2 y2)) = true := beq_self_eq_true _
    have bb1 : (resB (frN s1 x1 t1 y1 * frD s2 x2 t2 y2 - frN s2 x2 t2 y2 * frD s1 x1 t1 y1) (frD s1 x1 t1 y1 * frD s2 x2 t2 y2) == resB (frN s1 x1 t1 y1 * frD s2 x2 t2 y2 - frN s2 x2 t2 y2 * frD s1 x1 t1 y1) (frD s1 x1 t1 y1 * frD s2 x2 t2 y2)) = true := beq_self_eq_true _
    have e0 : W6.cell? ⟨w3.heap.size, 0, none⟩ = some (.bool (nOf (resN (frN s1 x1 t1 y1 * frD s2 x2 t2 y2 + frN s2 x2 t2 y2 * frD s1 x1 t1 y1) (frD s1 x1 t1 y1 * frD s2 x2 t2 y2)))) := Y3.out.c 0 rfl
    have e1 : W6.cell? ⟨w3.heap.size, 1, none⟩ = some (.slice G3 g3 h3) := Y3.out.c 1 rfl
    have e2 : W6.cell? ⟨w3.heap.size, 2, none⟩ = some (.bool (nOf (resD (frN s1 x1 t1 y1 * frD s2 x2 t2 y2 + frN s2 x2 t2 y2 * frD s1 x1 t1 y1) (frD s1 x1 t1 y1 * frD s2 x2 t2 y2)))) := Y3.out.c 2 rfl
    have e3 : W6.cell? ⟨w3.heap.size, 3, none⟩ = some (.slice I3 i3 j3) := Y3.out.c 3 rfl
    have e4 : W6.cell? ⟨w4.heap.size, 0, none⟩ = some (.bool (nOf (resN (frN s1 x1 t1 y1 * frD s2 x2 t2 y2 + frN s2 x2 t2 y2 * frD s1 x1 t1 y1) (frD s1 x1 t1 y1 * frD s2 x2 t2 y2)))) := Y4.out.c 0 rfl
    have e5 : W6.cell? ⟨w4.heap.size, 1, none⟩ = some (.slice G4 g4 h4) := Y4.out.c 1 rfl
    have e6 : W6.cell? ⟨w4.heap.size, 2, none⟩ = some (.bool (nOf (resD (frN s1 x1 t1 y1 * frD s2 x2 t2 y2 + frN s2 x2 t2 y2 * frD s1 x1 t1 y1) (frD s1 x1 t1 y1 * frD s2 x2 t2 y2)))) := Y4.out.c 2 rfl
    have e7 : W6.cell? ⟨w4.heap.size, 3, none⟩ = some (.slice I4 i4 j4) := Y4.out.c 3 rfl
    have e8 : W6.cell? ⟨w5.heap.size, 0, none⟩ = some (.bool (nOf (resN (frN s1 x1 t1 y1 * frD s2 x2 t2 y2 - frN s2 x2 t2 y2 * frD s1 x1 t1 y1) (frD s1 x1 t1 y1 * frD s2 x2 t2 y2)))) := Y5.out.c 0 rfl
    have e9 : W6.cell? ⟨w5.heap.size, 1, none⟩ = some (.slice G5 g5 h5) := Y5.out.c 1 rfl
    have e10 : W6.cell? ⟨w5.heap.size, 2, none⟩ = some (.bool (nOf (resD (frN s1 x1 t1 y1 * frD s2 x2 t2 y2 - frN s2 x2 t2 y2 * frD s1 x1 t1 y1) (frD s1 x1 t1 y1 * frD s2 x2 t2 y2)))) := Y5.out.c 2 rfl
    have e11 : W6.cell? ⟨w5.heap.size, 3, none⟩ = some (.slice I5 i5 j5) := Y5.out.c 3 rfl
    have e12 : W6.cell? ⟨w6.heap.size, 0, none⟩ = some (.bool (nOf (resN (frN s1 x1 t1 y1 * frD s2 x2 t2 y2 - frN s2 x2 t2 y2 * frD s1 x1 t1 y1) (frD s1 x1 t1 y1 * frD s2 x2 t2 y2)))) := Y6.out.c 0 rfl
    have e13 : W6.cell? ⟨w6.heap.size, 1, none⟩ = some (.slice G6 g6 h6) := Y6.out.c 1 rfl
    have e14 : W6.cell? ⟨w6.heap.size, 2, none⟩ = some (.bool (nOf (resD (frN s1 x1 t1 y1 * frD s2 x2 t2 y2 - frN s2 x2 t2 y2 * frD s1 x1 t1 y1) (frD s1 x1 t1 y1 * frD s2 x2 t2 y2)))) := Y6.out.c 2 rfl
    have e15 : W6.cell? ⟨w6.heap.size, 3, none⟩ = some (.slice I6 i6 j6) := Y6.out.c 3 rfl
    go_wp2_with fail
    ((with_reducible refine (samer_ok (resN (frN s1 x1 t1 y1 * frD s2 x2 t2 y2 + frN s2 x2 t2 y2 * frD s1 x1 t1 y1) (frD s1 x1 t1 y1 * frD s2 x2 t2 y2)) (resD (frN s1 x1 t1 y1 * frD s2 x2 t2 y2 + frN s2 x2 t2 y2 * frD s1 x1 t1 y1) (frD s1 x1 t1 y1 * frD s2 x2 t2 y2)) (resN (frN s1 x1 t1 y1 * frD s2 x2 t2 y2 + frN s2 x2 t2 y2 * frD s1 x1 t1 y1) (frD s1 x1 t1 y1 * frD s2 x2 t2 y2)) (resD (frN s1 x1 t1 y1 * frD s2 x2 t2 y2 + frN s2 x2 t2 y2 * frD s1 x1 t1 y1) (frD s1 x1 t1 y1 * frD s2 x2 t2 y2)) G3 I3 G4 I4 g3 h3 i3 j3 g4 h4 i4 j4 _ U3.out V3.out U4.out V4.out rfl rfl).mono ?_); rintro e v1 ⟨rfl, hb⟩)
    clear e0 e1 e2 e3 e4 e5 e6 e7 e8 e9 e10 e11 e12 e13 e14 e15
    have S1 := Lib.hid (S1.out.below hb)
    have T1 := Lib.hid (T1.out.below hb)
    have S2 := Lib.hid (S2.out.below hb)
    have T2 := Lib.hid (T2.out.below hb)
    have TB := Lib.hid (tab_on TB.out hb)
    have BW := Lib.hid (below_on BW.out hb)
    have U3 := Lib.hid (U3.out.below hb)
    have V3 := Lib.hid (V3.out.below hb)
    have Y3 := Lib.hid (Y3.out.below hb)
    have U4 := Lib.hid (U4.out.below hb)
    have V4 := Lib.hid (V4.out.below hb)
    have Y4 := Lib.hid (Y4.out.below hb)
    have U5 := Lib.hid (U5.out.below hb)
    have V5 := Lib.hid (V5.out.below hb)
    have Y5 := Lib.hid (Y5.out.below hb)
    have U6 := Lib.hid (U6.out.below hb)
    have V6 := Lib.hid (V6.out.below hb)
    have Y6 := Lib.hid (Y6.out.below hb)
    clear hb
    have e0 : v1.cell? ⟨w3.heap.size, 0, none⟩ = some (.bool (nOf (resN (frN s1 x1 t1 y1 * frD s2 x2 t2 y2 + frN s2 x2 t2 y2 * frD s1 x1 t1 y1) (frD s1 x1 t1 y1 * frD s2 x2 t2 y2)))) := Y3.out.c 0 rfl
    have e1 : v1.cell? ⟨w3.heap.size, 1, none⟩ = some (.slice G3 g3 h3) := Y3.out.c 1 rfl
    have e2 : v1.cell? ⟨w3.heap.size, 2, none⟩ = some (.bool (nOf (resD (frN s1 x1 t1 y1 * frD s2 x2 t2 y2 + frN s2 x2 t2 y2 * frD s1 x1 t1 y1) (frD s1 x1 t1 y1 * frD s2 x2 t2 y2)))) := Y3.out.c 2 rfl
    have e3 : v1.cell? ⟨w3.heap.size, 3, none⟩ = some (.slice I3 i3 j3) := Y3.out.c 3 rfl
    have e4 : v1.cell? ⟨w4.heap.size, 0, none⟩ = some (.bool (nOf (resN (frN s1 x1 t1 y1 * frD s2 x2 t2 y2 + frN s2 x2 t2 y2 * frD s1 x1 t1 y1) (frD s1 x1 t1 y1 * frD s2 x2 t2 y2)))) := Y4.out.c 0 rfl
    have e5 : v1.cell? ⟨w4.heap.size, 1, none⟩ = some (.slice G4 g4 h4) := Y4.out.c 1 rfl
    have e6 : v1.cell? ⟨w4.heap.size, 2, none⟩ = some (.bool (nOf (resD (frN s1 x1 t1 y1 * frD s2 x2 t2 y2 + frN s2 x2 t2 y2 * frD s1 x1 t1 y1) (frD s1 x1 t1 y1 * frD s2 x2 t2 y2)))) := Y4.out.c 2 rfl
    have e7 : v1.cell? ⟨w4.heap.size, 3, none⟩ = some (.slice I4 i4 j4) := Y4.out.c 3 rfl
    have e8 : v1.cell? ⟨w5.heap.size, 0, none⟩ = some (.bool (nOf (resN (frN s1 x1 t1 y1 * frD s2 x2 t2 y2 - frN s2 x2 t2 y2 * frD s1 x1 t1 y1) (frD s1 x1 t1 y1 * frD s2 x2 t2 y2)))) := Y5.out.c 0 rfl
    have e9 : v1.cell? ⟨w5.heap.size, 1, none⟩ = some (.slice G5 g5 h5) := Y5.out.c 1 rfl
    have e10 : v1.cell? ⟨w5.heap.size, 2, none⟩ = some (.bool (nOf (resD (frN s1 x1 t1 y1 * frD s2 x2 t2 y2 - frN s2 x2 t2 y2 * frD s1 x1 t1 y1) (frD s1 x1 t1 y1 * frD s2 x2 t2 y2)))) := Y5.out.c 2 rfl
    have e11 : v1.cell? ⟨w5.heap.size, 3, none⟩ = some (.slice I5 i5 j5) := Y5.out.c 3 rfl
    have e12 : v1.cell? ⟨w6.heap.size, 0, none⟩ = some (.bool (nOf (resN (frN s1 x1 t1 y1 * frD s2 x2 t2 y2 - frN s2 x2 t2 y2 * frD s1 x1 t1 y1) (frD s1 x1 t1 y1 * frD s2 x2 t2 y2)))) := Y6.out.c 0 rfl
    have e13 : v1.cell? ⟨w6.heap.size, 1, none⟩ = some (.slice G6 g6 h6) := Y6.out.c 1 rfl
    have e14 : v1.cell? ⟨w6.heap.size, 2, none⟩ = some (.bool (nOf (resD (frN s1 x1 t1 y1 * frD s2 x2 t2 y2 - frN s2 x2 t2 y2 * frD s1 x1 t1 y1) (frD s1 x1 t1 y1 * frD s2 x2 t2 y2)))) := Y6.out.c 2 rfl
    have e15 : v1.cell? ⟨w6.heap.size, 3, none⟩ = some (.slice I6 i6 j6) := Y6.out.c 3 rfl
    go_wp2_with fail
    ((with_reducible refine (samer_ok (resN (frN s1 x1 t1 y1 * frD s2 x2 t2 y2 - frN s2 x2 t2 y2 * frD s1 x1 t1 y1) (frD s1 x1 t1 y1 * frD s2 x2 t2 y2)) (resD (frN s1 x1 t1 y1 * frD s2 x2 t2 y2 - frN s2 x2 t2 y2 * frD s1 x1 t1 y1) (frD s1 x1 t1 y1 * frD s2 x2 t2 y2)) (resN (frN s1 x1 t1 y1 * frD s2 x2 t2 y2 - frN s2 x2 t2 y2 * frD s1 x1 t1 y1) (frD s1 x1 t1 y1 * frD s2 x2 t2 y2)) (resD (frN s1 x1 t1 y1 * frD s2 x2 t2 y2 - frN s2 x2 t2 y2 * frD s1 x1 t1 y1) (frD s1 x1 t1 y1 * frD s2 x2 t2 y2)) G5 I5 G6 I6 g5 h5 i5 j5 g6 h6 i6 j6 _ U5.out V5.out U6.out V6.out rfl rfl).mono ?_); rintro e v2 ⟨rfl, hb⟩)
    clear e0 e1 e2 e3 e4 e5 e6 e7 e8 e9 e10 e11 e12 e13 e14 e15
    have S1 := Lib.hid (S1.out.below hb)
    have T1 := Lib.hid (T1.out.below hb)
    have S2 := Lib.hid (S2.out.below hb)
    have T2 := Lib.hid (T2.out.below hb)
    have TB := Lib.hid (tab_on TB.out hb)
    have BW := Lib.hid (below_on BW.out hb)
    have U3 := Lib.hid (U3.out.below hb)
    have V3 := Lib.hid (V3.out.below hb)
    have Y3 := Lib.hid (Y3.out.below hb)
    have U4 := Lib.hid (U4.out.below hb)
    have V4 := Lib.hid (V4.out.below hb)
    have Y4 := Lib.hid (Y4.out.below hb)
    have U5 := Lib.hid (U5.out.below hb)
    have V5 := Lib.hid (V5.out.below hb)
    have Y5 := Lib.hid (Y5.out.below hb)
    have U6 := Lib.hid (U6.out.below hb)
    have V6 := Lib.hid (V6.out.below hb)
    have Y6 := Lib.hid (Y6.out.below hb)
    clear hb
    have e0 : v2.cell? ⟨w3.heap.size, 0, none⟩ = some (.bool (nOf (resN (frN s1 x1 t1 y1 * frD s2 x2 t2 y2 + frN s2 x2 t2 y2 * frD s1 x1 t1 y1) (frD s1 x1 t1 y1 * frD s2 x2 t2 y2)))) := Y3.out.c 0 rfl
    have e1 : v2.cell? ⟨w3.heap.size, 1, none⟩ = some (.slice G3 g3 h3) := Y3.out.c 1 rfl
    have e2 : v2.cell? ⟨w3.heap.size, 2, none⟩ = some (.bool (nOf (resD (frN s1 x1 t1 y1 * frD s2 x2 t2 y2 + frN s2 x2 t2 y2 * frD s1 x1 t1 y1) (frD s1 x1 t1 y1 * frD s2 x2 t2 y2)))) := Y3.out.c 2 rfl
    have e3 : v2.cell? ⟨w3.heap.size, 3, none⟩ = some (.slice I3 i3 j3) := Y3.out.c 3 rfl
    have e4 : v2.cell? ⟨w4.heap.size, 0, none⟩ = some (.bool (nOf (resN (frN s1 x1 t1 y1 * frD s2 x2 t2 y2 + frN s2 x2 t2 y2 * frD s1 x1 t1 y1) (frD s1 x1 t1 y1 * frD s2 x2 t2 y2)))) := Y4.out.c 0 rfl
    have e5 : v2.cell? ⟨w4.heap.size, 1, none⟩ = some (.slice G4 g4 h4) := Y4.out.c 1 rfl
    have e6 : v2.cell? ⟨w4.heap.size, 2, none⟩ = some (.bool (nOf (resD (frN s1 x1 t1 y1 * frD s2 x2 t2 y2 + frN s2 x2 t2 y2 * frD s1 x1 t1 y1) (frD s1 x1 t1 y1 * frD s2 x2 t2 y2)))) := Y4.out.c 2 rfl
    have e7 : v2.cell? ⟨w4.heap.size, 3, none⟩ = some (.slice I4 i4 j4) := Y4.out.c 3 rfl
    have e8 : v2.cell? ⟨w5.heap.size, 0, none⟩ = some (.bool (nOf (resN (frN s1 x1 t1 y1 * frD s2 x2 t2 y2 - frN s2 x2 t2 y2 * frD s1 x1 t1 y1) (frD s1 x1 t1 y1 * frD s2 x2 t2 y2)))) := Y5.out.c 0 rfl
    have e9 : v2.cell? ⟨w5.heap.size, 1, none⟩ = some (.slice G5 g5 h5) := Y5.out.c 1 rfl
    have e10 : v2.cell? ⟨w5.heap.size, 2, none⟩ = some (.bool (nOf (resD (frN s1 x1 t1 y1 * frD s2 x2 t2 y2 - frN s2 x2 t2 y2 * frD s1 x1 t1 y1) (frD s1 x1 t1 y1 * frD s2 x2 t2 y2)))) := Y5.out.c 2 rfl
    have e11 : v2.cell? ⟨w5.heap.size, 3, none⟩ = some (.slice I5 i5 j5) := Y5.out.c 3 rfl
    have e12 : v2.cell? ⟨w6.heap.size, 0, none⟩ = some (.bool (nOf (resN (frN s1 x1 t1 y1 * frD s2 x2 t2 y2 - frN s2 x2 t2 y2 * frD s1 x1 t1 y1) (frD s1 x1 t1 y1 * frD s2 x2 t2 y2)))) := Y6.out.c 0 rfl
    have e13 : v2.cell? ⟨w6.heap.size, 1, none⟩ = some (.slice G6 g6 h6) := Y6.out.c 1 rfl
    have e14 : v2.cell? ⟨w6.heap.size, 2, none⟩ = some (.bool (nOf (resD (frN s1 x1 t1 y1 * frD s2 x2 t2 y2 - frN s2 x2 t2 y2 * frD s1 x1 t1 y1) (frD s1 x1 t1 y1 * frD s2 x2 t2 y2)))) := Y6.out.c 2 rfl
    have e15 : v2.cell? ⟨w6.heap.size, 3, none⟩ = some (.slice I6 i6 j6) := Y6.out.c 3 rfl
    go_wp2_with fail
    ((with_reducible refine (awake3_any _ TB.out).mono ?_); rintro e v3 ⟨rfl, hb⟩)
    clear e0 e1 e2 e3 e4 e5 e6 e7 e8 e9 e10 e11 e12 e13 e14 e15
    have S1 := Lib.hid (S1.out.below hb)
    have T1 := Lib.hid (T1.out.below hb)
    have S2 := Lib.hid (S2.out.below hb)
    have T2 := Lib.hid (T2.out.below hb)
    have TB := Lib.hid (tab_on TB.out hb)
    have BW := Lib.hid (below_on BW.out hb)
    have U3 := Lib.hid (U3.out.below hb)
    have V3 := Lib.hid (V3.out.below hb)
    have Y3 := Lib.hid (Y3.out.below hb)
    have U4 := Lib.hid (U4.out.below hb)
    have V4 := Lib.hid (V4.out.below hb)
    have Y4 := Lib.hid (Y4.out.below hb)
    have U5 := Lib.hid (U5.out.below hb)
    have V5 := Lib.hid (V5.out.below hb)
    have Y5 := Lib.hid (Y5.out.below hb)
    have U6 := Lib.hid (U6.out.below hb)
    have V6 := Lib.hid (V6.out.below hb)
    have Y6 := Lib.hid (Y6.out.below hb)
    clear hb
    go_wp2_with fail
    go_ret
    exact ⟨rfl, BW.out⟩
  · have HL := Lib.hid hl
    clear hl
    have BW := Lib.hid (Below.refl w.heap.size w)
    go_enter Tryz.func3, Tryz.ntmps3
    go_upto_region 1 with fail
    have S1 := Lib.hid (S1.out.alloc (.cells #[.bool s1, .slice A1 n1 c1, .bool t1, .slice B1 m1 d1] 26))
    have T1 := Lib.hid (T1.out.alloc (.cells #[.bool s1, .slice A1 n1 c1, .bool t1, .slice B1 m1 d1] 26))
    have S2 := Lib.hid (S2.out.alloc (.cells #[.bool s1, .slice A1 n1 c1, .bool t1, .slice B1 m1 d1] 26))
    have T2 := Lib.hid (T2.out.alloc (.cells #[.bool s1, .slice A1 n1 c1, .bool t1, .slice B1 m1 d1] 26))
    have TB := Lib.hid (tab_on TB.out ((Below.refl _ _).alloc (Nat.le_refl _) (.cells #[.bool s1, .slice A1 n1 c1, .bool t1, .slice B1 m1 d1] 26)))
    have BW := Lib.hid (BW.out.alloc BW.out.size (.cells #[.bool s1, .slice A1 n1 c1, .bool t1, .slice B1 m1 d1] 26))
    have X1 := Lib.hid (Bk.new 26 w #[.bool s1, .slice A1 n1 c1, .bool t1, .slice B1 m1 d1])
    have S1 := Lib.hid (S1.out.alloc (.cells #[.bool s2, .slice A2 n2 c2, .bool t2, .slice B2 m2 d2] 26))
    have T1 := Lib.hid (T1.out.alloc (.cells #[.bool s2, .slice A2 n2 c2, .bool t2, .slice B2 m2 d2] 26))
    have S2 := Lib.hid (S2.out.alloc (.cells #[.bool s2, .slice A2 n2 c2, .bool t2, .slice B2 m2 d2] 26))
    have T2 := Lib.hid (T2.out.alloc (.cells #[.bool s2, .slice A2 n2 c2, .bool t2, .slice B2 m2 d2] 26))
    have TB := Lib.hid (tab_on TB.out ((Below.refl _ _).alloc (Nat.le_refl _) (.cells #[.bool s2, .slice A2 n2 c2, .bool t2, .slice B2 m2 d2] 26)))
    have BW := Lib.hid (BW.out.alloc BW.out.size (.cells #[.bool s2, .slice A2 n2 c2, .bool t2, .slice B2 m2 d2] 26))
    have X1 := Lib.hid (X1.out.alloc (.cells #[.bool s2, .slice A2 n2 c2, .bool t2, .slice B2 m2 d2] 26))
    have X2 := Lib.hid (Bk.new 26 (w.alloc (.cells #[.bool s1, .slice A1 n1 c1, .bool t1, .slice B1 m1 d1] 26)) #[.bool s2, .slice A2 n2 c2, .bool t2, .slice B2 m2 d2])
    rw [alloc_sz] at X2
    generalize ((w.alloc (.cells #[.bool s1, .slice A1 n1 c1, .bool t1, .slice B1 m1 d1] 26)).alloc (.cells #[.bool s2, .slice A2 n2 c2, .bool t2, .slice B2 m2 d2] 26)) = W0 at *
    have e0 : W0.cell? ⟨w.heap.size, 0, none⟩ = some (.bool s1) := X1.out.c 0 rfl
    have e1 : W0.cell? ⟨w.heap.size, 1, none⟩ = some (.slice A1 n1 c1) := X1.out.c 1 rfl
    have e2 : W0.cell? ⟨w.heap.size, 2, none⟩ = some (.bool t1) := X1.out.c 2 rfl
    have e3 : W0.cell? ⟨w.heap.size, 3, none⟩ = some (.slice B1 m1 d1) := X1.out.c 3 rfl
    have e4 : W0.cell? ⟨w.heap.size + 1, 0, none⟩ = some (.bool s2) := X2.out.c 0 rfl
    have e5 : W0.cell? ⟨w.heap.size + 1, 1, none⟩ = some (.slice A2 n2 c2) := X2.out.c 1 rfl
    have e6 : W0.cell? ⟨w.heap.size + 1, 2, none⟩ = some (.bool t2) := X2.out.c 2 rfl
    have e7 : W0.cell? ⟨w.heap.size + 1, 3, none⟩ = some (.slice B2 m2 d2) := X2.out.c 3 rfl
    go_wp2_with fail
    clear e0 e1 e2 e3 e4 e5 e6 e7
    have ln1 := X1.out.lt
    have ln2 := X2.out.lt
    have S1 := Lib.hid (S1.out.alloc (.cells #[.bool s1, .slice A1 n1 c1, .bool t1, .slice B1 m1 d1, .bool s2, .slice A2 n2 c2, .bool t2, .slice B2 m2 d2] 26))
    have T1 := Lib.hid (T1.out.alloc (.cells #[.bool s1, .slice A1 n1 c1, .bool t1, .slice B1 m1 d1, .bool s2, .slice A2 n2 c2, .bool t2, .slice B2 m2 d2] 26))
    have S2 := Lib.hid (S2.out.alloc (.cells #[.bool s1, .slice A1 n1 c1, .bool t1, .slice B1 m1 d1, .bool s2, .slice A2 n2 c2, .bool t2, .slice B2 m2 d2] 26))
    have T2 := Lib.hid (T2.out.alloc (.cells #[.bool s1, .slice A1 n1 c1, .bool t1, .slice B1 m1 d1, .bool s2, .slice A2 n2 c2, .bool t2, .slice B2 m2 d2] 26))
    have TB := Lib.hid (tab_on TB.out ((Below.refl _ _).alloc (Nat.le_refl _) (.cells #[.bool s1, .slice A1 n1 c1, .bool t1, .slice B1 m1 d1, .bool s2, .slice A2 n2 c2, .bool t2, .slice B2 m2 d2] 26)))
    have BW := Lib.hid (BW.out.alloc BW.out.size (.cells #[.bool s1, .slice A1 n1 c1, .bool t1, .slice B1 m1 d1, .bool s2, .slice A2 n2 c2, .bool t2, .slice B2 m2 d2] 26))
    have X1 := Lib.hid (X1.out.alloc (.cells #[.bool s1, .slice A1 n1 c1, .bool t1, .slice B1 m1 d1, .bool s2, .slice A2 n2 c2, .bool t2, .slice B2 m2 d2] 26))
    have X2 := Lib.hid (X2.out.alloc (.cells #[.bool s1, .slice A1 n1 c1, .bool t1, .slice B1 m1 d1, .bool s2, .slice A2 n2 c2, .bool t2, .slice B2 m2 d2] 26))
    have XL := Lib.hid (Bk.new 26 W0 #[.bool s1, .slice A1 n1 c1, .bool t1, .slice B1 m1 d1, .bool s2, .slice A2 n2 c2, .bool t2, .slice B2 m2 d2])
    generalize (W0.alloc (.cells #[.bool s1, .slice A1 n1 c1, .bool t1, .slice B1 m1 d1, .bool s2, .slice A2 n2 c2, .bool t2, .slice B2 m2 d2] 26)) = WL at *
    have e0 : WL.cell? ⟨w.heap.size, 0, none⟩ = some (.bool s1) := X1.out.c 0 rfl
    have e1 : WL.cell? ⟨w.heap.size, 1, none⟩ = some (.slice A1 n1 c1) := X1.out.c 1 rfl
    have e2 : WL.cell? ⟨w.heap.size, 2, none⟩ = some (.bool t1) := X1.out.c 2 rfl
    have e3 : WL.cell? ⟨w.heap.size, 3, none⟩ = some (.slice B1 m1 d1) := X1.out.c 3 rfl
    have e4 : WL.cell? ⟨w.heap.size + 1, 0, none⟩ = some (.bool s2) := X2.out.c 0 rfl
    have e5 : WL.cell? ⟨w.heap.size + 1, 1, none⟩ = some (.slice A2 n2 c2) := X2.out.c 1 rfl
    have e6 : WL.cell? ⟨w.heap.size + 1, 2, none⟩ = some (.bool t2) := X2.out.c 2 rfl
    have e7 : WL.cell? ⟨w.heap.size + 1, 3, none⟩ = some (.slice B2 m2 d2) := X2.out.c 3 rfl
    ((with_reducible refine (light2_any W0.heap.size s1 t1 A1 B1 n1 c1 m1 d1 s2 t2 A2 B2 n2 c2 m2 d2 _ XL.out).mono ?_); rintro e w1 ⟨rfl, hb⟩)
    rw [HL.out]
    clear e0 e1 e2 e3 e4 e5 e6 e7
    have S1 := Lib.hid (S1.out.below hb)
    have T1 := Lib.hid (T1.out.below hb)
    have S2 := Lib.hid (S2.out.below hb)
    have T2 := Lib.hid (T2.out.below hb)
    have TB := Lib.hid (tab_on TB.out hb)
    have BW := Lib.hid (below_on BW.out hb)
    have X1 := Lib.hid (X1.out.below hb)
    have X2 := Lib.hid (X2.out.below hb)
    have XL := Lib.hid (XL.out.below hb)
    clear hb
    clear XL
    have e0 : w1.cell? ⟨w.heap.size, 0, none⟩ = some (.bool s1) := X1.out.c 0 rfl
    have e1 : w1.cell? ⟨w.heap.size, 1, none⟩ = some (.slice A1 n1 c1) := X1.out.c 1 rfl
    have e2 : w1.cell? ⟨w.heap.size, 2, none⟩ = some (.bool t1) := X1.out.c 2 rfl
    have e3 : w1.cell? ⟨w.heap.size, 3, none⟩ = some (.slice B1 m1 d1) := X1.out.c 3 rfl
    have e4 : w1.cell? ⟨w.heap.size + 1, 0, none⟩ = some (.bool s2) := X2.out.c 0 rfl
    have e5 : w1.cell? ⟨w.heap.size + 1, 1, none⟩ = some (.slice A2 n2 c2) := X2.out.c 1 rfl
    have e6 : w1.cell? ⟨w.heap.size + 1, 2, none⟩ = some (.bool t2) := X2.out.c 2 rfl
    have e7 : w1.cell? ⟨w.heap.size + 1, 3, none⟩ = some (.slice B2 m2 d2) := X2.out.c 3 rfl
    go_wp2_with fail
    ((with_reducible refine (awake3_any _ TB.out).mono ?_); rintro e w9 ⟨rfl, hb⟩)
    clear e0 e1 e2 e3 e4 e5 e6 e7
    have S1 := Lib.hid (S1.out.below hb)
    have T1 := Lib.hid (T1.out.below hb)
    have S2 := Lib.hid (S2.out.below hb)
    have T2 := Lib.hid (T2.out.below hb)
    have TB := Lib.hid (tab_on TB.out hb)
    have BW := Lib.hid (below_on BW.out hb)
    have X1 := Lib.hid (X1.out.below hb)
    have X2 := Lib.hid (X2.out.below hb)
    clear hb
    go_wp2_with fail
    go_ret
    exact ⟨rfl, BW.out⟩

set_option maxRecDepth 100000 in
theorem contract (H : Type) (enc : TypeId × Value → H) (W : World) (base : Nat) (args : Array Value) (ds gs : List (DataW H)) (before : List MemPlace)
    (hval : ∀ (j : Nat) t v, Tryz.f3.params[j]? = some t → args[j]? = some v → Value.okWide Tryz.prog W .any base t v)
    (hW : DataW.Whole enc Tryz.prog Tryz.f3.params.toList Rows.ratAddsSpec.vars false W args.toList ds gs before) (hL : laidMetH Tryz.prog Rows.ratAddsRow.laid W) :
    Calls Tryz.prog 3 args W fun e W' => ∃ v, e = .returned v ∧ Rows.ratAddsSpec.post enc Tryz.prog Tryz.f3 false true false false W args v W' := by
  have hW' := hW
  obtain ⟨p, q, hA0, hV, rfl, hfz, hnd⟩ := hW
  have hA : DataW.TrodAll enc Tryz.prog W 0 (fun _ => true) true Tryz.f3.params.toList args.toList ds p := hA0
  have hlt : ∀ x ∈ p, x.block < W.heap.size := fun x hx => hW'.lt x (by simp [hx])
  have hAll := hA
  rw [Tryz.params3] at hA hval
  obtain ⟨v0, vs0, d0, ds0, p0, q0, hargs, rfl, rfl, h0, r0⟩ := trodAll_cons hA
  obtain ⟨v1, vs1, d1, ds1, p1, q1, rfl, rfl, rfl, h1, r1⟩ := trodAll_cons r0
  obtain ⟨rfl, rfl, rfl⟩ := trodAll_nil r1
  obtain rfl : args = #[v0, v1] := by cases args; simp_all
  obtain ⟨rfl, rfl⟩ := trodVars_none hV
  obtain ⟨s1, A1, n1, c1, x1, t1, B1, m1, d1', y1, rfl, g1, k1⟩ := open_rat (hval 0 26 v0 rfl rfl) h0
  obtain ⟨s2, A2, n2, c2, x2, t2, B2, m2, d2', y2, rfl, g2, k2⟩ := open_rat (hval 1 26 v1 rfl rfl) h1
  refine (walk s1 t1 A1 B1 n1 c1 m1 d1' x1 y1 s2 t2 A2 B2 n2 c2 m2 d2' x2 y2 W g1 k1 g2 k2 (tab_of_laid hL)).mono fun e W' ⟨he, hg⟩ => ?_
  subst he
  refine ⟨_, rfl, _, _, _, [], _, [], hW', trodAll_mk1 (shut_bool Tryz.underlying4 _), trodAll_below hg (fun t ht => ?_) hAll hlt, rfl, hg.frame _, fun h => by cases h⟩
  rw [Tryz.params3] at ht
  simp only [List.mem_cons, List.not_mem_nil, or_false] at ht
  rcases ht with rfl | rfl
  · exact read_rat
  · exact read_rat

set_option maxRecDepth 100000 in
theorem reads (os : Os) {H : Type} (enc : TypeId × Value → H) : ∃ places, DataW.whole enc Tryz.prog ((World.doorLaid Tryz.prog 24 os).forCall (fun _ _ => 0) ⟨#[], #[Value.agg #[.bool false, .slice none 0 0, .bool false, .slice none 0 0], Value.agg #[.bool false, .slice none 0 0, .bool false, .slice none 0 0]], []⟩).memory Tryz.f3.params.toList Rows.ratAddsSpec.vars false #[Value.agg #[.bool false, .slice none 0 0, .bool false, .slice none 0 0], Value.agg #[.bool false, .slice none 0 0, .bool false, .slice none 0 0]].toList 8 = some ([.agg [.agg [.lit (.bool false), .nil], .agg [.lit (.bool false), .nil]], .agg [.agg [.lit (.bool false), .nil], .agg [.lit (.bool false), .nil]]], [], places) :=
  ⟨[], by kernel_rfl⟩

set_option maxRecDepth 100000 in
theorem lifted (os : Os) (started : os.Started) (H : Type) (enc : TypeId × Value → H) (F : Stop.Interp) :
    ReturnsInHanded {} Tryz.checked os 3 .any ((OpenSpec.ofChange Rows.ratAddsSpec).preRow enc Tryz.prog Tryz.f3 Rows.ratAddsRow.domain false Rows.ratAddsRow.laid) (((OpenSpec.ofChange Rows.ratAddsSpec).at F).post enc Tryz.prog Tryz.f3 false true false false) := by
  obtain ⟨places, hx⟩ := reads os enc
  refine returnsInHanded_of_row (C := Tryz.checked) (s := OpenSpec.ofChange Rows.ratAddsSpec) own started (by kernel_rfl) Tryz.func3
    (witness_row_at (enc := enc) (C := Tryz.checked) false (World.doorLaid Tryz.prog 24 os) #[Value.agg #[.bool false, .slice none 0 0, .bool false, .slice none 0 0], Value.agg #[.bool false, .slice none 0 0, .bool false, .slice none 0 0]] rfl (by kernel_rfl) (by kernel_rfl) (by kernel_rfl)
      (OpenSpec.preRow_of_cond 8 hx (by kernel_rfl) (fun k hk => by cases hk) (by kernel_rfl) (laid_met os _))) ?_
  intro W base args ds gs before hval hW _ _ _ hL _ _
  exact contract H enc W base args ds gs before hval hW hL

theorem said : Rows.RatAddsSaid :=
  OpenClaim.holds_of_cond 3 Tryz.f3 rfl rfl rfl rfl rfl rfl rfl ⟨rfl, rfl, rfl, rfl, rfl⟩ rfl rfl rfl rfl rfl (by kernel_rfl) Tryz.func3 (by kernel_rfl)
    (of_decide_eq_true (by kernel_rfl)) (by unfold Func.isWrapper; first | (rw [if_pos (by decide +kernel)]; kernel_rfl) | (rw [if_neg (by decide +kernel)]; exact ⟨rfl, rfl⟩))
    (fun os started H enc _ F => by rw [OpenClaim.pre_eq_preRow]; exact lifted os started H enc F)

theorem plain (f : FuncId) (fn : Func) (hf : Tryz.pinned.checked.prog.funcNamed "liquidcheck/liquidchecklaw03.RatAdds" = some f) (hfn : Tryz.pinned.checked.prog.funcs[f]? = some fn) :
    false = Tryz.pinned.checked.prog.looks [] ∧ ∀ (j : Nat) t, fn.params[j]? = some t → Tryz.pinned.checked.prog.wantsStandIn t = false := by
  obtain rfl : f = 3 := Option.some.inj ((show Tryz.prog.funcNamed "liquidcheck/liquidchecklaw03.RatAdds" = some 3 by kernel_rfl).symm.trans hf) |>.symm
  obtain rfl : fn = Tryz.f3 := (Option.some.inj (Tryz.func3.symm.trans hfn)).symm
  refine ⟨by kernel_rfl, fun j t ht => ?_⟩
  rw [Tryz.params3] at ht
  have hm := Array.mem_of_getElem? ht
  simp only [List.mem_toArray, List.mem_cons, List.not_mem_nil, or_false] at hm
  rcases hm with rfl | rfl
  · exact (show Tryz.prog.wantsStandIn 26 = false by kernel_rfl)
  · exact (show Tryz.prog.wantsStandIn 26 = false by kernel_rfl)

theorem card : Rows.RatAddsCardSaid :=
  Claim7.holds_tied_plain_at .later [] _ _ _ _ said (fun _ h => by cases h) (by kernel_rfl) (fun _ h => by cases h) ratAdds_row_tie rfl ⟨rfl, rfl⟩ (by kernel_rfl) rfl plain (by kernel_rfl)
end Go.Proofs.YtfenmogbellhdaaGreatDoor.ratAdds
