/-
  THE STATEMENT RatCompares IS PROVED: for every two fractions (the listed library tables holding what the program's text lays, tied by the card), the law returns true and its arguments read as before.
-/
import Derived.Test.YtfenmogbellhdaaGreatDoorCards
import Derived.Test.YtfenmogbellhdaaGreatDoorTie
import Derived.Test.YtfenmogbellhdaaGreatDoorRatLaid
import Derived.Test.YtfenmogbellhdaaGreatDoorR3X
import Derived.Test.YtfenmogbellhdaaGreatDoorRatN
import Derived.Test.YtfenmogbellhdaaGreatDoorRatLaid
import Derived.Test.YtfenmogbellhdaaGreatDoorRatFewB
namespace Go.Proofs.YtfenmogbellhdaaGreatDoor.ratCompares
open Go.ChangeShapes Go.WideShapes Go.ChangeAt Go.RowKit
open Go.ChangeMaps (open_string shut_string)


set_option maxRecDepth 100000 in
set_option maxHeartbeats 8000000 in
theorem walk (s1 t1 : Bool) (A1 B1 : Option Addr) (n1 c1 m1 d1 : Nat) (x1 y1 : List Int) (s2 t2 : Bool) (A2 B2 : Option Addr) (n2 c2 m2 d2 : Nat) (x2 y2 : List Int) (w : World) (h1 : Sl w A1 n1 c1 x1) (k1 : Sl w B1 m1 d1 y1) (h2 : Sl w A2 n2 c2 x2) (k2 : Sl w B2 m2 d2 y2) (htab : Tab w) :
    Calls Tryz.prog 4 #[.agg #[.bool s1, .slice A1 n1 c1, .bool t1, .slice B1 m1 d1], .agg #[.bool s2, .slice A2 n2 c2, .bool t2, .slice B2 m2 d2]] w fun e w' => e = .returned (.bool true) ∧ Below w.heap.size w w' := by
  have S1 := Lib.hid h1
  have T1 := Lib.hid k1
  have S2 := Lib.hid h2
  have T2 := Lib.hid k2
  have TB := Lib.hid htab
  have TB0 := Lib.hid htab
  clear h1 k1 h2 k2 htab
  rcases Bool.eq_false_or_eq_true (fewB n1 m1 && fewB n2 m2) with hl | hl
  · have HL := Lib.hid hl
    clear hl
    have BW := Lib.hid (Below.refl w.heap.size w)
    go_enter Tryz.func4, Tryz.ntmps4
    go_upto_region 1 with fail
    have S1 := Lib.hid (S1.out.alloc (.cells #[.bool s1, .slice A1 n1 c1, .bool t1, .slice B1 m1 d1] 26))
    have T1 := Lib.hid (T1.out.alloc (.cells #[.bool s1, .slice A1 n1 c1, .bool t1, .slice B1 m1 d1] 26))
    have S2 := Lib.hid (S2.out.alloc (.cells #[.bool s1, .slice A1 n1 c1, .bool t1, .slice B1 m1 d1] 26))
    have T2 := Lib.hid (T2.out.alloc (.cells #[.bool s1, .slice A1 n1 c1, .bool t1, .slice B1 m1 d1] 26))
    have TB := Lib.hid (tab_on TB.out ((Below.refl _ _).alloc (Nat.le_refl _) (.cells #[.bool s1, .slice A1 n1 c1, .bool t1, .slice B1 m1 d1] 26)))
    have BW := Lib.hid (BW.out.alloc BW.out.size (.cells #[.bool s1, .slice A1 n1 c1, .bool t1, .slice B1 m1 d1] 26))
    have X1 := Lib.hid (Bk.new 26 w #[.bool s1, .slice A1 n1 c1, .bool t1, .slice B1 m1 d1])
    have S1 := Lib.hid (S1.out.alloc (.cells #[.bool s2, .slice A2 n2 c2, .bool t2, .slice B2 m2 d2] 26))
    have T1 := Lib.hid (T1.out.alloc (.cells #[.bool s2, .slice A2 n2 c2, .bool t2, .slice B2 m2 d2] 26))
    have S2 := Lib.hid (S2.out.alloc (.cells #[.bool s2, .slice A2 n2 c2, .bool t2, .slice B2 m2 d2] 26))
    have T2 := Lib.hid (T2.out.alloc (.cells #[.bool s2, .slice A2 n2 c2, .bool t2, .slice B2 m2 d2] 26))
    have TB := Lib.hid (tab_on TB.out ((Below.refl _ _).alloc (Nat.le_refl _) (.cells #[.bool s2, .slice A2 n2 c2, .bool t2, .slice B2 m2 d2] 26)))
    have BW := Lib.hid (BW.out.alloc BW.out.size (.cells #[.bool s2, .slice A2 n2 c2, .bool t2, .slice B2 m2 d2] 26))
    have X1 := Lib.hid (X1.out.alloc (.cells #[.bool s2, .slice A2 n2 c2, .bool t2, .slice B2 m2 d2] 26))
    have X2 := Lib.hid (Bk.new 26 (w.alloc (.cells #[.bool s1, .slice A1 n1 c1, .bool t1, .slice B1 m1 d1] 26)) #[.bool s2, .slice A2 n2 c2, .bool t2, .slice B2 m2 d2])
    rw [alloc_sz] at X2
    generalize ((w.alloc (.cells #[.bool s1, .slice A1 n1 c1, .bool t1, .slice B1 m1 d1] 26)).alloc (.cells #[.bool s2, .slice A2 n2 c2, .bool t2, .slice B2 m2 d2] 26)) = W0 at *
    have e0 : W0.cell? ⟨w.heap.size, 0, none⟩ = some (.bool s1) := X1.out.c 0 rfl
    have e1 : W0.cell? ⟨w.heap.size, 1, none⟩ = some (.slice A1 n1 c1) := X1.out.c 1 rfl
    have e2 : W0.cell? ⟨w.heap.size, 2, none⟩ = some (.bool t1) := X1.out.c 2 rfl
    have e3 : W0.cell? ⟨w.heap.size, 3, none⟩ = some (.slice B1 m1 d1) := X1.out.c 3 rfl
    have e4 : W0.cell? ⟨w.heap.size + 1, 0, none⟩ = some (.bool s2) := X2.out.c 0 rfl
    have e5 : W0.cell? ⟨w.heap.size + 1, 1, none⟩ = some (.slice A2 n2 c2) := X2.out.c 1 rfl
    have e6 : W0.cell? ⟨w.heap.size + 1, 2, none⟩ = some (.bool t2) := X2.out.c 2 rfl
    have e7 : W0.cell? ⟨w.heap.size + 1, 3, none⟩ = some (.slice B2 m2 d2) := X2.out.c 3 rfl
    go_wp2_with fail
    clear e0 e1 e2 e3 e4 e5 e6 e7
    have ln1 := X1.out.lt
    have ln2 := X2.out.lt
    have S1 := Lib.hid (S1.out.alloc (.cells #[.bool s1, .slice A1 n1 c1, .bool t1, .slice B1 m1 d1, .bool s2, .slice A2 n2 c2, .bool t2, .slice B2 m2 d2] 26))
    have T1 := Lib.hid (T1.out.alloc (.cells #[.bool s1, .slice A1 n1 c1, .bool t1, .slice B1 m1 d1, .bool s2, .slice A2 n2 c2, .bool t2, .slice B2 m2 d2] 26))
    have S2 := Lib.hid (S2.out.alloc (.cells #[.bool s1, .slice A1 n1 c1, .bool t1, .slice B1 m1 d1, .bool s2, .slice A2 n2 c2, .bool t2, .slice B2 m2 d2] 26))
    have T2 := Lib.hid (T2.out.alloc (.cells #[.bool s1, .slice A1 n1 c1, .bool t1, .slice B1 m1 d1, .bool s2, .slice A2 n2 c2, .bool t2, .slice B2 m2 d2] 26))
    have TB := Lib.hid (tab_on TB.out ((Below.refl _ _).alloc (Nat.le_refl _) (.cells #[.bool s1, .slice A1 n1 c1, .bool t1, .slice B1 m1 d1, .bool s2, .slice A2 n2 c2, .bool t2, .slice B2 m2 d2] 26)))
    have BW := Lib.hid (BW.out.alloc BW.out.size (.cells #[.bool s1, .slice A1 n1 c1, .bool t1, .slice B1 m1 d1, .bool s2, .slice A2 n2 c2, .bool t2, .slice B2 m2 d2] 26))
    have X1 := Lib.hid (X1.out.alloc (.cells #[.bool s1, .slice A1 n1 c1, .bool t1, .slice B1 m1 d1, .bool s2, .slice A2 n2 c2, .bool t2, .slice B2 m2 d2] 26))
    have X2 := Lib.hid (X2.out.alloc (.cells #[.bool s1, .slice A1 n1 c1, .bool t1, .slice B1 m1 d1, .bool s2, .slice A2 n2 c2, .bool t2, .slice B2 m2 d2] 26))
    have XL := Lib.hid (Bk.new 26 W0 #[.bool s1, .slice A1 n1 c1, .bool t1, .slice B1 m1 d1, .bool s2, .slice A2 n2 c2, .bool t2, .slice B2 m2 d2])
    generalize (W0.alloc (.cells #[.bool s1, .slice A1 n1 c1, .bool t1, .slice B1 m1 d1, .bool s2, .slice A2 n2 c2, .bool t2, .slice B2 m2 d2] 26)) = WL at *
    have e0 : WL.cell? ⟨w.heap.size, 0, none⟩ = some (.bool s1) := X1.out.c 0 rfl
    have e1 : WL.cell? ⟨w.heap.size, 1, none⟩ = some (.slice A1 n1 c1) := X1.out.c 1 rfl
    have e2 : WL.cell? ⟨w.heap.size, 2, none⟩ = some (.bool t1) := X1.out.c 2 rfl
    have e3 : WL.cell? ⟨w.heap.size, 3, none⟩ = some (.slice B1 m1 d1) := X1.out.c 3 rfl
    have e4 : WL.cell? ⟨w.heap.size + 1, 0, none⟩ = some (.bool s2) := X2.out.c 0 rfl
    have e5 : WL.cell? ⟨w.heap.size + 1, 1, none⟩ = some (.slice A2 n2 c2) := X2.out.c 1 rfl
    have e6 : WL.cell? ⟨w.heap.size + 1, 2, none⟩ = some (.bool t2) := X2.out.c 2 rfl
    have e7 : WL.cell? ⟨w.heap.size + 1, 3, none⟩ = some (.slice B2 m2 d2) := X2.out.c 3 rfl
    ((with_reducible refine (light2_any W0.heap.size s1 t1 A1 B1 n1 c1 m1 d1 s2 t2 A2 B2 n2 c2 m2 d2 _ XL.out).mono ?_); rintro e w1 ⟨rfl, hb⟩)
    rw [HL.out]
    clear e0 e1 e2 e3 e4 e5 e6 e7
    have S1 := Lib.hid (S1.out.below hb)
    have T1 := Lib.hid (T1.out.below hb)
    have S2 := Lib.hid (S2.out.below hb)
    have T2 := Lib.hid (T2.out.below hb)
    have TB := Lib.hid (tab_on TB.out hb)
    have BW := Lib.hid (below_on BW.out hb)
    have X1 := Lib.hid (X1.out.below hb)
    have X2 := Lib.hid (X2.out.below hb)
    have XL := Lib.hid (XL.out.below hb)
    clear hb
    clear XL
    obtain ⟨cc, hcc⟩ : ∃ cc, cmpI (frN s1 x1 t1 y1 * frD s2 x2 t2 y2) (frN s2 x2 t2 y2 * frD s1 x1 t1 y1) = cc := ⟨_, rfl⟩
    have HCC := Lib.hid hcc
    clear hcc
    obtain ⟨tb, htb⟩ : ∃ tb : ByteArray, (⟨(rtext (frN s1 x1 t1 y1) (frD s1 x1 t1 y1)).toArray⟩ : ByteArray) = tb := ⟨_, rfl⟩
    have HTX := Lib.hid htb
    clear htb
    go_upto_region 3 with fail
    have e0 : w1.cell? ⟨w.heap.size, 0, none⟩ = some (.bool s1) := X1.out.c 0 rfl
    have e1 : w1.cell? ⟨w.heap.size, 1, none⟩ = some (.slice A1 n1 c1) := X1.out.c 1 rfl
    have e2 : w1.cell? ⟨w.heap.size, 2, none⟩ = some (.bool t1) := X1.out.c 2 rfl
    have e3 : w1.cell? ⟨w.heap.size, 3, none⟩ = some (.slice B1 m1 d1) := X1.out.c 3 rfl
    have e4 : w1.cell? ⟨w.heap.size + 1, 0, none⟩ = some (.bool s2) := X2.out.c 0 rfl
    have e5 : w1.cell? ⟨w.heap.size + 1, 1, none⟩ = some (.slice A2 n2 c2) := X2.out.c 1 rfl
    have e6 : w1.cell? ⟨w.heap.size + 1, 2, none⟩ = some (.bool t2) := X2.out.c 2 rfl
    have e7 : w1.cell? ⟨w.heap.size + 1, 3, none⟩ = some (.slice B2 m2 d2) := X2.out.c 3 rfl
    go_region_held3 (fun w' => w'.cell? ⟨w.heap.size, 0, none⟩ = some (.bool s1) ∧ w'.cell? ⟨w.heap.size, 1, none⟩ = some (.slice A1 n1 c1) ∧ w'.cell? ⟨w.heap.size, 2, none⟩ = some (.bool t1) ∧ w'.cell? ⟨w.heap.size, 3, none⟩ = some (.slice B1 m1 d1) ∧ w'.cell? ⟨w.heap.size + 1, 0, none⟩ = some (.bool s2) ∧ w'.cell? ⟨w.heap.size + 1, 1, none⟩ = some (.slice A2 n2 c2) ∧ w'.cell? ⟨w.heap.size + 1, 2, none⟩ = some (.bool t2) ∧ w'.cell? ⟨w.heap.size + 1, 3, none⟩ = some (.slice B2 m2 d2)) (go_keep)
      (first | (go_at_call 12; (with_reducible refine (rcmp_any s1 t1 s2 t2 A1 B1 A2 B2 n1 c1 m1 d1 n2 c2 m2 d2 x1 y1 x2 y2 _ (by first | exact S1.out | exact S1.out.drew) (by first | exact T1.out | exact T1.out.drew) (by first | exact S2.out | exact S2.out.drew) (by first | exact T2.out | exact T2.out.drew)).mono ?_); rintro e a1 ⟨rfl, hb⟩; rw [HCC.out]; have BB1 := Lib.hid (show Below w1.heap.size w1 a1 from (by first | exact hb | exact (Below.refl _ _).drew.trans (hb.mono (Nat.le_refl _)))); have f0 : a1.cell? ⟨w.heap.size, 0, none⟩ = some (.bool s1) := (X1.out.below BB1.out).c 0 rfl; have f1 : a1.cell? ⟨w.heap.size, 1, none⟩ = some (.slice A1 n1 c1) := (X1.out.below BB1.out).c 1 rfl; have f2 : a1.cell? ⟨w.heap.size, 2, none⟩ = some (.bool t1) := (X1.out.below BB1.out).c 2 rfl; have f3 : a1.cell? ⟨w.heap.size, 3, none⟩ = some (.slice B1 m1 d1) := (X1.out.below BB1.out).c 3 rfl; have f4 : a1.cell? ⟨w.heap.size + 1, 0, none⟩ = some (.bool s2) := (X2.out.below BB1.out).c 0 rfl; have f5 : a1.cell? ⟨w.heap.size + 1, 1, none⟩ = some (.slice A2 n2 c2) := (X2.out.below BB1.out).c 1 rfl; have f6 : a1.cell? ⟨w.heap.size + 1, 2, none⟩ = some (.bool t2) := (X2.out.below BB1.out).c 2 rfl; have f7 : a1.cell? ⟨w.heap.size + 1, 3, none⟩ = some (.slice B2 m2 d2) := (X2.out.below BB1.out).c 3 rfl; clear hb) | (go_at_call 13; (with_reducible refine (r3cmp_any s1 t1 s2 t2 A1 B1 A2 B2 n1 c1 m1 d1 n2 c2 m2 d2 x1 y1 x2 y2 _ (S1.out.below BB1.out) (T1.out.below BB1.out) (S2.out.below BB1.out) (T2.out.below BB1.out)).mono ?_); rintro e a2 ⟨rfl, hb⟩; rw [HCC.out]; have BB2 := Lib.hid (below_up BB1.out hb); have f0 : a2.cell? ⟨w.heap.size, 0, none⟩ = some (.bool s1) := (X1.out.below BB2.out).c 0 rfl; have f1 : a2.cell? ⟨w.heap.size, 1, none⟩ = some (.slice A1 n1 c1) := (X1.out.below BB2.out).c 1 rfl; have f2 : a2.cell? ⟨w.heap.size, 2, none⟩ = some (.bool t1) := (X1.out.below BB2.out).c 2 rfl; have f3 : a2.cell? ⟨w.heap.size, 3, none⟩ = some (.slice B1 m1 d1) := (X1.out.below BB2.out).c 3 rfl; have f4 : a2.cell? ⟨w.heap.size + 1, 0, none⟩ = some (.bool s2) := (X2.out.below BB2.out).c 0 rfl; have f5 : a2.cell? ⟨w.heap.size + 1, 1, none⟩ = some (.slice A2 n2 c2) := (X2.out.below BB2.out).c 1 rfl; have f6 : a2.cell? ⟨w.heap.size + 1, 2, none⟩ = some (.bool t2) := (X2.out.below BB2.out).c 2 rfl; have f7 : a2.cell? ⟨w.heap.size + 1, 3, none⟩ = some (.slice B2 m2 d2) := (X2.out.below BB2.out).c 3 rfl; clear hb) | (go_at_call 15; (with_reducible refine (floor_any s1 t1 A1 B1 n1 c1 m1 d1 x1 y1 _ (S1.out.below BB2.out) (T1.out.below BB2.out)).mono ?_); rintro e a3 ⟨G3, g3, h3, rfl, hs, hb⟩; have BB3 := Lib.hid (below_up BB2.out hb); have U3 := Lib.hid hs; clear hs; have f0 : a3.cell? ⟨w.heap.size, 0, none⟩ = some (.bool s1) := (X1.out.below BB3.out).c 0 rfl; have f1 : a3.cell? ⟨w.heap.size, 1, none⟩ = some (.slice A1 n1 c1) := (X1.out.below BB3.out).c 1 rfl; have f2 : a3.cell? ⟨w.heap.size, 2, none⟩ = some (.bool t1) := (X1.out.below BB3.out).c 2 rfl; have f3 : a3.cell? ⟨w.heap.size, 3, none⟩ = some (.slice B1 m1 d1) := (X1.out.below BB3.out).c 3 rfl; have f4 : a3.cell? ⟨w.heap.size + 1, 0, none⟩ = some (.bool s2) := (X2.out.below BB3.out).c 0 rfl; have f5 : a3.cell? ⟨w.heap.size + 1, 1, none⟩ = some (.slice A2 n2 c2) := (X2.out.below BB3.out).c 1 rfl; have f6 : a3.cell? ⟨w.heap.size + 1, 2, none⟩ = some (.bool t2) := (X2.out.below BB3.out).c 2 rfl; have f7 : a3.cell? ⟨w.heap.size + 1, 3, none⟩ = some (.slice B2 m2 d2) := (X2.out.below BB3.out).c 3 rfl; clear hb) | (go_at_call 16; (with_reducible refine (r3floor_any s1 t1 A1 B1 n1 c1 m1 d1 x1 y1 _ (S1.out.below BB3.out) (T1.out.below BB3.out)).mono ?_); rintro e a4 ⟨G4, g4, h4, rfl, hs, hb⟩; have BB4 := Lib.hid (below_up BB3.out hb); have U3 := Lib.hid (U3.out.below hb); have U4 := Lib.hid hs; clear hs; have f0 : a4.cell? ⟨w.heap.size, 0, none⟩ = some (.bool s1) := (X1.out.below BB4.out).c 0 rfl; have f1 : a4.cell? ⟨w.heap.size, 1, none⟩ = some (.slice A1 n1 c1) := (X1.out.below BB4.out).c 1 rfl; have f2 : a4.cell? ⟨w.heap.size, 2, none⟩ = some (.bool t1) := (X1.out.below BB4.out).c 2 rfl; have f3 : a4.cell? ⟨w.heap.size, 3, none⟩ = some (.slice B1 m1 d1) := (X1.out.below BB4.out).c 3 rfl; have f4 : a4.cell? ⟨w.heap.size + 1, 0, none⟩ = some (.bool s2) := (X2.out.below BB4.out).c 0 rfl; have f5 : a4.cell? ⟨w.heap.size + 1, 1, none⟩ = some (.slice A2 n2 c2) := (X2.out.below BB4.out).c 1 rfl; have f6 : a4.cell? ⟨w.heap.size + 1, 2, none⟩ = some (.bool t2) := (X2.out.below BB4.out).c 2 rfl; have f7 : a4.cell? ⟨w.heap.size + 1, 3, none⟩ = some (.slice B2 m2 d2) := (X2.out.below BB4.out).c 3 rfl; clear hb) | (go_at_call 14; (with_reducible refine (sameb_ok (qZ (frN s1 x1 t1 y1) (frD s1 x1 t1 y1)) (qZ (frN s1 x1 t1 y1) (frD s1 x1 t1 y1)) G3 G4 g3 h3 g4 h4 _ U3.out U4.out rfl).mono ?_); rintro e a5 ⟨rfl, hb⟩; have BB5 := Lib.hid (below_up BB4.out hb); have U3 := Lib.hid (U3.out.below hb); have U4 := Lib.hid (U4.out.below hb); have f0 : a5.cell? ⟨w.heap.size, 0, none⟩ = some (.bool s1) := (X1.out.below BB5.out).c 0 rfl; have f1 : a5.cell? ⟨w.heap.size, 1, none⟩ = some (.slice A1 n1 c1) := (X1.out.below BB5.out).c 1 rfl; have f2 : a5.cell? ⟨w.heap.size, 2, none⟩ = some (.bool t1) := (X1.out.below BB5.out).c 2 rfl; have f3 : a5.cell? ⟨w.heap.size, 3, none⟩ = some (.slice B1 m1 d1) := (X1.out.below BB5.out).c 3 rfl; have f4 : a5.cell? ⟨w.heap.size + 1, 0, none⟩ = some (.bool s2) := (X2.out.below BB5.out).c 0 rfl; have f5 : a5.cell? ⟨w.heap.size + 1, 1, none⟩ = some (.slice A2 n2 c2) := (X2.out.below BB5.out).c 1 rfl; have f6 : a5.cell? ⟨w.heap.size + 1, 2, none⟩ = some (.bool t2) := (X2.out.below BB5.out).c 2 rfl; have f7 : a5.cell? ⟨w.heap.size + 1, 3, none⟩ = some (.slice B2 m2 d2) := (X2.out.below BB5.out).c 3 rfl; clear hb) | (go_at_call 17; (with_reducible refine (ceil_any s1 t1 A1 B1 n1 c1 m1 d1 x1 y1 _ (S1.out.below BB5.out) (T1.out.below BB5.out)).mono ?_); rintro e a6 ⟨G6, g6, h6, rfl, hs, hb⟩; have BB6 := Lib.hid (below_up BB5.out hb); have U3 := Lib.hid (U3.out.below hb); have U4 := Lib.hid (U4.out.below hb); have U6 := Lib.hid hs; clear hs; have f0 : a6.cell? ⟨w.heap.size, 0, none⟩ = some (.bool s1) := (X1.out.below BB6.out).c 0 rfl; have f1 : a6.cell? ⟨w.heap.size, 1, none⟩ = some (.slice A1 n1 c1) := (X1.out.below BB6.out).c 1 rfl; have f2 : a6.cell? ⟨w.heap.size, 2, none⟩ = some (.bool t1) := (X1.out.below BB6.out).c 2 rfl; have f3 : a6.cell? ⟨w.heap.size, 3, none⟩ = some (.slice B1 m1 d1) := (X1.out.below BB6.out).c 3 rfl; have f4 : a6.cell? ⟨w.heap.size + 1, 0, none⟩ = some (.bool s2) := (X2.out.below BB6.out).c 0 rfl; have f5 : a6.cell? ⟨w.heap.size + 1, 1, none⟩ = some (.slice A2 n2 c2) := (X2.out.below BB6.out).c 1 rfl; have f6 : a6.cell? ⟨w.heap.size + 1, 2, none⟩ = some (.bool t2) := (X2.out.below BB6.out).c 2 rfl; have f7 : a6.cell? ⟨w.heap.size + 1, 3, none⟩ = some (.slice B2 m2 d2) := (X2.out.below BB6.out).c 3 rfl; clear hb) | (go_at_call 18; (with_reducible refine (r3ceil_any s1 t1 A1 B1 n1 c1 m1 d1 x1 y1 _ (S1.out.below BB6.out) (T1.out.below BB6.out)).mono ?_); rintro e a7 ⟨G7, g7, h7, rfl, hs, hb⟩; have BB7 := Lib.hid (below_up BB6.out hb); have U3 := Lib.hid (U3.out.below hb); have U4 := Lib.hid (U4.out.below hb); have U6 := Lib.hid (U6.out.below hb); have U7 := Lib.hid hs; clear hs; have f0 : a7.cell? ⟨w.heap.size, 0, none⟩ = some (.bool s1) := (X1.out.below BB7.out).c 0 rfl; have f1 : a7.cell? ⟨w.heap.size, 1, none⟩ = some (.slice A1 n1 c1) := (X1.out.below BB7.out).c 1 rfl; have f2 : a7.cell? ⟨w.heap.size, 2, none⟩ = some (.bool t1) := (X1.out.below BB7.out).c 2 rfl; have f3 : a7.cell? ⟨w.heap.size, 3, none⟩ = some (.slice B1 m1 d1) := (X1.out.below BB7.out).c 3 rfl; have f4 : a7.cell? ⟨w.heap.size + 1, 0, none⟩ = some (.bool s2) := (X2.out.below BB7.out).c 0 rfl; have f5 : a7.cell? ⟨w.heap.size + 1, 1, none⟩ = some (.slice A2 n2 c2) := (X2.out.below BB7.out).c 1 rfl; have f6 : a7.cell? ⟨w.heap.size + 1, 2, none⟩ = some (.bool t2) := (X2.out.below BB7.out).c 2 rfl; have f7 : a7.cell? ⟨w.heap.size + 1, 3, none⟩ = some (.slice B2 m2 d2) := (X2.out.below BB7.out).c 3 rfl; clear hb) | (go_at_call 14; (with_reducible refine (sameb_ok (-qZ (-frN s1 x1 t1 y1) (frD s1 x1 t1 y1)) (-qZ (-frN s1 x1 t1 y1) (frD s1 x1 t1 y1)) G6 G7 g6 h6 g7 h7 _ U6.out U7.out rfl).mono ?_); rintro e a8 ⟨rfl, hb⟩; have BB8 := Lib.hid (below_up BB7.out hb); have U3 := Lib.hid (U3.out.below hb); have U4 := Lib.hid (U4.out.below hb); have U6 := Lib.hid (U6.out.below hb); have U7 := Lib.hid (U7.out.below hb); have f0 : a8.cell? ⟨w.heap.size, 0, none⟩ = some (.bool s1) := (X1.out.below BB8.out).c 0 rfl; have f1 : a8.cell? ⟨w.heap.size, 1, none⟩ = some (.slice A1 n1 c1) := (X1.out.below BB8.out).c 1 rfl; have f2 : a8.cell? ⟨w.heap.size, 2, none⟩ = some (.bool t1) := (X1.out.below BB8.out).c 2 rfl; have f3 : a8.cell? ⟨w.heap.size, 3, none⟩ = some (.slice B1 m1 d1) := (X1.out.below BB8.out).c 3 rfl; have f4 : a8.cell? ⟨w.heap.size + 1, 0, none⟩ = some (.bool s2) := (X2.out.below BB8.out).c 0 rfl; have f5 : a8.cell? ⟨w.heap.size + 1, 1, none⟩ = some (.slice A2 n2 c2) := (X2.out.below BB8.out).c 1 rfl; have f6 : a8.cell? ⟨w.heap.size + 1, 2, none⟩ = some (.bool t2) := (X2.out.below BB8.out).c 2 rfl; have f7 : a8.cell? ⟨w.heap.size + 1, 3, none⟩ = some (.slice B2 m2 d2) := (X2.out.below BB8.out).c 3 rfl; clear hb) | (go_at_call 19; (with_reducible refine (rtext_any s1 t1 A1 B1 n1 c1 m1 d1 x1 y1 _ (S1.out.below BB8.out) (T1.out.below BB8.out) (tab_on TB.out BB8.out)).mono ?_); rintro e a9 ⟨rfl, hb⟩; rw [HTX.out]; have BB9 := Lib.hid (below_up BB8.out hb); have U3 := Lib.hid (U3.out.below hb); have U4 := Lib.hid (U4.out.below hb); have U6 := Lib.hid (U6.out.below hb); have U7 := Lib.hid (U7.out.below hb); have f0 : a9.cell? ⟨w.heap.size, 0, none⟩ = some (.bool s1) := (X1.out.below BB9.out).c 0 rfl; have f1 : a9.cell? ⟨w.heap.size, 1, none⟩ = some (.slice A1 n1 c1) := (X1.out.below BB9.out).c 1 rfl; have f2 : a9.cell? ⟨w.heap.size, 2, none⟩ = some (.bool t1) := (X1.out.below BB9.out).c 2 rfl; have f3 : a9.cell? ⟨w.heap.size, 3, none⟩ = some (.slice B1 m1 d1) := (X1.out.below BB9.out).c 3 rfl; have f4 : a9.cell? ⟨w.heap.size + 1, 0, none⟩ = some (.bool s2) := (X2.out.below BB9.out).c 0 rfl; have f5 : a9.cell? ⟨w.heap.size + 1, 1, none⟩ = some (.slice A2 n2 c2) := (X2.out.below BB9.out).c 1 rfl; have f6 : a9.cell? ⟨w.heap.size + 1, 2, none⟩ = some (.bool t2) := (X2.out.below BB9.out).c 2 rfl; have f7 : a9.cell? ⟨w.heap.size + 1, 3, none⟩ = some (.slice B2 m2 d2) := (X2.out.below BB9.out).c 3 rfl; clear hb) | (go_at_call 20; (with_reducible refine (r3text_any s1 t1 A1 B1 n1 c1 m1 d1 x1 y1 _ (S1.out.below BB9.out) (T1.out.below BB9.out)).mono ?_); rintro e a10 ⟨rfl, hb⟩; rw [HTX.out]; have BB10 := Lib.hid (below_up BB9.out hb); have U3 := Lib.hid (U3.out.below hb); have U4 := Lib.hid (U4.out.below hb); have U6 := Lib.hid (U6.out.below hb); have U7 := Lib.hid (U7.out.below hb); have f0 : a10.cell? ⟨w.heap.size, 0, none⟩ = some (.bool s1) := (X1.out.below BB10.out).c 0 rfl; have f1 : a10.cell? ⟨w.heap.size, 1, none⟩ = some (.slice A1 n1 c1) := (X1.out.below BB10.out).c 1 rfl; have f2 : a10.cell? ⟨w.heap.size, 2, none⟩ = some (.bool t1) := (X1.out.below BB10.out).c 2 rfl; have f3 : a10.cell? ⟨w.heap.size, 3, none⟩ = some (.slice B1 m1 d1) := (X1.out.below BB10.out).c 3 rfl; have f4 : a10.cell? ⟨w.heap.size + 1, 0, none⟩ = some (.bool s2) := (X2.out.below BB10.out).c 0 rfl; have f5 : a10.cell? ⟨w.heap.size + 1, 1, none⟩ = some (.slice A2 n2 c2) := (X2.out.below BB10.out).c 1 rfl; have f6 : a10.cell? ⟨w.heap.size + 1, 2, none⟩ = some (.bool t2) := (X2.out.below BB10.out).c 2 rfl; have f7 : a10.cell? ⟨w.heap.size + 1, 3, none⟩ = some (.slice B2 m2 d2) := (X2.out.below BB10.out).c 3 rfl; clear hb) | (go_at_call 6; (with_reducible refine (awake3_any _ (tab_on TB.out BB10.out)).mono ?_); rintro e a11 ⟨rfl, hb⟩; have BB11 := Lib.hid (below_up BB10.out hb); have U3 := Lib.hid (U3.out.below hb); have U4 := Lib.hid (U4.out.below hb); have U6 := Lib.hid (U6.out.below hb); have U7 := Lib.hid (U7.out.below hb); have f0 : a11.cell? ⟨w.heap.size, 0, none⟩ = some (.bool s1) := (X1.out.below BB11.out).c 0 rfl; have f1 : a11.cell? ⟨w.heap.size, 1, none⟩ = some (.slice A1 n1 c1) := (X1.out.below BB11.out).c 1 rfl; have f2 : a11.cell? ⟨w.heap.size, 2, none⟩ = some (.bool t1) := (X1.out.below BB11.out).c 2 rfl; have f3 : a11.cell? ⟨w.heap.size, 3, none⟩ = some (.slice B1 m1 d1) := (X1.out.below BB11.out).c 3 rfl; have f4 : a11.cell? ⟨w.heap.size + 1, 0, none⟩ = some (.bool s2) := (X2.out.below BB11.out).c 0 rfl; have f5 : a11.cell? ⟨w.heap.size + 1, 1, none⟩ = some (.slice A2 n2 c2) := (X2.out.below BB11.out).c 1 rfl; have f6 : a11.cell? ⟨w.heap.size + 1, 2, none⟩ = some (.bool t2) := (X2.out.below BB11.out).c 2 rfl; have f7 : a11.cell? ⟨w.heap.size + 1, 3, none⟩ = some (.slice B2 m2 d2) := (X2.out.below BB11.out).c 3 rfl; clear hb))
    clear e0 e1 e2 e3 e4 e5 e6 e7
    try clear f0 f1 f2 f3 f4 f5 f6 f7
    have S1 := Lib.hid (S1.out.below BB11.out)
    have T1 := Lib.hid (T1.out.below BB11.out)
    have S2 := Lib.hid (S2.out.below BB11.out)
    have T2 := Lib.hid (T2.out.below BB11.out)
    have TB := Lib.hid (tab_on TB.out BB11.out)
    have BW := Lib.hid (below_on BW.out BB11.out)
    have X1 := Lib.hid (X1.out.below BB11.out)
    have X2 := Lib.hid (X2.out.below BB11.out)
    go_wp2_with fail
    go_ret
    exact ⟨rfl, BW.out⟩
  · have HL := Lib.hid hl
    clear hl
    have BW := Lib.hid (Below.refl w.heap.size w)
    go_enter Tryz.func4, Tryz.ntmps4
    go_upto_region 1 with fail
    have S1 := Lib.hid (S1.out.alloc (.cells #[.bool s1, .slice A1 n1 c1, .bool t1, .slice B1 m1 d1] 26))
    have T1 := Lib.hid (T1.out.alloc (.cells #[.bool s1, .slice A1 n1 c1, .bool t1, .slice B1 m1 d1] 26))
    have S2 := Lib.hid (S2.out.alloc (.cells #[.bool s1, .slice A1 n1 c1, .bool t1, .slice B1 m1 d1] 26))
    have T2 := Lib.hid (T2.out.alloc (.cells #[.bool s1, .slice A1 n1 c1, .bool t1, .slice B1 m1 d1] 26))
    have TB := Lib.hid (tab_on TB.out ((Below.refl _ _).alloc (Nat.le_refl _) (.cells #[.bool s1, .slice A1 n1 c1, .bool t1, .slice B1 m1 d1] 26)))
    have BW := Lib.hid (BW.out.alloc BW.out.size (.cells #[.bool s1, .slice A1 n1 c1, .bool t1, .slice B1 m1 d1] 26))
    have X1 := Lib.hid (Bk.new 26 w #[.bool s1, .slice A1 n1 c1, .bool t1, .slice B1 m1 d1])
    have S1 := Lib.hid (S1.out.alloc (.cells #[.bool s2, .slice A2 n2 c2, .bool t2, .slice B2 m2 d2] 26))
    have T1 := Lib.hid (T1.out.alloc (.cells #[.bool s2, .slice A2 n2 c2, .bool t2, .slice B2 m2 d2] 26))
    have S2 := Lib.hid (S2.out.alloc (.cells #[.bool s2, .slice A2 n2 c2, .bool t2, .slice B2 m2 d2] 26))
    have T2 := Lib.hid (T2.out.alloc (.cells #[.bool s2, .slice A2 n2 c2, .bool t2, .slice B2 m2 d2] 26))
    have TB := Lib.hid (tab_on TB.out ((Below.refl _ _).alloc (Nat.le_refl _) (.cells #[.bool s2, .slice A2 n2 c2, .bool t2, .slice B2 m2 d2] 26)))
    have BW := Lib.hid (BW.out.alloc BW.out.size (.cells #[.bool s2, .slice A2 n2 c2, .bool t2, .slice B2 m2 d2] 26))
    have X1 := Lib.hid (X1.out.alloc (.cells #[.bool s2, .slice A2 n2 c2, .bool t2, .slice B2 m2 d2] 26))
    have X2 := Lib.hid (Bk.new 26 (w.alloc (.cells #[.bool s1, .slice A1 n1 c1, .bool t1, .slice B1 m1 d1] 26)) #[.bool s2, .slice A2 n2 c2, .bool t2, .slice B2 m2 d2])
    rw [alloc_sz] at X2
    generalize ((w.alloc (.cells #[.bool s1, .slice A1 n1 c1, .bool t1, .slice B1 m1 d1] 26)).alloc (.cells #[.bool s2, .slice A2 n2 c2, .bool t2, .slice B2 m2 d2] 26)) = W0 at *
    have e0 : W0.cell? ⟨w.heap.size, 0, none⟩ = some (.bool s1) := X1.out.c 0 rfl
    have e1 : W0.cell? ⟨w.heap.size, 1, none⟩ = some (.slice A1 n1 c1) := X1.out.c 1 rfl
    have e2 : W0.cell? ⟨w.heap.size, 2, none⟩ = some (.bool t1) := X1.out.c 2 rfl
    have e3 : W0.cell? ⟨w.heap.size, 3, none⟩ = some (.slice B1 m1 d1) := X1.out.c 3 rfl
    have e4 : W0.cell? ⟨w.heap.size + 1, 0, none⟩ = some (.bool s2) := X2.out.c 0 rfl
    have e5 : W0.cell? ⟨w.heap.size + 1, 1, none⟩ = some (.slice A2 n2 c2) := X2.out.c 1 rfl
    have e6 : W0.cell? ⟨w.heap.size + 1, 2, none⟩ = some (.bool t2) := X2.out.c 2 rfl
    have e7 : W0.cell? ⟨w.heap.size + 1, 3, none⟩ = some (.slice B2 m2 d2) := X2.out.c 3 rfl
    go_wp2_with fail
    clear e0 e1 e2 e3 e4 e5 e6 e7
    have ln1 := X1.out.lt
    have ln2 := X2.out.lt
    have S1 := Lib.hid (S1.out.alloc (.cells #[.bool s1, .slice A1 n1 c1, .bool t1, .slice B1 m1 d1, .bool s2, .slice A2 n2 c2, .bool t2, .slice B2 m2 d2] 26))
    have T1 := Lib.hid (T1.out.alloc (.cells #[.bool s1, .slice A1 n1 c1, .bool t1, .slice B1 m1 d1, .bool s2, .slice A2 n2 c2, .bool t2, .slice B2 m2 d2] 26))
    have S2 := Lib.hid (S2.out.alloc (.cells #[.bool s1, .slice A1 n1 c1, .bool t1, .slice B1 m1 d1, .bool s2, .slice A2 n2 c2, .bool t2, .slice B2 m2 d2] 26))
    have T2 := Lib.hid (T2.out.alloc (.cells #[.bool s1, .slice A1 n1 c1, .bool t1, .slice B1 m1 d1, .bool s2, .slice A2 n2 c2, .bool t2, .slice B2 m2 d2] 26))
    have TB := Lib.hid (tab_on TB.out ((Below.refl _ _).alloc (Nat.le_refl _) (.cells #[.bool s1, .slice A1 n1 c1, .bool t1, .slice B1 m1 d1, .bool s2, .slice A2 n2 c2, .bool t2, .slice B2 m2 d2] 26)))
    have BW := Lib.hid (BW.out.alloc BW.out.size (.cells #[.bool s1, .slice A1 n1 c1, .bool t1, .slice B1 m1 d1, .bool s2, .slice A2 n2 c2, .bool t2, .slice B2 m2 d2] 26))
    have X1 := Lib.hid (X1.out.alloc (.cells #[.bool s1, .slice A1 n1 c1, .bool t1, .slice B1 m1 d1, .bool s2, .slice A2 n2 c2, .bool t2, .slice B2 m2 d2] 26))
    have X2 := Lib.hid (X2.out.alloc (.cells #[.bool s1, .slice A1 n1 c1, .bool t1, .slice B1 m1 d1, .bool s2, .slice A2 n2 c2, .bool t2, .slice B2 m2 d2] 26))
    have XL := Lib.hid (Bk.new 26 W0 #[.bool s1, .slice A1 n1 c1, .bool t1, .slice B1 m1 d1, .bool s2, .slice A2 n2 c2, .bool t2, .slice B2 m2 d2])
    generalize (W0.alloc (.cells #[.bool s1, .slice A1 n1 c1, .bool t1, .slice B1 m1 d1, .bool s2, .slice A2 n2 c2, .bool t2, .slice B2 m2 d2] 26)) = WL at *
    have e0 : WL.cell? ⟨w.heap.size, 0, none⟩ = some (.bool s1) := X1.out.c 0 rfl
    have e1 : WL.cell? ⟨w.heap.size, 1, none⟩ = some (.slice A1 n1 c1) := X1.out.c 1 rfl
    have e2 : WL.cell? ⟨w.heap.size, 2, none⟩ = some (.bool t1) := X1.out.c 2 rfl
    have e3 : WL.cell? ⟨w.heap.size, 3, none⟩ = some (.slice B1 m1 d1) := X1.out.c 3 rfl
    have e4 : WL.cell? ⟨w.heap.size + 1, 0, none⟩ = some (.bool s2) := X2.out.c 0 rfl
    have e5 : WL.cell? ⟨w.heap.size + 1, 1, none⟩ = some (.slice A2 n2 c2) := X2.out.c 1 rfl
    have e6 : WL.cell? ⟨w.heap.size + 1, 2, none⟩ = some (.bool t2) := X2.out.c 2 rfl
    have e7 : WL.cell? ⟨w.heap.size + 1, 3, none⟩ = some (.slice B2 m2 d2) := X2.out.c 3 rfl
    ((with_reducible refine (light2_any W0.heap.size s1 t1 A1 B1 n1 c1 m1 d1 s2 t2 A2 B2 n2 c2 m2 d2 _ XL.out).mono ?_); rintro e w1 ⟨rfl, hb⟩)
    rw [HL.out]
    clear e0 e1 e2 e3 e4 e5 e6 e7
    have S1 := Lib.hid (S1.out.below hb)
    have T1 := Lib.hid (T1.out.below hb)
    have S2 := Lib.hid (S2.out.below hb)
    have T2 := Lib.hid (T2.out.below hb)
    have TB := Lib.hid (tab_on TB.out hb)
    have BW := Lib.hid (below_on BW.out hb)
    have X1 := Lib.hid (X1.out.below hb)
    have X2 := Lib.hid (X2.out.below hb)
    have XL := Lib.hid (XL.out.below hb)
    clear hb
    clear XL
    have e0 : w1.cell? ⟨w.heap.size, 0, none⟩ = some (.bool s1) := X1.out.c 0 rfl
    have e1 : w1.cell? ⟨w.heap.size, 1, none⟩ = some (.slice A1 n1 c1) := X1.out.c 1 rfl
    have e2 : w1.cell? ⟨w.heap.size, 2, none⟩ = some (.bool t1) := X1.out.c 2 rfl
    have e3 : w1.cell? ⟨w.heap.size, 3, none⟩ = some (.slice B1 m1 d1) := X1.out.c 3 rfl
    have e4 : w1.cell? ⟨w.heap.size + 1, 0, none⟩ = some (.bool s2) := X2.out.c 0 rfl
    have e5 : w1.cell? ⟨w.heap.size + 1, 1, none⟩ = some (.slice A2 n2 c2) := X2.out.c 1 rfl
    have e6 : w1.cell? ⟨w.heap.size + 1, 2, none⟩ = some (.bool t2) := X2.out.c 2 rfl
    have e7 : w1.cell? ⟨w.heap.size + 1, 3, none⟩ = some (.slice B2 m2 d2) := X2.out.c 3 rfl
    go_wp2_with fail
    ((with_reducible refine (awake3_any _ TB.out).mono ?_); rintro e w9 ⟨rfl, hb⟩)
    clear e0 e1 e2 e3 e4 e5 e6 e7
    have S1 := Lib.hid (S1.out.below hb)
    have T1 := Lib.hid (T1.out.below hb)
    have S2 := Lib.hid (S2.out.below hb)
    have T2 := Lib.hid (T2.out.below hb)
    have TB := Lib.hid (tab_on TB.out hb)
    have BW := Lib.hid (below_on BW.out hb)
    have X1 := Lib.hid (X1.out.below hb)
    have X2 := Lib.hid (X2.out.below hb)
    clear hb
    go_wp2_with fail
    go_ret
    exact ⟨rfl, BW.out⟩

set_option maxRecDepth 100000 in
theorem contract (H : Type) (enc : TypeId × Value → H) (W : World) (base : Nat) (args : Array Value) (ds gs : List (DataW H)) (before : List MemPlace)
    (hval : ∀ (j : Nat) t v, Tryz.f4.params[j]? = some t → args[j]? = some v → Value.okWide Tryz.prog W .any base t v)
    (hW : DataW.Whole enc Tryz.prog Tryz.f4.params.toList Rows.ratComparesSpec.vars false W args.toList ds gs before) (hL : laidMetH Tryz.prog Rows.ratComparesRow.laid W) :
    Calls Tryz.prog 4 args W fun e W' => ∃ v, e = .returned v ∧ Rows.ratComparesSpec.post enc Tryz.prog Tryz.f4 false true false false W args v W' := by
  have hW' := hW
  obtain ⟨p, q, hA0, hV, rfl, hfz, hnd⟩ := hW
  have hA : DataW.TrodAll enc Tryz.prog W 0 (fun _ => true) true Tryz.f4.params.toList args.toList ds p := hA0
  have hlt : ∀ x ∈ p, x.block < W.heap.size := fun x hx => hW'.lt x (by simp [hx])
  have hAll := hA
  rw [Tryz.params4] at hA hval
  obtain ⟨v0, vs0, d0, ds0, p0, q0, hargs, rfl, rfl, h0, r0⟩ := trodAll_cons hA
  obtain ⟨v1, vs1, d1, ds1, p1, q1, rfl, rfl, rfl, h1, r1⟩ := trodAll_cons r0
  obtain ⟨rfl, rfl, rfl⟩ := trodAll_nil r1
  obtain rfl : args = #[v0, v1] := by cases args; simp_all
  obtain ⟨rfl, rfl⟩ := trodVars_none hV
  obtain ⟨s1, A1, n1, c1, x1, t1, B1, m1, d1', y1, rfl, g1, k1⟩ := open_rat (hval 0 26 v0 rfl rfl) h0
  obtain ⟨s2, A2, n2, c2, x2, t2, B2, m2, d2', y2, rfl, g2, k2⟩ := open_rat (hval 1 26 v1 rfl rfl) h1
  refine (walk s1 t1 A1 B1 n1 c1 m1 d1' x1 y1 s2 t2 A2 B2 n2 c2 m2 d2' x2 y2 W g1 k1 g2 k2 (tab_of_laid hL)).mono fun e W' ⟨he, hg⟩ => ?_
  subst he
  refine ⟨_, rfl, _, _, _, [], _, [], hW', trodAll_mk1 (shut_bool Tryz.underlying4 _), trodAll_below hg (fun t ht => ?_) hAll hlt, rfl, hg.frame _, fun h => by cases h⟩
  rw [Tryz.params4] at ht
  simp only [List.mem_cons, List.not_mem_nil, or_false] at ht
  rcases ht with rfl | rfl
  · exact read_rat
  · exact read_rat

set_option maxRecDepth 100000 in
theorem reads (os : Os) {H : Type} (enc : TypeId × Value → H) : ∃ places, DataW.whole enc Tryz.prog ((World.doorLaid Tryz.prog 24 os).forCall (fun _ _ => 0) ⟨#[], #[Value.agg #[.bool false, .slice none 0 0, .bool false, .slice none 0 0], Value.agg #[.bool false, .slice none 0 0, .bool false, .slice none 0 0]], []⟩).memory Tryz.f4.params.toList Rows.ratComparesSpec.vars false #[Value.agg #[.bool false, .slice none 0 0, .bool false, .slice none 0 0], Value.agg #[.bool false, .slice none 0 0, .bool false, .slice none 0 0]].toList 8 = some ([.agg [.agg [.lit (.bool false), .nil], .agg [.lit (.bool false), .nil]], .agg [.agg [.lit (.bool false), .nil], .agg [.lit (.bool false), .nil]]], [], places) :=
  ⟨[], by kernel_rfl⟩

set_option maxRecDepth 100000 in
theorem lifted (os : Os) (started : os.Started) (H : Type) (enc : TypeId × Value → H) (F : Stop.Interp) :
    ReturnsInHanded {} Tryz.checked os 4 .any ((OpenSpec.ofChange Rows.ratComparesSpec).preRow enc Tryz.prog Tryz.f4 Rows.ratComparesRow.domain false Rows.ratComparesRow.laid) (((OpenSpec.ofChange Rows.ratComparesSpec).at F).post enc Tryz.prog Tryz.f4 false true false false) := by
  obtain ⟨places, hx⟩ := reads os enc
  refine returnsInHanded_of_row (C := Tryz.checked) (s := OpenSpec.ofChange Rows.ratComparesSpec) own started (by kernel_rfl) Tryz.func4
    (witness_row_at (enc := enc) (C := Tryz.checked) false (World.doorLaid Tryz.prog 24 os) #[Value.agg #[.bool false, .slice none 0 0, .bool false, .slice none 0 0], Value.agg #[.bool false, .slice none 0 0, .bool false, .slice none 0 0]] rfl (by kernel_rfl) (by kernel_rfl) (by kernel_rfl)
      (OpenSpec.preRow_of_cond 8 hx (by kernel_rfl) (fun k hk => by cases hk) (by kernel_rfl) (laid_met os _))) ?_
  intro W base args ds gs before hval hW _ _ _ hL _ _
  exact contract H enc W base args ds gs before hval hW hL

theorem said : Rows.RatComparesSaid :=
  OpenClaim.holds_of_cond 4 Tryz.f4 rfl rfl rfl rfl rfl rfl rfl ⟨rfl, rfl, rfl, rfl, rfl⟩ rfl rfl rfl rfl rfl (by kernel_rfl) Tryz.func4 (by kernel_rfl)
    (of_decide_eq_true (by kernel_rfl)) (by unfold Func.isWrapper; first | (rw [if_pos (by decide +kernel)]; kernel_rfl) | (rw [if_neg (by decide +kernel)]; exact ⟨rfl, rfl⟩))
    (fun os started H enc _ F => by rw [OpenClaim.pre_eq_preRow]; exact lifted os started H enc F)

theorem plain (f : FuncId) (fn : Func) (hf : Tryz.pinned.checked.prog.funcNamed "liquidcheck/liquidchecklaw03.RatCompares" = some f) (hfn : Tryz.pinned.checked.prog.funcs[f]? = some fn) :
    false = Tryz.pinned.checked.prog.looks [] ∧ ∀ (j : Nat) t, fn.params[j]? = some t → Tryz.pinned.checked.prog.wantsStandIn t = false := by
  obtain rfl : f = 4 := Option.some.inj ((show Tryz.prog.funcNamed "liquidcheck/liquidchecklaw03.RatCompares" = some 4 by kernel_rfl).symm.trans hf) |>.symm
  obtain rfl : fn = Tryz.f4 := (Option.some.inj (Tryz.func4.symm.trans hfn)).symm
  refine ⟨by kernel_rfl, fun j t ht => ?_⟩
  rw [Tryz.params4] at ht
  have hm := Array.mem_of_getElem? ht
  simp only [List.mem_toArray, List.mem_cons, List.not_mem_nil, or_false] at hm
  rcases hm with rfl | rfl
  · exact (show Tryz.prog.wantsStandIn 26 = false by kernel_rfl)
  · exact (show Tryz.prog.wantsStandIn 26 = false by kernel_rfl)

theorem card : Rows.RatComparesCardSaid :=
  Claim7.holds_tied_plain_at .later [] _ _ _ _ said (fun _ h => by cases h) (by kernel_rfl) (fun _ h => by cases h) ratCompares_row_tie rfl ⟨rfl, rfl⟩ (by kernel_rfl) rfl plain (by kernel_rfl)
end Go.Proofs.YtfenmogbellhdaaGreatDoor.ratCompares
