/-
  THE STATEMENT RatMakes IS PROVED: for every two numbers and every int (the listed library tables holding what the program's text lays, tied by the card), the law returns true and its arguments read as before.
-/
import Derived.Test.YtamlkmmhbejgfaaDoorCards
import Derived.Test.YtamlkmmhbejgfaaDoorTie
import Derived.Test.YtamlkmmhbejgfaaDoorRatLaid
import Derived.Test.YtamlkmmhbejgfaaDoorR3M
import Derived.Test.YtamlkmmhbejgfaaDoorRatN
import Derived.Test.YtamlkmmhbejgfaaDoorRatLaid
import Derived.Test.YtamlkmmhbejgfaaDoorRatFew
import Derived.Test.YtamlkmmhbejgfaaDoorBigZ
namespace Go.Proofs.YtamlkmmhbejgfaaDoor.ratMakes
open Go.ChangeShapes Go.WideShapes Go.ChangeAt Go.RowKit
open Go.ChangeMaps (open_string shut_string)


theorem of_fr {na nb : Bool} {xs ys : List Int} (h : ofB na xs nb ys = true) : Fr (ofN na xs nb ys) (ofD na xs nb ys) := by
  have h' := h
  unfold ofB at h'
  simp only [Bool.and_eq_true] at h'
  obtain ⟨e1, e2, e3⟩ := of_same h'.1.1 h'.1.2
  have b := Fr.res (e1.trans h)
  rw [e2, e3] at b
  exact b
set_option maxRecDepth 100000 in
set_option maxHeartbeats 8000000 in
theorem walk (s1 s2 : Bool) (A1 A2 : Option Addr) (n1 c1 n2 c2 : Nat) (x1 x2 : List Int) (z : Int) (w : World) (h1 : Sl w A1 n1 c1 x1) (h2 : Sl w A2 n2 c2 x2) (z1 : -9223372036854775808 ≤ z) (z2 : z ≤ 9223372036854775807) (htab : Tab w) :
    Calls Tryd.prog 5 #[.agg #[.bool s1, .slice A1 n1 c1], .agg #[.bool s2, .slice A2 n2 c2], .int .i64 z] w fun e w' => e = .returned (.bool true) ∧ Below w.heap.size w w' := by
  have S1 := Lib.hid h1
  have S2 := Lib.hid h2
  have TB := Lib.hid htab
  have TB0 := Lib.hid htab
  clear h1 h2 htab
  rcases Bool.eq_false_or_eq_true (fewB n1 n2) with hl | hl
  · rcases Bool.eq_false_or_eq_true (ofB s1 x1 s2 x2) with hb0 | hb0
    · have HL := Lib.hid hl
      clear hl
      have BW := Lib.hid (Below.refl w.heap.size w)
      go_enter Tryd.func5, Tryd.ntmps5
      go_upto_region 1 with fail
      have S1 := Lib.hid (S1.out.alloc (.cells #[.bool s1, .slice A1 n1 c1] 24))
      have S2 := Lib.hid (S2.out.alloc (.cells #[.bool s1, .slice A1 n1 c1] 24))
      have TB := Lib.hid (tab_on TB.out ((Below.refl _ _).alloc (Nat.le_refl _) (.cells #[.bool s1, .slice A1 n1 c1] 24)))
      have BW := Lib.hid (BW.out.alloc BW.out.size (.cells #[.bool s1, .slice A1 n1 c1] 24))
      have X1 := Lib.hid (Bk.new 24 w #[.bool s1, .slice A1 n1 c1])
      have S1 := Lib.hid (S1.out.alloc (.cells #[.bool s2, .slice A2 n2 c2] 24))
      have S2 := Lib.hid (S2.out.alloc (.cells #[.bool s2, .slice A2 n2 c2] 24))
      have TB := Lib.hid (tab_on TB.out ((Below.refl _ _).alloc (Nat.le_refl _) (.cells #[.bool s2, .slice A2 n2 c2] 24)))
      have BW := Lib.hid (BW.out.alloc BW.out.size (.cells #[.bool s2, .slice A2 n2 c2] 24))
      have X1 := Lib.hid (X1.out.alloc (.cells #[.bool s2, .slice A2 n2 c2] 24))
      have X2 := Lib.hid (Bk.new 24 (w.alloc (.cells #[.bool s1, .slice A1 n1 c1] 24)) #[.bool s2, .slice A2 n2 c2])
      rw [alloc_sz] at X2
      generalize ((w.alloc (.cells #[.bool s1, .slice A1 n1 c1] 24)).alloc (.cells #[.bool s2, .slice A2 n2 c2] 24)) = W0 at *
      have e0 : W0.cell? ⟨w.heap.size, 0, none⟩ = some (.bool s1) := X1.out.c 0 rfl
      have e1 : W0.cell? ⟨w.heap.size, 1, none⟩ = some (.slice A1 n1 c1) := X1.out.c 1 rfl
      have e2 : W0.cell? ⟨w.heap.size + 1, 0, none⟩ = some (.bool s2) := X2.out.c 0 rfl
      have e3 : W0.cell? ⟨w.heap.size + 1, 1, none⟩ = some (.slice A2 n2 c2) := X2.out.c 1 rfl
      go_wp2_with fail
      clear e0 e1 e2 e3
      have ln1 := X1.out.lt
      have ln2 := X2.out.lt
      have S1 := Lib.hid (S1.out.alloc (.cells #[.bool s1, .slice A1 n1 c1, .bool s2, .slice A2 n2 c2] 24))
      have S2 := Lib.hid (S2.out.alloc (.cells #[.bool s1, .slice A1 n1 c1, .bool s2, .slice A2 n2 c2] 24))
      have TB := Lib.hid (tab_on TB.out ((Below.refl _ _).alloc (Nat.le_refl _) (.cells #[.bool s1, .slice A1 n1 c1, .bool s2, .slice A2 n2 c2] 24)))
      have BW := Lib.hid (BW.out.alloc BW.out.size (.cells #[.bool s1, .slice A1 n1 c1, .bool s2, .slice A2 n2 c2] 24))
      have X1 := Lib.hid (X1.out.alloc (.cells #[.bool s1, .slice A1 n1 c1, .bool s2, .slice A2 n2 c2] 24))
      have X2 := Lib.hid (X2.out.alloc (.cells #[.bool s1, .slice A1 n1 c1, .bool s2, .slice A2 n2 c2] 24))
      have XL := Lib.hid (Bk.new 24 W0 #[.bool s1, .slice A1 n1 c1, .bool s2, .slice A2 n2 c2])
      generalize (W0.alloc (.cells #[.bool s1, .slice A1 n1 c1, .bool s2, .slice A2 n2 c2] 24)) = WL at *
      ((with_reducible refine (few_any W0.heap.size s1 s2 A1 A2 n1 c1 n2 c2 _ XL.out).mono ?_); rintro e w1 ⟨rfl, rfl⟩)
      rw [HL.out]
      clear XL
      have HB := Lib.hid hb0
      clear hb0
      generalize hvv : validR s1 x1 s2 x2 = vv at *
      have HV := Lib.hid hvv
      clear hvv
      have Z1 := z1
      have Z2 := z2
      have FR := Lib.hid (of_fr HB.out)
      have e0 : WL.cell? ⟨w.heap.size, 0, none⟩ = some (.bool s1) := X1.out.c 0 rfl
      have e1 : WL.cell? ⟨w.heap.size, 1, none⟩ = some (.slice A1 n1 c1) := X1.out.c 1 rfl
      have e2 : WL.cell? ⟨w.heap.size + 1, 0, none⟩ = some (.bool s2) := X2.out.c 0 rfl
      have e3 : WL.cell? ⟨w.heap.size + 1, 1, none⟩ = some (.slice A2 n2 c2) := X2.out.c 1 rfl
      go_wp2_with fail
      ((with_reducible refine (rof_any s1 s2 A1 A2 n1 c1 n2 c2 x1 x2 _ S1.out S2.out).mono ?_); rintro e w3 ⟨G3, g3, h3, I3, i3, j3, rfl, hs, ht, hb⟩)
      rw [HB.out]
      clear e0 e1 e2 e3
      have S1 := Lib.hid (S1.out.below hb)
      have S2 := Lib.hid (S2.out.below hb)
      have TB := Lib.hid (tab_on TB.out hb)
      have BW := Lib.hid (below_on BW.out hb)
      have X1 := Lib.hid (X1.out.below hb)
      have X2 := Lib.hid (X2.out.below hb)
      clear hb
      have U3 := Lib.hid hs
      have V3 := Lib.hid ht
      clear hs ht
      have e0 : w3.cell? ⟨w.heap.size, 0, none⟩ = some (.bool s1) := X1.out.c 0 rfl
      have e1 : w3.cell? ⟨w.heap.size, 1, none⟩ = some (.slice A1 n1 c1) := X1.out.c 1 rfl
      have e2 : w3.cell? ⟨w.heap.size + 1, 0, none⟩ = some (.bool s2) := X2.out.c 0 rfl
      have e3 : w3.cell? ⟨w.heap.size + 1, 1, none⟩ = some (.slice A2 n2 c2) := X2.out.c 1 rfl
      go_upto_region 4 with fail
      clear e0 e1 e2 e3
      have ln3 := X1.out.lt
      have ln4 := X2.out.lt
      have S1 := Lib.hid (S1.out.alloc (.cells #[.bool (nOf (ofN s1 x1 s2 x2)), .slice G3 g3 h3, .bool (nOf (ofD s1 x1 s2 x2)), .slice I3 i3 j3] 37))
      have S2 := Lib.hid (S2.out.alloc (.cells #[.bool (nOf (ofN s1 x1 s2 x2)), .slice G3 g3 h3, .bool (nOf (ofD s1 x1 s2 x2)), .slice I3 i3 j3] 37))
      have TB := Lib.hid (tab_on TB.out ((Below.refl _ _).alloc (Nat.le_refl _) (.cells #[.bool (nOf (ofN s1 x1 s2 x2)), .slice G3 g3 h3, .bool (nOf (ofD s1 x1 s2 x2)), .slice I3 i3 j3] 37)))
      have BW := Lib.hid (BW.out.alloc BW.out.size (.cells #[.bool (nOf (ofN s1 x1 s2 x2)), .slice G3 g3 h3, .bool (nOf (ofD s1 x1 s2 x2)), .slice I3 i3 j3] 37))
      have X1 := Lib.hid (X1.out.alloc (.cells #[.bool (nOf (ofN s1 x1 s2 x2)), .slice G3 g3 h3, .bool (nOf (ofD s1 x1 s2 x2)), .slice I3 i3 j3] 37))
      have X2 := Lib.hid (X2.out.alloc (.cells #[.bool (nOf (ofN s1 x1 s2 x2)), .slice G3 g3 h3, .bool (nOf (ofD s1 x1 s2 x2)), .slice I3 i3 j3] 37))
      have U3 := Lib.hid (U3.out.alloc (.cells #[.bool (nOf (ofN s1 x1 s2 x2)), .slice G3 g3 h3, .bool (nOf (ofD s1 x1 s2 x2)), .slice I3 i3 j3] 37))
      have V3 := Lib.hid (V3.out.alloc (.cells #[.bool (nOf (ofN s1 x1 s2 x2)), .slice G3 g3 h3, .bool (nOf (ofD s1 x1 s2 x2)), .slice I3 i3 j3] 37))
      have Y1 := Lib.hid (Bk.new 37 w3 #[.bool (nOf (ofN s1 x1 s2 x2)), .slice G3 g3 h3, .bool (nOf (ofD s1 x1 s2 x2)), .slice I3 i3 j3])
      generalize (w3.alloc (.cells #[.bool (nOf (ofN s1 x1 s2 x2)), .slice G3 g3 h3, .bool (nOf (ofD s1 x1 s2 x2)), .slice I3 i3 j3] 37)) = W4 at *
      have e0 : W4.cell? ⟨w.heap.size, 0, none⟩ = some (.bool s1) := X1.out.c 0 rfl
      have e1 : W4.cell? ⟨w.heap.size, 1, none⟩ = some (.slice A1 n1 c1) := X1.out.c 1 rfl
      have e2 : W4.cell? ⟨w.heap.size + 1, 0, none⟩ = some (.bool s2) := X2.out.c 0 rfl
      have e3 : W4.cell? ⟨w.heap.size + 1, 1, none⟩ = some (.slice A2 n2 c2) := X2.out.c 1 rfl
      go_wp2_with fail
      ((with_reducible refine (r3of_any s1 s2 A1 A2 n1 c1 n2 c2 x1 x2 _ S1.out S2.out).mono ?_); rintro e w4 ⟨G4, g4, h4, I4, i4, j4, rfl, hs, ht, hb⟩)
      rw [HB.out]
      clear e0 e1 e2 e3
      have S1 := Lib.hid (S1.out.below hb)
      have S2 := Lib.hid (S2.out.below hb)
      have TB := Lib.hid (tab_on TB.out hb)
      have BW := Lib.hid (below_on BW.out hb)
      have X1 := Lib.hid (X1.out.below hb)
      have X2 := Lib.hid (X2.out.below hb)
      have U3 := Lib.hid (U3.out.below hb)
      have V3 := Lib.hid (V3.out.below hb)
      have Y1 := Lib.hid (Y1.out.below hb)
      clear hb
      have U4 := Lib.hid hs
      have V4 := Lib.hid ht
      clear hs ht
      have e0 : w4.cell? ⟨w.heap.size, 0, none⟩ = some (.bool s1) := X1.out.c 0 rfl
      have e1 : w4.cell? ⟨w.heap.size, 1, none⟩ = some (.slice A1 n1 c1) := X1.out.c 1 rfl
      have e2 : w4.cell? ⟨w.heap.size + 1, 0, none⟩ = some (.bool s2) := X2.out.c 0 rfl
      have e3 : w4.cell? ⟨w.heap.size + 1, 1, none⟩ = some (.slice A2 n2 c2) := X2.out.c 1 rfl
      go_upto_region 5 with fail
      clear e0 e1 e2 e3
      have ln5 := X1.out.lt
      have ln6 := X2.out.lt
      have ln7 := Y1.out.lt
      have S1 := Lib.hid (S1.out.alloc (.cells #[.bool (nOf (ofN s1 x1 s2 x2)), .slice G4 g4 h4, .bool (nOf (ofD s1 x1 s2 x2)), .slice I4 i4 j4] 37))
      have S2 := Lib.hid (S2.out.alloc (.cells #[.bool (nOf (ofN s1 x1 s2 x2)), .slice G4 g4 h4, .bool (nOf (ofD s1 x1 s2 x2)), .slice I4 i4 j4] 37))
      have TB := Lib.hid (tab_on TB.out ((Below.refl _ _).alloc (Nat.le_refl _) (.cells #[.bool (nOf (ofN s1 x1 s2 x2)), .slice G4 g4 h4, .bool (nOf (ofD s1 x1 s2 x2)), .slice I4 i4 j4] 37)))
      have BW := Lib.hid (BW.out.alloc BW.out.size (.cells #[.bool (nOf (ofN s1 x1 s2 x2)), .slice G4 g4 h4, .bool (nOf (ofD s1 x1 s2 x2)), .slice I4 i4 j4] 37))
      have X1 := Lib.hid (X1.out.alloc (.cells #[.bool (nOf (ofN s1 x1 s2 x2)), .slice G4 g4 h4, .bool (nOf (ofD s1 x1 s2 x2)), .slice I4 i4 j4] 37))
      have X2 := Lib.hid (X2.out.alloc (.cells #[.bool (nOf (ofN s1 x1 s2 x2)), .slice G4 g4 h4, .bool (nOf (ofD s1 x1 s2 x2)), .slice I4 i4 j4] 37))
      have U3 := Lib.hid (U3.out.alloc (.cells #[.bool (nOf (ofN s1 x1 s2 x2)), .slice G4 g4 h4, .bool (nOf (ofD s1 x1 s2 x2)), .slice I4 i4 j4] 37))
      have V3 := Lib.hid (V3.out.alloc (.cells #[.bool (nOf (ofN s1 x1 s2 x2)), .slice G4 g4 h4, .bool (nOf (ofD s1 x1 s2 x2)), .slice I4 i4 j4] 37))
      have Y1 := Lib.hid (Y1.out.alloc (.cells #[.bool (nOf (ofN s1 x1 s2 x2)), .slice G4 g4 h4, .bool (nOf (ofD s1 x1 s2 x2)), .slice I4 i4 j4] 37))
      have U4 := Lib.hid (U4.out.alloc (.cells #[.bool (nOf (ofN s1 x1 s2 x2)), .slice G4 g4 h4, .bool (nOf (ofD s1 x1 s2 x2)), .slice I4 i4 j4] 37))
      have V4 := Lib.hid (V4.out.alloc (.cells #[.bool (nOf (ofN s1 x1 s2 x2)), .slice G4 g4 h4, .bool (nOf (ofD s1 x1 s2 x2)), .slice I4 i4 j4] 37))
      have Y2 := Lib.hid (Bk.new 37 w4 #[.bool (nOf (ofN s1 x1 s2 x2)), .slice G4 g4 h4, .bool (nOf (ofD s1 x1 s2 x2)), .slice I4 i4 j4])
      generalize (w4.alloc (.cells #[.bool (nOf (ofN s1 x1 s2 x2)), .slice G4 g4 h4, .bool (nOf (ofD s1 x1 s2 x2)), .slice I4 i4 j4] 37)) = W5 at *
      have e0 : W5.cell? ⟨w.heap.size, 0, none⟩ = some (.bool s1) := X1.out.c 0 rfl
      have e1 : W5.cell? ⟨w.heap.size, 1, none⟩ = some (.slice A1 n1 c1) := X1.out.c 1 rfl
      have e2 : W5.cell? ⟨w.heap.size + 1, 0, none⟩ = some (.bool s2) := X2.out.c 0 rfl
      have e3 : W5.cell? ⟨w.heap.size + 1, 1, none⟩ = some (.slice A2 n2 c2) := X2.out.c 1 rfl
      go_upto_region 6 with fail
      clear e0 e1 e2 e3
      have ln8 := X1.out.lt
      have ln9 := X2.out.lt
      have ln10 := Y1.out.lt
      have ln11 := Y2.out.lt
      have S1 := Lib.hid (S1.out.alloc (.cells #[.bool s1, .slice A1 n1 c1, .bool s2, .slice A2 n2 c2] 37))
      have S2 := Lib.hid (S2.out.alloc (.cells #[.bool s1, .slice A1 n1 c1, .bool s2, .slice A2 n2 c2] 37))
      have TB := Lib.hid (tab_on TB.out ((Below.refl _ _).alloc (Nat.le_refl _) (.cells #[.bool s1, .slice A1 n1 c1, .bool s2, .slice A2 n2 c2] 37)))
      have BW := Lib.hid (BW.out.alloc BW.out.size (.cells #[.bool s1, .slice A1 n1 c1, .bool s2, .slice A2 n2 c2] 37))
      have X1 := Lib.hid (X1.out.alloc (.cells #[.bool s1, .slice A1 n1 c1, .bool s2, .slice A2 n2 c2] 37))
      have X2 := Lib.hid (X2.out.alloc (.cells #[.bool s1, .slice A1 n1 c1, .bool s2, .slice A2 n2 c2] 37))
      have U3 := Lib.hid (U3.out.alloc (.cells #[.bool s1, .slice A1 n1 c1, .bool s2, .slice A2 n2 c2] 37))
      have V3 := Lib.hid (V3.out.alloc (.cells #[.bool s1, .slice A1 n1 c1, .bool s2, .slice A2 n2 c2] 37))
      have Y1 := Lib.hid (Y1.out.alloc (.cells #[.bool s1, .slice A1 n1 c1, .bool s2, .slice A2 n2 c2] 37))
      have U4 := Lib.hid (U4.out.alloc (.cells #[.bool s1, .slice A1 n1 c1, .bool s2, .slice A2 n2 c2] 37))
      have V4 := Lib.hid (V4.out.alloc (.cells #[.bool s1, .slice A1 n1 c1, .bool s2, .slice A2 n2 c2] 37))
      have Y2 := Lib.hid (Y2.out.alloc (.cells #[.bool s1, .slice A1 n1 c1, .bool s2, .slice A2 n2 c2] 37))
      have XX := Lib.hid (Bk.new 37 W5 #[.bool s1, .slice A1 n1 c1, .bool s2, .slice A2 n2 c2])
      generalize (W5.alloc (.cells #[.bool s1, .slice A1 n1 c1, .bool s2, .slice A2 n2 c2] 37)) = W6 at *
      have e0 : W6.cell? ⟨w3.heap.size, 0, none⟩ = some (.bool (nOf (ofN s1 x1 s2 x2))) := Y1.out.c 0 rfl
      have e1 : W6.cell? ⟨w3.heap.size, 1, none⟩ = some (.slice G3 g3 h3) := Y1.out.c 1 rfl
      have e2 : W6.cell? ⟨w3.heap.size, 2, none⟩ = some (.bool (nOf (ofD s1 x1 s2 x2))) := Y1.out.c 2 rfl
      have e3 : W6.cell? ⟨w3.heap.size, 3, none⟩ = some (.slice I3 i3 j3) := Y1.out.c 3 rfl
      have e4 : W6.cell? ⟨w4.heap.size, 0, none⟩ = some (.bool (nOf (ofN s1 x1 s2 x2))) := Y2.out.c 0 rfl
      have e5 : W6.cell? ⟨w4.heap.size, 1, none⟩ = some (.slice G4 g4 h4) := Y2.out.c 1 rfl
      have e6 : W6.cell? ⟨w4.heap.size, 2, none⟩ = some (.bool (nOf (ofD s1 x1 s2 x2))) := Y2.out.c 2 rfl
      have e7 : W6.cell? ⟨w4.heap.size, 3, none⟩ = some (.slice I4 i4 j4) := Y2.out.c 3 rfl
      have e8 : W6.cell? ⟨W5.heap.size, 0, none⟩ = some (.bool s1) := XX.out.c 0 rfl
      have e9 : W6.cell? ⟨W5.heap.size, 1, none⟩ = some (.slice A1 n1 c1) := XX.out.c 1 rfl
      have e10 : W6.cell? ⟨W5.heap.size, 2, none⟩ = some (.bool s2) := XX.out.c 2 rfl
      have e11 : W6.cell? ⟨W5.heap.size, 3, none⟩ = some (.slice A2 n2 c2) := XX.out.c 3 rfl
      go_region_held3 (fun w' => w'.cell? ⟨w3.heap.size, 0, none⟩ = some (.bool (nOf (ofN s1 x1 s2 x2))) ∧ w'.cell? ⟨w3.heap.size, 1, none⟩ = some (.slice G3 g3 h3) ∧ w'.cell? ⟨w3.heap.size, 2, none⟩ = some (.bool (nOf (ofD s1 x1 s2 x2))) ∧ w'.cell? ⟨w3.heap.size, 3, none⟩ = some (.slice I3 i3 j3) ∧ w'.cell? ⟨w4.heap.size, 0, none⟩ = some (.bool (nOf (ofN s1 x1 s2 x2))) ∧ w'.cell? ⟨w4.heap.size, 1, none⟩ = some (.slice G4 g4 h4) ∧ w'.cell? ⟨w4.heap.size, 2, none⟩ = some (.bool (nOf (ofD s1 x1 s2 x2))) ∧ w'.cell? ⟨w4.heap.size, 3, none⟩ = some (.slice I4 i4 j4) ∧ w'.cell? ⟨W5.heap.size, 0, none⟩ = some (.bool s1) ∧ w'.cell? ⟨W5.heap.size, 1, none⟩ = some (.slice A1 n1 c1) ∧ w'.cell? ⟨W5.heap.size, 2, none⟩ = some (.bool s2) ∧ w'.cell? ⟨W5.heap.size, 3, none⟩ = some (.slice A2 n2 c2)) (go_keep)
        (first | (go_at_call 25; (with_reducible refine (samer_ok (ofN s1 x1 s2 x2) (ofD s1 x1 s2 x2) (ofN s1 x1 s2 x2) (ofD s1 x1 s2 x2) G3 I3 G4 I4 g3 h3 i3 j3 g4 h4 i4 j4 _ (by first | exact U3.out | exact U3.out.drew) (by first | exact V3.out | exact V3.out.drew) (by first | exact U4.out | exact U4.out.drew) (by first | exact V4.out | exact V4.out.drew) rfl rfl).mono ?_); rintro e a1 ⟨rfl, hb⟩; have BB1 := Lib.hid (show Below W6.heap.size W6 a1 from (by first | exact hb | exact (Below.refl _ _).drew.trans (hb.mono (Nat.le_refl _)))); have f0 : a1.cell? ⟨w3.heap.size, 0, none⟩ = some (.bool (nOf (ofN s1 x1 s2 x2))) := (Y1.out.below BB1.out).c 0 rfl; have f1 : a1.cell? ⟨w3.heap.size, 1, none⟩ = some (.slice G3 g3 h3) := (Y1.out.below BB1.out).c 1 rfl; have f2 : a1.cell? ⟨w3.heap.size, 2, none⟩ = some (.bool (nOf (ofD s1 x1 s2 x2))) := (Y1.out.below BB1.out).c 2 rfl; have f3 : a1.cell? ⟨w3.heap.size, 3, none⟩ = some (.slice I3 i3 j3) := (Y1.out.below BB1.out).c 3 rfl; have f4 : a1.cell? ⟨w4.heap.size, 0, none⟩ = some (.bool (nOf (ofN s1 x1 s2 x2))) := (Y2.out.below BB1.out).c 0 rfl; have f5 : a1.cell? ⟨w4.heap.size, 1, none⟩ = some (.slice G4 g4 h4) := (Y2.out.below BB1.out).c 1 rfl; have f6 : a1.cell? ⟨w4.heap.size, 2, none⟩ = some (.bool (nOf (ofD s1 x1 s2 x2))) := (Y2.out.below BB1.out).c 2 rfl; have f7 : a1.cell? ⟨w4.heap.size, 3, none⟩ = some (.slice I4 i4 j4) := (Y2.out.below BB1.out).c 3 rfl; have f8 : a1.cell? ⟨W5.heap.size, 0, none⟩ = some (.bool s1) := (XX.out.below BB1.out).c 0 rfl; have f9 : a1.cell? ⟨W5.heap.size, 1, none⟩ = some (.slice A1 n1 c1) := (XX.out.below BB1.out).c 1 rfl; have f10 : a1.cell? ⟨W5.heap.size, 2, none⟩ = some (.bool s2) := (XX.out.below BB1.out).c 2 rfl; have f11 : a1.cell? ⟨W5.heap.size, 3, none⟩ = some (.slice A2 n2 c2) := (XX.out.below BB1.out).c 3 rfl; clear hb) | (go_at_call 26; (with_reducible refine (rvalid_ok true (ofN s1 x1 s2 x2) (ofD s1 x1 s2 x2) G3 I3 g3 h3 i3 j3 _ (U3.out.below BB1.out) (V3.out.below BB1.out) FR.out.valid).mono ?_); rintro e a2 ⟨rfl, hb⟩; have BB2 := Lib.hid (below_up BB1.out hb); have f0 : a2.cell? ⟨w3.heap.size, 0, none⟩ = some (.bool (nOf (ofN s1 x1 s2 x2))) := (Y1.out.below BB2.out).c 0 rfl; have f1 : a2.cell? ⟨w3.heap.size, 1, none⟩ = some (.slice G3 g3 h3) := (Y1.out.below BB2.out).c 1 rfl; have f2 : a2.cell? ⟨w3.heap.size, 2, none⟩ = some (.bool (nOf (ofD s1 x1 s2 x2))) := (Y1.out.below BB2.out).c 2 rfl; have f3 : a2.cell? ⟨w3.heap.size, 3, none⟩ = some (.slice I3 i3 j3) := (Y1.out.below BB2.out).c 3 rfl; have f4 : a2.cell? ⟨w4.heap.size, 0, none⟩ = some (.bool (nOf (ofN s1 x1 s2 x2))) := (Y2.out.below BB2.out).c 0 rfl; have f5 : a2.cell? ⟨w4.heap.size, 1, none⟩ = some (.slice G4 g4 h4) := (Y2.out.below BB2.out).c 1 rfl; have f6 : a2.cell? ⟨w4.heap.size, 2, none⟩ = some (.bool (nOf (ofD s1 x1 s2 x2))) := (Y2.out.below BB2.out).c 2 rfl; have f7 : a2.cell? ⟨w4.heap.size, 3, none⟩ = some (.slice I4 i4 j4) := (Y2.out.below BB2.out).c 3 rfl; have f8 : a2.cell? ⟨W5.heap.size, 0, none⟩ = some (.bool s1) := (XX.out.below BB2.out).c 0 rfl; have f9 : a2.cell? ⟨W5.heap.size, 1, none⟩ = some (.slice A1 n1 c1) := (XX.out.below BB2.out).c 1 rfl; have f10 : a2.cell? ⟨W5.heap.size, 2, none⟩ = some (.bool s2) := (XX.out.below BB2.out).c 2 rfl; have f11 : a2.cell? ⟨W5.heap.size, 3, none⟩ = some (.slice A2 n2 c2) := (XX.out.below BB2.out).c 3 rfl; clear hb) | (go_at_call 27; (with_reducible refine (rint_any z _ Z1 Z2).mono ?_); rintro e a3 ⟨T5, k5, r5, U5, l5, q5, rfl, hs, ht, hb⟩; have BB3 := Lib.hid (below_up BB2.out hb); have S5 := Lib.hid hs; clear hs; have T5' := Lib.hid ht; clear ht; have f0 : a3.cell? ⟨w3.heap.size, 0, none⟩ = some (.bool (nOf (ofN s1 x1 s2 x2))) := (Y1.out.below BB3.out).c 0 rfl; have f1 : a3.cell? ⟨w3.heap.size, 1, none⟩ = some (.slice G3 g3 h3) := (Y1.out.below BB3.out).c 1 rfl; have f2 : a3.cell? ⟨w3.heap.size, 2, none⟩ = some (.bool (nOf (ofD s1 x1 s2 x2))) := (Y1.out.below BB3.out).c 2 rfl; have f3 : a3.cell? ⟨w3.heap.size, 3, none⟩ = some (.slice I3 i3 j3) := (Y1.out.below BB3.out).c 3 rfl; have f4 : a3.cell? ⟨w4.heap.size, 0, none⟩ = some (.bool (nOf (ofN s1 x1 s2 x2))) := (Y2.out.below BB3.out).c 0 rfl; have f5 : a3.cell? ⟨w4.heap.size, 1, none⟩ = some (.slice G4 g4 h4) := (Y2.out.below BB3.out).c 1 rfl; have f6 : a3.cell? ⟨w4.heap.size, 2, none⟩ = some (.bool (nOf (ofD s1 x1 s2 x2))) := (Y2.out.below BB3.out).c 2 rfl; have f7 : a3.cell? ⟨w4.heap.size, 3, none⟩ = some (.slice I4 i4 j4) := (Y2.out.below BB3.out).c 3 rfl; have f8 : a3.cell? ⟨W5.heap.size, 0, none⟩ = some (.bool s1) := (XX.out.below BB3.out).c 0 rfl; have f9 : a3.cell? ⟨W5.heap.size, 1, none⟩ = some (.slice A1 n1 c1) := (XX.out.below BB3.out).c 1 rfl; have f10 : a3.cell? ⟨W5.heap.size, 2, none⟩ = some (.bool s2) := (XX.out.below BB3.out).c 2 rfl; have f11 : a3.cell? ⟨W5.heap.size, 3, none⟩ = some (.slice A2 n2 c2) := (XX.out.below BB3.out).c 3 rfl; clear hb) | (go_at_call 28; (with_reducible refine (r3int_any z _ Z1 Z2).mono ?_); rintro e a4 ⟨T6, k6, r6, U6, l6, q6, rfl, hs, ht, hb⟩; have BB4 := Lib.hid (below_up BB3.out hb); have S5 := Lib.hid (S5.out.below hb); have T5' := Lib.hid (T5'.out.below hb); have S6 := Lib.hid hs; clear hs; have T6' := Lib.hid ht; clear ht; have f0 : a4.cell? ⟨w3.heap.size, 0, none⟩ = some (.bool (nOf (ofN s1 x1 s2 x2))) := (Y1.out.below BB4.out).c 0 rfl; have f1 : a4.cell? ⟨w3.heap.size, 1, none⟩ = some (.slice G3 g3 h3) := (Y1.out.below BB4.out).c 1 rfl; have f2 : a4.cell? ⟨w3.heap.size, 2, none⟩ = some (.bool (nOf (ofD s1 x1 s2 x2))) := (Y1.out.below BB4.out).c 2 rfl; have f3 : a4.cell? ⟨w3.heap.size, 3, none⟩ = some (.slice I3 i3 j3) := (Y1.out.below BB4.out).c 3 rfl; have f4 : a4.cell? ⟨w4.heap.size, 0, none⟩ = some (.bool (nOf (ofN s1 x1 s2 x2))) := (Y2.out.below BB4.out).c 0 rfl; have f5 : a4.cell? ⟨w4.heap.size, 1, none⟩ = some (.slice G4 g4 h4) := (Y2.out.below BB4.out).c 1 rfl; have f6 : a4.cell? ⟨w4.heap.size, 2, none⟩ = some (.bool (nOf (ofD s1 x1 s2 x2))) := (Y2.out.below BB4.out).c 2 rfl; have f7 : a4.cell? ⟨w4.heap.size, 3, none⟩ = some (.slice I4 i4 j4) := (Y2.out.below BB4.out).c 3 rfl; have f8 : a4.cell? ⟨W5.heap.size, 0, none⟩ = some (.bool s1) := (XX.out.below BB4.out).c 0 rfl; have f9 : a4.cell? ⟨W5.heap.size, 1, none⟩ = some (.slice A1 n1 c1) := (XX.out.below BB4.out).c 1 rfl; have f10 : a4.cell? ⟨W5.heap.size, 2, none⟩ = some (.bool s2) := (XX.out.below BB4.out).c 2 rfl; have f11 : a4.cell? ⟨W5.heap.size, 3, none⟩ = some (.slice A2 n2 c2) := (XX.out.below BB4.out).c 3 rfl; clear hb) | (go_at_call 25; (with_reducible refine (samer_ok z 1 z 1 T5 U5 T6 U6 k5 r5 l5 q5 k6 r6 l6 q6 _ S5.out T5'.out S6.out T6'.out rfl rfl).mono ?_); rintro e a5 ⟨rfl, hb⟩; have BB5 := Lib.hid (below_up BB4.out hb); have S5 := Lib.hid (S5.out.below hb); have T5' := Lib.hid (T5'.out.below hb); have S6 := Lib.hid (S6.out.below hb); have T6' := Lib.hid (T6'.out.below hb); have f0 : a5.cell? ⟨w3.heap.size, 0, none⟩ = some (.bool (nOf (ofN s1 x1 s2 x2))) := (Y1.out.below BB5.out).c 0 rfl; have f1 : a5.cell? ⟨w3.heap.size, 1, none⟩ = some (.slice G3 g3 h3) := (Y1.out.below BB5.out).c 1 rfl; have f2 : a5.cell? ⟨w3.heap.size, 2, none⟩ = some (.bool (nOf (ofD s1 x1 s2 x2))) := (Y1.out.below BB5.out).c 2 rfl; have f3 : a5.cell? ⟨w3.heap.size, 3, none⟩ = some (.slice I3 i3 j3) := (Y1.out.below BB5.out).c 3 rfl; have f4 : a5.cell? ⟨w4.heap.size, 0, none⟩ = some (.bool (nOf (ofN s1 x1 s2 x2))) := (Y2.out.below BB5.out).c 0 rfl; have f5 : a5.cell? ⟨w4.heap.size, 1, none⟩ = some (.slice G4 g4 h4) := (Y2.out.below BB5.out).c 1 rfl; have f6 : a5.cell? ⟨w4.heap.size, 2, none⟩ = some (.bool (nOf (ofD s1 x1 s2 x2))) := (Y2.out.below BB5.out).c 2 rfl; have f7 : a5.cell? ⟨w4.heap.size, 3, none⟩ = some (.slice I4 i4 j4) := (Y2.out.below BB5.out).c 3 rfl; have f8 : a5.cell? ⟨W5.heap.size, 0, none⟩ = some (.bool s1) := (XX.out.below BB5.out).c 0 rfl; have f9 : a5.cell? ⟨W5.heap.size, 1, none⟩ = some (.slice A1 n1 c1) := (XX.out.below BB5.out).c 1 rfl; have f10 : a5.cell? ⟨W5.heap.size, 2, none⟩ = some (.bool s2) := (XX.out.below BB5.out).c 2 rfl; have f11 : a5.cell? ⟨W5.heap.size, 3, none⟩ = some (.slice A2 n2 c2) := (XX.out.below BB5.out).c 3 rfl; clear hb) | (go_at_call 26; (with_reducible refine (rvalid_any s1 s2 A1 A2 n1 c1 n2 c2 x1 x2 _ (S1.out.below BB5.out) (S2.out.below BB5.out)).mono ?_); rintro e a6 ⟨rfl, hb⟩; rw [HV.out]; have BB6 := Lib.hid (below_up BB5.out hb); have S5 := Lib.hid (S5.out.below hb); have T5' := Lib.hid (T5'.out.below hb); have S6 := Lib.hid (S6.out.below hb); have T6' := Lib.hid (T6'.out.below hb); have f0 : a6.cell? ⟨w3.heap.size, 0, none⟩ = some (.bool (nOf (ofN s1 x1 s2 x2))) := (Y1.out.below BB6.out).c 0 rfl; have f1 : a6.cell? ⟨w3.heap.size, 1, none⟩ = some (.slice G3 g3 h3) := (Y1.out.below BB6.out).c 1 rfl; have f2 : a6.cell? ⟨w3.heap.size, 2, none⟩ = some (.bool (nOf (ofD s1 x1 s2 x2))) := (Y1.out.below BB6.out).c 2 rfl; have f3 : a6.cell? ⟨w3.heap.size, 3, none⟩ = some (.slice I3 i3 j3) := (Y1.out.below BB6.out).c 3 rfl; have f4 : a6.cell? ⟨w4.heap.size, 0, none⟩ = some (.bool (nOf (ofN s1 x1 s2 x2))) := (Y2.out.below BB6.out).c 0 rfl; have f5 : a6.cell? ⟨w4.heap.size, 1, none⟩ = some (.slice G4 g4 h4) := (Y2.out.below BB6.out).c 1 rfl; have f6 : a6.cell? ⟨w4.heap.size, 2, none⟩ = some (.bool (nOf (ofD s1 x1 s2 x2))) := (Y2.out.below BB6.out).c 2 rfl; have f7 : a6.cell? ⟨w4.heap.size, 3, none⟩ = some (.slice I4 i4 j4) := (Y2.out.below BB6.out).c 3 rfl; have f8 : a6.cell? ⟨W5.heap.size, 0, none⟩ = some (.bool s1) := (XX.out.below BB6.out).c 0 rfl; have f9 : a6.cell? ⟨W5.heap.size, 1, none⟩ = some (.slice A1 n1 c1) := (XX.out.below BB6.out).c 1 rfl; have f10 : a6.cell? ⟨W5.heap.size, 2, none⟩ = some (.bool s2) := (XX.out.below BB6.out).c 2 rfl; have f11 : a6.cell? ⟨W5.heap.size, 3, none⟩ = some (.slice A2 n2 c2) := (XX.out.below BB6.out).c 3 rfl; clear hb) | (go_at_call 29; (with_reducible refine (r3valid_any s1 s2 A1 A2 n1 c1 n2 c2 x1 x2 _ (S1.out.below BB6.out) (S2.out.below BB6.out)).mono ?_); rintro e a7 ⟨rfl, hb⟩; rw [HV.out]; have BB7 := Lib.hid (below_up BB6.out hb); have S5 := Lib.hid (S5.out.below hb); have T5' := Lib.hid (T5'.out.below hb); have S6 := Lib.hid (S6.out.below hb); have T6' := Lib.hid (T6'.out.below hb); have f0 : a7.cell? ⟨w3.heap.size, 0, none⟩ = some (.bool (nOf (ofN s1 x1 s2 x2))) := (Y1.out.below BB7.out).c 0 rfl; have f1 : a7.cell? ⟨w3.heap.size, 1, none⟩ = some (.slice G3 g3 h3) := (Y1.out.below BB7.out).c 1 rfl; have f2 : a7.cell? ⟨w3.heap.size, 2, none⟩ = some (.bool (nOf (ofD s1 x1 s2 x2))) := (Y1.out.below BB7.out).c 2 rfl; have f3 : a7.cell? ⟨w3.heap.size, 3, none⟩ = some (.slice I3 i3 j3) := (Y1.out.below BB7.out).c 3 rfl; have f4 : a7.cell? ⟨w4.heap.size, 0, none⟩ = some (.bool (nOf (ofN s1 x1 s2 x2))) := (Y2.out.below BB7.out).c 0 rfl; have f5 : a7.cell? ⟨w4.heap.size, 1, none⟩ = some (.slice G4 g4 h4) := (Y2.out.below BB7.out).c 1 rfl; have f6 : a7.cell? ⟨w4.heap.size, 2, none⟩ = some (.bool (nOf (ofD s1 x1 s2 x2))) := (Y2.out.below BB7.out).c 2 rfl; have f7 : a7.cell? ⟨w4.heap.size, 3, none⟩ = some (.slice I4 i4 j4) := (Y2.out.below BB7.out).c 3 rfl; have f8 : a7.cell? ⟨W5.heap.size, 0, none⟩ = some (.bool s1) := (XX.out.below BB7.out).c 0 rfl; have f9 : a7.cell? ⟨W5.heap.size, 1, none⟩ = some (.slice A1 n1 c1) := (XX.out.below BB7.out).c 1 rfl; have f10 : a7.cell? ⟨W5.heap.size, 2, none⟩ = some (.bool s2) := (XX.out.below BB7.out).c 2 rfl; have f11 : a7.cell? ⟨W5.heap.size, 3, none⟩ = some (.slice A2 n2 c2) := (XX.out.below BB7.out).c 3 rfl; clear hb) | (go_at_call 22; (with_reducible refine (awake3_any _ (tab_on TB.out BB7.out)).mono ?_); rintro e a8 ⟨rfl, hb⟩; have BB8 := Lib.hid (below_up BB7.out hb); have S5 := Lib.hid (S5.out.below hb); have T5' := Lib.hid (T5'.out.below hb); have S6 := Lib.hid (S6.out.below hb); have T6' := Lib.hid (T6'.out.below hb); have f0 : a8.cell? ⟨w3.heap.size, 0, none⟩ = some (.bool (nOf (ofN s1 x1 s2 x2))) := (Y1.out.below BB8.out).c 0 rfl; have f1 : a8.cell? ⟨w3.heap.size, 1, none⟩ = some (.slice G3 g3 h3) := (Y1.out.below BB8.out).c 1 rfl; have f2 : a8.cell? ⟨w3.heap.size, 2, none⟩ = some (.bool (nOf (ofD s1 x1 s2 x2))) := (Y1.out.below BB8.out).c 2 rfl; have f3 : a8.cell? ⟨w3.heap.size, 3, none⟩ = some (.slice I3 i3 j3) := (Y1.out.below BB8.out).c 3 rfl; have f4 : a8.cell? ⟨w4.heap.size, 0, none⟩ = some (.bool (nOf (ofN s1 x1 s2 x2))) := (Y2.out.below BB8.out).c 0 rfl; have f5 : a8.cell? ⟨w4.heap.size, 1, none⟩ = some (.slice G4 g4 h4) := (Y2.out.below BB8.out).c 1 rfl; have f6 : a8.cell? ⟨w4.heap.size, 2, none⟩ = some (.bool (nOf (ofD s1 x1 s2 x2))) := (Y2.out.below BB8.out).c 2 rfl; have f7 : a8.cell? ⟨w4.heap.size, 3, none⟩ = some (.slice I4 i4 j4) := (Y2.out.below BB8.out).c 3 rfl; have f8 : a8.cell? ⟨W5.heap.size, 0, none⟩ = some (.bool s1) := (XX.out.below BB8.out).c 0 rfl; have f9 : a8.cell? ⟨W5.heap.size, 1, none⟩ = some (.slice A1 n1 c1) := (XX.out.below BB8.out).c 1 rfl; have f10 : a8.cell? ⟨W5.heap.size, 2, none⟩ = some (.bool s2) := (XX.out.below BB8.out).c 2 rfl; have f11 : a8.cell? ⟨W5.heap.size, 3, none⟩ = some (.slice A2 n2 c2) := (XX.out.below BB8.out).c 3 rfl; clear hb))
      clear e0 e1 e2 e3 e4 e5 e6 e7 e8 e9 e10 e11
      try clear f0 f1 f2 f3 f4 f5 f6 f7 f8 f9 f10 f11
      have S1 := Lib.hid (S1.out.below BB8.out)
      have S2 := Lib.hid (S2.out.below BB8.out)
      have TB := Lib.hid (tab_on TB.out BB8.out)
      have BW := Lib.hid (below_on BW.out BB8.out)
      have X1 := Lib.hid (X1.out.below BB8.out)
      have X2 := Lib.hid (X2.out.below BB8.out)
      have U3 := Lib.hid (U3.out.below BB8.out)
      have V3 := Lib.hid (V3.out.below BB8.out)
      have Y1 := Lib.hid (Y1.out.below BB8.out)
      have U4 := Lib.hid (U4.out.below BB8.out)
      have V4 := Lib.hid (V4.out.below BB8.out)
      have Y2 := Lib.hid (Y2.out.below BB8.out)
      have XX := Lib.hid (XX.out.below BB8.out)
      go_wp2_with fail
      go_ret
      exact ⟨rfl, BW.out⟩
    · have HL := Lib.hid hl
      clear hl
      have BW := Lib.hid (Below.refl w.heap.size w)
      go_enter Tryd.func5, Tryd.ntmps5
      go_upto_region 1 with fail
      have S1 := Lib.hid (S1.out.alloc (.cells #[.bool s1, .slice A1 n1 c1] 24))
      have S2 := Lib.hid (S2.out.alloc (.cells #[.bool s1, .slice A1 n1 c1] 24))
      have TB := Lib.hid (tab_on TB.out ((Below.refl _ _).alloc (Nat.le_refl _) (.cells #[.bool s1, .slice A1 n1 c1] 24)))
      have BW := Lib.hid (BW.out.alloc BW.out.size (.cells #[.bool s1, .slice A1 n1 c1] 24))
      have X1 := Lib.hid (Bk.new 24 w #[.bool s1, .slice A1 n1 c1])
      have S1 := Lib.hid (S1.out.alloc (.cells #[.bool s2, .slice A2 n2 c2] 24))
      have S2 := Lib.hid (S2.out.alloc (.cells #[.bool s2, .slice A2 n2 c2] 24))
      have TB := Lib.hid (tab_on TB.out ((Below.refl _ _).alloc (Nat.le_refl _) (.cells #[.bool s2, .slice A2 n2 c2] 24)))
      have BW := Lib.hid (BW.out.alloc BW.out.size (.cells #[.bool s2, .slice A2 n2 c2] 24))
      have X1 := Lib.hid (X1.out.alloc (.cells #[.bool s2, .slice A2 n2 c2] 24))
      have X2 := Lib.hid (Bk.new 24 (w.alloc (.cells #[.bool s1, .slice A1 n1 c1] 24)) #[.bool s2, .slice A2 n2 c2])
      rw [alloc_sz] at X2
      generalize ((w.alloc (.cells #[.bool s1, .slice A1 n1 c1] 24)).alloc (.cells #[.bool s2, .slice A2 n2 c2] 24)) = W0 at *
      have e0 : W0.cell? ⟨w.heap.size, 0, none⟩ = some (.bool s1) := X1.out.c 0 rfl
      have e1 : W0.cell? ⟨w.heap.size, 1, none⟩ = some (.slice A1 n1 c1) := X1.out.c 1 rfl
      have e2 : W0.cell? ⟨w.heap.size + 1, 0, none⟩ = some (.bool s2) := X2.out.c 0 rfl
      have e3 : W0.cell? ⟨w.heap.size + 1, 1, none⟩ = some (.slice A2 n2 c2) := X2.out.c 1 rfl
      go_wp2_with fail
      clear e0 e1 e2 e3
      have ln1 := X1.out.lt
      have ln2 := X2.out.lt
      have S1 := Lib.hid (S1.out.alloc (.cells #[.bool s1, .slice A1 n1 c1, .bool s2, .slice A2 n2 c2] 24))
      have S2 := Lib.hid (S2.out.alloc (.cells #[.bool s1, .slice A1 n1 c1, .bool s2, .slice A2 n2 c2] 24))
      have TB := Lib.hid (tab_on TB.out ((Below.refl _ _).alloc (Nat.le_refl _) (.cells #[.bool s1, .slice A1 n1 c1, .bool s2, .slice A2 n2 c2] 24)))
      have BW := Lib.hid (BW.out.alloc BW.out.size (.cells #[.bool s1, .slice A1 n1 c1, .bool s2, .slice A2 n2 c2] 24))
      have X1 := Lib.hid (X1.out.alloc (.cells #[.bool s1, .slice A1 n1 c1, .bool s2, .slice A2 n2 c2] 24))
      have X2 := Lib.hid (X2.out.alloc (.cells #[.bool s1, .slice A1 n1 c1, .bool s2, .slice A2 n2 c2] 24))
      have XL := Lib.hid (Bk.new 24 W0 #[.bool s1, .slice A1 n1 c1, .bool s2, .slice A2 n2 c2])
      generalize (W0.alloc (.cells #[.bool s1, .slice A1 n1 c1, .bool s2, .slice A2 n2 c2] 24)) = WL at *
      ((with_reducible refine (few_any W0.heap.size s1 s2 A1 A2 n1 c1 n2 c2 _ XL.out).mono ?_); rintro e w1 ⟨rfl, rfl⟩)
      rw [HL.out]
      clear XL
      have HB := Lib.hid hb0
      clear hb0
      generalize hvv : validR s1 x1 s2 x2 = vv at *
      have HV := Lib.hid hvv
      clear hvv
      have Z1 := z1
      have Z2 := z2
      have e0 : WL.cell? ⟨w.heap.size, 0, none⟩ = some (.bool s1) := X1.out.c 0 rfl
      have e1 : WL.cell? ⟨w.heap.size, 1, none⟩ = some (.slice A1 n1 c1) := X1.out.c 1 rfl
      have e2 : WL.cell? ⟨w.heap.size + 1, 0, none⟩ = some (.bool s2) := X2.out.c 0 rfl
      have e3 : WL.cell? ⟨w.heap.size + 1, 1, none⟩ = some (.slice A2 n2 c2) := X2.out.c 1 rfl
      go_wp2_with fail
      ((with_reducible refine (rof_any s1 s2 A1 A2 n1 c1 n2 c2 x1 x2 _ S1.out S2.out).mono ?_); rintro e w3 ⟨G3, g3, h3, I3, i3, j3, rfl, hs, ht, hb⟩)
      rw [HB.out]
      clear e0 e1 e2 e3
      have S1 := Lib.hid (S1.out.below hb)
      have S2 := Lib.hid (S2.out.below hb)
      have TB := Lib.hid (tab_on TB.out hb)
      have BW := Lib.hid (below_on BW.out hb)
      have X1 := Lib.hid (X1.out.below hb)
      have X2 := Lib.hid (X2.out.below hb)
      clear hb
      have U3 := Lib.hid hs
      have V3 := Lib.hid ht
      clear hs ht
      have e0 : w3.cell? ⟨w.heap.size, 0, none⟩ = some (.bool s1) := X1.out.c 0 rfl
      have e1 : w3.cell? ⟨w.heap.size, 1, none⟩ = some (.slice A1 n1 c1) := X1.out.c 1 rfl
      have e2 : w3.cell? ⟨w.heap.size + 1, 0, none⟩ = some (.bool s2) := X2.out.c 0 rfl
      have e3 : w3.cell? ⟨w.heap.size + 1, 1, none⟩ = some (.slice A2 n2 c2) := X2.out.c 1 rfl
      go_upto_region 4 with fail
      clear e0 e1 e2 e3
      have ln3 := X1.out.lt
      have ln4 := X2.out.lt
      have S1 := Lib.hid (S1.out.alloc (.cells #[.bool (nOf (ofN s1 x1 s2 x2)), .slice G3 g3 h3, .bool (nOf (ofD s1 x1 s2 x2)), .slice I3 i3 j3] 37))
      have S2 := Lib.hid (S2.out.alloc (.cells #[.bool (nOf (ofN s1 x1 s2 x2)), .slice G3 g3 h3, .bool (nOf (ofD s1 x1 s2 x2)), .slice I3 i3 j3] 37))
      have TB := Lib.hid (tab_on TB.out ((Below.refl _ _).alloc (Nat.le_refl _) (.cells #[.bool (nOf (ofN s1 x1 s2 x2)), .slice G3 g3 h3, .bool (nOf (ofD s1 x1 s2 x2)), .slice I3 i3 j3] 37)))
      have BW := Lib.hid (BW.out.alloc BW.out.size (.cells #[.bool (nOf (ofN s1 x1 s2 x2)), .slice G3 g3 h3, .bool (nOf (ofD s1 x1 s2 x2)), .slice I3 i3 j3] 37))
      have X1 := Lib.hid (X1.out.alloc (.cells #[.bool (nOf (ofN s1 x1 s2 x2)), .slice G3 g3 h3, .bool (nOf (ofD s1 x1 s2 x2)), .slice I3 i3 j3] 37))
      have X2 := Lib.hid (X2.out.alloc (.cells #[.bool (nOf (ofN s1 x1 s2 x2)), .slice G3 g3 h3, .bool (nOf (ofD s1 x1 s2 x2)), .slice I3 i3 j3] 37))
      have U3 := Lib.hid (U3.out.alloc (.cells #[.bool (nOf (ofN s1 x1 s2 x2)), .slice G3 g3 h3, .bool (nOf (ofD s1 x1 s2 x2)), .slice I3 i3 j3] 37))
      have V3 := Lib.hid (V3.out.alloc (.cells #[.bool (nOf (ofN s1 x1 s2 x2)), .slice G3 g3 h3, .bool (nOf (ofD s1 x1 s2 x2)), .slice I3 i3 j3] 37))
      have Y1 := Lib.hid (Bk.new 37 w3 #[.bool (nOf (ofN s1 x1 s2 x2)), .slice G3 g3 h3, .bool (nOf (ofD s1 x1 s2 x2)), .slice I3 i3 j3])
      generalize (w3.alloc (.cells #[.bool (nOf (ofN s1 x1 s2 x2)), .slice G3 g3 h3, .bool (nOf (ofD s1 x1 s2 x2)), .slice I3 i3 j3] 37)) = W4 at *
      have e0 : W4.cell? ⟨w.heap.size, 0, none⟩ = some (.bool s1) := X1.out.c 0 rfl
      have e1 : W4.cell? ⟨w.heap.size, 1, none⟩ = some (.slice A1 n1 c1) := X1.out.c 1 rfl
      have e2 : W4.cell? ⟨w.heap.size + 1, 0, none⟩ = some (.bool s2) := X2.out.c 0 rfl
      have e3 : W4.cell? ⟨w.heap.size + 1, 1, none⟩ = some (.slice A2 n2 c2) := X2.out.c 1 rfl
      go_wp2_with fail
      ((with_reducible refine (r3of_any s1 s2 A1 A2 n1 c1 n2 c2 x1 x2 _ S1.out S2.out).mono ?_); rintro e w4 ⟨G4, g4, h4, I4, i4, j4, rfl, hs, ht, hb⟩)
      rw [HB.out]
      clear e0 e1 e2 e3
      have S1 := Lib.hid (S1.out.below hb)
      have S2 := Lib.hid (S2.out.below hb)
      have TB := Lib.hid (tab_on TB.out hb)
      have BW := Lib.hid (below_on BW.out hb)
      have X1 := Lib.hid (X1.out.below hb)
      have X2 := Lib.hid (X2.out.below hb)
      have U3 := Lib.hid (U3.out.below hb)
      have V3 := Lib.hid (V3.out.below hb)
      have Y1 := Lib.hid (Y1.out.below hb)
      clear hb
      have U4 := Lib.hid hs
      have V4 := Lib.hid ht
      clear hs ht
      have e0 : w4.cell? ⟨w.heap.size, 0, none⟩ = some (.bool s1) := X1.out.c 0 rfl
      have e1 : w4.cell? ⟨w.heap.size, 1, none⟩ = some (.slice A1 n1 c1) := X1.out.c 1 rfl
      have e2 : w4.cell? ⟨w.heap.size + 1, 0, none⟩ = some (.bool s2) := X2.out.c 0 rfl
      have e3 : w4.cell? ⟨w.heap.size + 1, 1, none⟩ = some (.slice A2 n2 c2) := X2.out.c 1 rfl
      go_upto_region 5 with fail
      clear e0 e1 e2 e3
      have ln5 := X1.out.lt
      have ln6 := X2.out.lt
      have ln7 := Y1.out.lt
      have S1 := Lib.hid (S1.out.alloc (.cells #[.bool (nOf (ofN s1 x1 s2 x2)), .slice G4 g4 h4, .bool (nOf (ofD s1 x1 s2 x2)), .slice I4 i4 j4] 37))
      have S2 := Lib.hid (S2.out.alloc (.cells #[.bool (nOf (ofN s1 x1 s2 x2)), .slice G4 g4 h4, .bool (nOf (ofD s1 x1 s2 x2)), .slice I4 i4 j4] 37))
      have TB := Lib.hid (tab_on TB.out ((Below.refl _ _).alloc (Nat.le_refl _) (.cells #[.bool (nOf (ofN s1 x1 s2 x2)), .slice G4 g4 h4, .bool (nOf (ofD s1 x1 s2 x2)), .slice I4 i4 j4] 37)))
      have BW := Lib.hid (BW.out.alloc BW.out.size (.cells #[.bool (nOf (ofN s1 x1 s2 x2)), .slice G4 g4 h4, .bool (nOf (ofD s1 x1 s2 x2)), .slice I4 i4 j4] 37))
      have X1 := Lib.hid (X1.out.alloc (.cells #[.bool (nOf (ofN s1 x1 s2 x2)), .slice G4 g4 h4, .bool (nOf (ofD s1 x1 s2 x2)), .slice I4 i4 j4] 37))
      have X2 := Lib.hid (X2.out.alloc (.cells #[.bool (nOf (ofN s1 x1 s2 x2)), .slice G4 g4 h4, .bool (nOf (ofD s1 x1 s2 x2)), .slice I4 i4 j4] 37))
      have U3 := Lib.hid (U3.out.alloc (.cells #[.bool (nOf (ofN s1 x1 s2 x2)), .slice G4 g4 h4, .bool (nOf (ofD s1 x1 s2 x2)), .slice I4 i4 j4] 37))
      have V3 := Lib.hid (V3.out.alloc (.cells #[.bool (nOf (ofN s1 x1 s2 x2)), .slice G4 g4 h4, .bool (nOf (ofD s1 x1 s2 x2)), .slice I4 i4 j4] 37))
      have Y1 := Lib.hid (Y1.out.alloc (.cells #[.bool (nOf (ofN s1 x1 s2 x2)), .slice G4 g4 h4, .bool (nOf (ofD s1 x1 s2 x2)), .slice I4 i4 j4] 37))
      have U4 := Lib.hid (U4.out.alloc (.cells #[.bool (nOf (ofN s1 x1 s2 x2)), .slice G4 g4 h4, .bool (nOf (ofD s1 x1 s2 x2)), .slice I4 i4 j4] 37))
      have V4 := Lib.hid (V4.out.alloc (.cells #[.bool (nOf (ofN s1 x1 s2 x2)), .slice G4 g4 h4, .bool (nOf (ofD s1 x1 s2 x2)), .slice I4 i4 j4] 37))
      have Y2 := Lib.hid (Bk.new 37 w4 #[.bool (nOf (ofN s1 x1 s2 x2)), .slice G4 g4 h4, .bool (nOf (ofD s1 x1 s2 x2)), .slice I4 i4 j4])
      generalize (w4.alloc (.cells #[.bool (nOf (ofN s1 x1 s2 x2)), .slice G4 g4 h4, .bool (nOf (ofD s1 x1 s2 x2)), .slice I4 i4 j4] 37)) = W5 at *
      have e0 : W5.cell? ⟨w.heap.size, 0, none⟩ = some (.bool s1) := X1.out.c 0 rfl
      have e1 : W5.cell? ⟨w.heap.size, 1, none⟩ = some (.slice A1 n1 c1) := X1.out.c 1 rfl
      have e2 : W5.cell? ⟨w.heap.size + 1, 0, none⟩ = some (.bool s2) := X2.out.c 0 rfl
      have e3 : W5.cell? ⟨w.heap.size + 1, 1, none⟩ = some (.slice A2 n2 c2) := X2.out.c 1 rfl
      go_upto_region 6 with fail
      clear e0 e1 e2 e3
      have ln8 := X1.out.lt
      have ln9 := X2.out.lt
      have ln10 := Y1.out.lt
      have ln11 := Y2.out.lt
      have S1 := Lib.hid (S1.out.alloc (.cells #[.bool s1, .slice A1 n1 c1, .bool s2, .slice A2 n2 c2] 37))
      have S2 := Lib.hid (S2.out.alloc (.cells #[.bool s1, .slice A1 n1 c1, .bool s2, .slice A2 n2 c2] 37))
      have TB := Lib.hid (tab_on TB.out ((Below.refl _ _).alloc (Nat.le_refl _) (.cells #[.bool s1, .slice A1 n1 c1, .bool s2, .slice A2 n2 c2] 37)))
      have BW := Lib.hid (BW.out.alloc BW.out.size (.cells #[.bool s1, .slice A1 n1 c1, .bool s2, .slice A2 n2 c2] 37))
      have X1 := Lib.hid (X1.out.alloc (.cells #[.bool s1, .slice A1 n1 c1, .bool s2, .slice A2 n2 c2] 37))
      have X2 := Lib.hid (X2.out.alloc (.cells #[.bool s1, .slice A1 n1 c1, .bool s2, .slice A2 n2 c2] 37))
      have U3 := Lib.hid (U3.out.alloc (.cells #[.bool s1, .slice A1 n1 c1, .bool s2, .slice A2 n2 c2] 37))
      have V3 := Lib.hid (V3.out.alloc (.cells #[.bool s1, .slice A1 n1 c1, .bool s2, .slice A2 n2 c2] 37))
      have Y1 := Lib.hid (Y1.out.alloc (.cells #[.bool s1, .slice A1 n1 c1, .bool s2, .slice A2 n2 c2] 37))
      have U4 := Lib.hid (U4.out.alloc (.cells #[.bool s1, .slice A1 n1 c1, .bool s2, .slice A2 n2 c2] 37))
      have V4 := Lib.hid (V4.out.alloc (.cells #[.bool s1, .slice A1 n1 c1, .bool s2, .slice A2 n2 c2] 37))
      have Y2 := Lib.hid (Y2.out.alloc (.cells #[.bool s1, .slice A1 n1 c1, .bool s2, .slice A2 n2 c2] 37))
      have XX := Lib.hid (Bk.new 37 W5 #[.bool s1, .slice A1 n1 c1, .bool s2, .slice A2 n2 c2])
      generalize (W5.alloc (.cells #[.bool s1, .slice A1 n1 c1, .bool s2, .slice A2 n2 c2] 37)) = W6 at *
      have e0 : W6.cell? ⟨w3.heap.size, 0, none⟩ = some (.bool (nOf (ofN s1 x1 s2 x2))) := Y1.out.c 0 rfl
      have e1 : W6.cell? ⟨w3.heap.size, 1, none⟩ = some (.slice G3 g3 h3) := Y1.out.c 1 rfl
      have e2 : W6.cell? ⟨w3.heap.size, 2, none⟩ = some (.bool (nOf (ofD s1 x1 s2 x2))) := Y1.out.c 2 rfl
      have e3 : W6.cell? ⟨w3.heap.size, 3, none⟩ = some (.slice I3 i3 j3) := Y1.out.c 3 rfl
      have e4 : W6.cell? ⟨w4.heap.size, 0, none⟩ = some (.bool (nOf (ofN s1 x1 s2 x2))) := Y2.out.c 0 rfl
      have e5 : W6.cell? ⟨w4.heap.size, 1, none⟩ = some (.slice G4 g4 h4) := Y2.out.c 1 rfl
      have e6 : W6.cell? ⟨w4.heap.size, 2, none⟩ = some (.bool (nOf (ofD s1 x1 s2 x2))) := Y2.out.c 2 rfl
      have e7 : W6.cell? ⟨w4.heap.size, 3, none⟩ = some (.slice I4 i4 j4) := Y2.out.c 3 rfl
      have e8 : W6.cell? ⟨W5.heap.size, 0, none⟩ = some (.bool s1) := XX.out.c 0 rfl
      have e9 : W6.cell? ⟨W5.heap.size, 1, none⟩ = some (.slice A1 n1 c1) := XX.out.c 1 rfl
      have e10 : W6.cell? ⟨W5.heap.size, 2, none⟩ = some (.bool s2) := XX.out.c 2 rfl
      have e11 : W6.cell? ⟨W5.heap.size, 3, none⟩ = some (.slice A2 n2 c2) := XX.out.c 3 rfl
      refine wp_region_held_drew (S := fun w' => w'.cell? ⟨w3.heap.size, 0, none⟩ = some (.bool (nOf (ofN s1 x1 s2 x2))) ∧ w'.cell? ⟨w3.heap.size, 1, none⟩ = some (.slice G3 g3 h3) ∧ w'.cell? ⟨w3.heap.size, 2, none⟩ = some (.bool (nOf (ofD s1 x1 s2 x2))) ∧ w'.cell? ⟨w3.heap.size, 3, none⟩ = some (.slice I3 i3 j3) ∧ w'.cell? ⟨w4.heap.size, 0, none⟩ = some (.bool (nOf (ofN s1 x1 s2 x2))) ∧ w'.cell? ⟨w4.heap.size, 1, none⟩ = some (.slice G4 g4 h4) ∧ w'.cell? ⟨w4.heap.size, 2, none⟩ = some (.bool (nOf (ofD s1 x1 s2 x2))) ∧ w'.cell? ⟨w4.heap.size, 3, none⟩ = some (.slice I4 i4 j4) ∧ w'.cell? ⟨W5.heap.size, 0, none⟩ = some (.bool s1) ∧ w'.cell? ⟨W5.heap.size, 1, none⟩ = some (.slice A1 n1 c1) ∧ w'.cell? ⟨W5.heap.size, 2, none⟩ = some (.bool s2) ∧ w'.cell? ⟨W5.heap.size, 3, none⟩ = some (.slice A2 n2 c2)) (by kernel_rfl) ?_ (fun hHeld => ?_)
      · (try dsimp only)
        go_keep
      refine wpAnyH_take (i := 0) (oi := { dst := some 33, op := Go.Op.load 37 (Go.Operand.tmp 7), type := 37, pos := "law.go:57", after := #[], guard := none }) (v := .agg #[.bool (nOf (ofN s1 x1 s2 x2)), .slice G3 g3 h3, .bool (nOf (ofD s1 x1 s2 x2)), .slice I3 i3 j3]) rfl (by kernel_rfl) (by kernel_rfl) (by kernel_rfl) (fun _ _ _ h => h) (Or.inl ⟨by rfl, ?_⟩) (by assumption) ?_
      · intro w' hSw
        (try dsimp only at hSw)
        go_simp
        try (first | rfl | decide)
      simp only [Act.put, List.setIfInBounds_toArray, List.set_cons_zero, List.set_cons_succ]
      refine wpAnyH_take (i := 1) (oi := { dst := some 34, op := Go.Op.load 37 (Go.Operand.tmp 9), type := 37, pos := "law.go:57", after := #[], guard := none }) (v := .agg #[.bool (nOf (ofN s1 x1 s2 x2)), .slice G4 g4 h4, .bool (nOf (ofD s1 x1 s2 x2)), .slice I4 i4 j4]) rfl (by kernel_rfl) (by kernel_rfl) (by kernel_rfl) (fun _ _ _ h => h) (Or.inl ⟨by rfl, ?_⟩) (by assumption) ?_
      · intro w' hSw
        (try dsimp only at hSw)
        go_simp
        try (first | rfl | decide)
      simp only [Act.put, List.setIfInBounds_toArray, List.set_cons_zero, List.set_cons_succ]
      refine wpAnyH_ready (rs := [2]) (by kernel_rfl) (by simp) ?_
      refine AllReadyH.cons (o := { dst := some 35, op := Go.Op.call { callee := Go.Callee.value (Go.Operand.func 25), args := #[Go.Operand.tmp 33, Go.Operand.tmp 34], argTypes := #[37, 37] }, type := 4, pos := "law.go:57", after := #[{ on := 0, ground := Go.Ground.data }, { on := 1, ground := Go.Ground.data }], guard := none }) rfl (fun K hK => ?_) AllReadyH.nil
      go_simp
      ((with_reducible refine (samer_ok (ofN s1 x1 s2 x2) (ofD s1 x1 s2 x2) (ofN s1 x1 s2 x2) (ofD s1 x1 s2 x2) G3 I3 G4 I4 g3 h3 i3 j3 g4 h4 i4 j4 _ (by first | exact U3.out | exact U3.out.drew) (by first | exact V3.out | exact V3.out.drew) (by first | exact U4.out | exact U4.out.drew) (by first | exact V4.out | exact V4.out.drew) rfl rfl).mono ?_); rintro e a1 ⟨rfl, hb⟩)
      have BB1 := Lib.hid (show Below W6.heap.size W6 a1 from (by first | exact hb | exact (Below.refl _ _).drew.trans (hb.mono (Nat.le_refl _))))
      have f0 : a1.cell? ⟨w3.heap.size, 0, none⟩ = some (.bool (nOf (ofN s1 x1 s2 x2))) := (Y1.out.below BB1.out).c 0 rfl
      have f1 : a1.cell? ⟨w3.heap.size, 1, none⟩ = some (.slice G3 g3 h3) := (Y1.out.below BB1.out).c 1 rfl
      have f2 : a1.cell? ⟨w3.heap.size, 2, none⟩ = some (.bool (nOf (ofD s1 x1 s2 x2))) := (Y1.out.below BB1.out).c 2 rfl
      have f3 : a1.cell? ⟨w3.heap.size, 3, none⟩ = some (.slice I3 i3 j3) := (Y1.out.below BB1.out).c 3 rfl
      have f4 : a1.cell? ⟨w4.heap.size, 0, none⟩ = some (.bool (nOf (ofN s1 x1 s2 x2))) := (Y2.out.below BB1.out).c 0 rfl
      have f5 : a1.cell? ⟨w4.heap.size, 1, none⟩ = some (.slice G4 g4 h4) := (Y2.out.below BB1.out).c 1 rfl
      have f6 : a1.cell? ⟨w4.heap.size, 2, none⟩ = some (.bool (nOf (ofD s1 x1 s2 x2))) := (Y2.out.below BB1.out).c 2 rfl
      have f7 : a1.cell? ⟨w4.heap.size, 3, none⟩ = some (.slice I4 i4 j4) := (Y2.out.below BB1.out).c 3 rfl
      have f8 : a1.cell? ⟨W5.heap.size, 0, none⟩ = some (.bool s1) := (XX.out.below BB1.out).c 0 rfl
      have f9 : a1.cell? ⟨W5.heap.size, 1, none⟩ = some (.slice A1 n1 c1) := (XX.out.below BB1.out).c 1 rfl
      have f10 : a1.cell? ⟨W5.heap.size, 2, none⟩ = some (.bool s2) := (XX.out.below BB1.out).c 2 rfl
      have f11 : a1.cell? ⟨W5.heap.size, 3, none⟩ = some (.slice A2 n2 c2) := (XX.out.below BB1.out).c 3 rfl
      clear hb
      go_wp2_with fail
      refine hK.out _ _ ?_ (fun hHeld => ?_)
      · (try dsimp only)
        go_keep
      clear hK K
      try simp only [Act.put, List.setIfInBounds_toArray, List.set_cons_zero, List.set_cons_succ]
      refine wpAnyH_take (i := 3) (oi := { dst := some 36, op := Go.Op.move (Go.Operand.tmp 35), type := 4, pos := "law.go:57", after := #[{ on := 2, ground := Go.Ground.data }, { on := 2, ground := Go.Ground.chain }], guard := none }) (v := .bool true) rfl (by kernel_rfl) (by kernel_rfl) (by kernel_rfl) (fun _ _ _ h => h) (Or.inl ⟨by rfl, ?_⟩) (by assumption) ?_
      · intro w' hSw
        (try dsimp only at hSw)
        go_simp
        try (first | rfl | decide)
      simp only [Act.put, List.setIfInBounds_toArray, List.set_cons_zero, List.set_cons_succ]
      refine wpAnyH_take (i := 4) (oi := { dst := some 37, op := Go.Op.move (Go.Operand.tmp 8), type := 4, pos := "law.go:57", after := #[{ on := 3, ground := Go.Ground.guard }], guard := some (3, true) }) (v := .bool false) rfl (by kernel_rfl) (by kernel_rfl) (by kernel_rfl) (fun _ _ _ h => h) (Or.inl ⟨by rfl, ?_⟩) (by assumption) ?_
      · intro w' hSw
        (try dsimp only at hSw)
        go_simp
        try (first | rfl | decide)
      simp only [Act.put, List.setIfInBounds_toArray, List.set_cons_zero, List.set_cons_succ]
      refine wpAnyH_take (i := 5) (oi := { dst := some 38, op := Go.Op.move (Go.Operand.tmp 10), type := 4, pos := "law.go:57", after := #[{ on := 3, ground := Go.Ground.guard }], guard := some (3, true) }) (v := .bool false) rfl (by kernel_rfl) (by kernel_rfl) (by kernel_rfl) (fun _ _ _ h => h) (Or.inl ⟨by rfl, ?_⟩) (by assumption) ?_
      · intro w' hSw
        (try dsimp only at hSw)
        go_simp
        try (first | rfl | decide)
      simp only [Act.put, List.setIfInBounds_toArray, List.set_cons_zero, List.set_cons_succ]
      refine wpAnyH_take (i := 6) (oi := { dst := some 39, op := Go.Op.binOp Go.BinOp.eql 4 (Go.Operand.tmp 37) (Go.Operand.tmp 38) 4, type := 4, pos := "law.go:57", after := #[{ on := 4, ground := Go.Ground.data }, { on := 5, ground := Go.Ground.data }, { on := 3, ground := Go.Ground.guard }], guard := some (3, true) }) (v := .bool true) rfl (by kernel_rfl) (by kernel_rfl) (by kernel_rfl) (fun _ _ _ h => h) (Or.inl ⟨by rfl, ?_⟩) (by assumption) ?_
      · intro w' hSw
        (try dsimp only at hSw)
        go_simp
        try (first | rfl | decide)
      simp only [Act.put, List.setIfInBounds_toArray, List.set_cons_zero, List.set_cons_succ]
      refine wpAnyH_take (i := 7) (oi := { dst := some 40, op := Go.Op.pick (Go.Operand.tmp 36) (Go.Operand.tmp 39) (Go.Operand.const (Go.Value.bool false)), type := 4, pos := "law.go:57", after := #[{ on := 3, ground := Go.Ground.data }, { on := 6, ground := Go.Ground.data }], guard := none }) (v := .bool true) rfl (by kernel_rfl) (by kernel_rfl) (by kernel_rfl) (fun _ _ _ h => h) (Or.inl ⟨by rfl, ?_⟩) (by assumption) ?_
      · intro w' hSw
        (try dsimp only at hSw)
        go_simp
        try (first | rfl | decide)
      simp only [Act.put, List.setIfInBounds_toArray, List.set_cons_zero, List.set_cons_succ]
      refine wpAnyH_take (i := 8) (oi := { dst := some 41, op := Go.Op.move (Go.Operand.tmp 40), type := 4, pos := "law.go:57", after := #[{ on := 7, ground := Go.Ground.data }, { on := 3, ground := Go.Ground.chain }], guard := none }) (v := .bool true) rfl (by kernel_rfl) (by kernel_rfl) (by kernel_rfl) (fun _ _ _ h => h) (Or.inl ⟨by rfl, ?_⟩) (by assumption) ?_
      · intro w' hSw
        (try dsimp only at hSw)
        go_simp
        try (first | rfl | decide)
      simp only [Act.put, List.setIfInBounds_toArray, List.set_cons_zero, List.set_cons_succ]
      refine wpAnyH_take (i := 9) (oi := { dst := some 42, op := Go.Op.move (Go.Operand.tmp 8), type := 4, pos := "law.go:57", after := #[{ on := 8, ground := Go.Ground.guard }], guard := some (8, true) }) (v := .bool false) rfl (by kernel_rfl) (by kernel_rfl) (by kernel_rfl) (fun _ _ _ h => h) (Or.inl ⟨by rfl, ?_⟩) (by assumption) ?_
      · intro w' hSw
        (try dsimp only at hSw)
        go_simp
        try (first | rfl | decide)
      simp only [Act.put, List.setIfInBounds_toArray, List.set_cons_zero, List.set_cons_succ]
      refine wpAnyH_take (i := 10) (oi := { dst := some 43, op := Go.Op.unOp Go.UnOp.not 4 (Go.Operand.tmp 42), type := 4, pos := "law.go:57", after := #[{ on := 9, ground := Go.Ground.data }, { on := 8, ground := Go.Ground.guard }], guard := some (8, true) }) (v := .bool true) rfl (by kernel_rfl) (by kernel_rfl) (by kernel_rfl) (fun _ _ _ h => h) (Or.inl ⟨by rfl, ?_⟩) (by assumption) ?_
      · intro w' hSw
        (try dsimp only at hSw)
        go_simp
        try (first | rfl | decide)
      simp only [Act.put, List.setIfInBounds_toArray, List.set_cons_zero, List.set_cons_succ]
      refine wpAnyH_take (i := 11) (oi := { dst := some 44, op := Go.Op.move (Go.Operand.tmp 43), type := 4, pos := "law.go:57", after := #[{ on := 10, ground := Go.Ground.data }, { on := 8, ground := Go.Ground.chain }, { on := 8, ground := Go.Ground.guard }], guard := some (8, true) }) (v := .bool true) rfl (by kernel_rfl) (by kernel_rfl) (by kernel_rfl) (fun _ _ _ h => h) (Or.inl ⟨by rfl, ?_⟩) (by assumption) ?_
      · intro w' hSw
        (try dsimp only at hSw)
        go_simp
        try (first | rfl | decide)
      simp only [Act.put, List.setIfInBounds_toArray, List.set_cons_zero, List.set_cons_succ]
      refine wpAnyH_take (i := 12) (oi := { dst := some 45, op := Go.Op.load 37 (Go.Operand.tmp 7), type := 37, pos := "law.go:57", after := #[{ on := 11, ground := Go.Ground.guard }], guard := some (11, false) }) (v := undef) rfl (by kernel_rfl) (by kernel_rfl) (by kernel_rfl) (fun _ _ _ h => h) (Or.inr ⟨by rfl, rfl⟩) (by assumption) ?_
      simp only [Act.put, List.setIfInBounds_toArray, List.set_cons_zero, List.set_cons_succ]
      refine wpAnyH_take (i := 13) (oi := { dst := some 46, op := Go.Op.call { callee := Go.Callee.value (Go.Operand.func 26), args := #[Go.Operand.tmp 45], argTypes := #[37] }, type := 4, pos := "law.go:57", after := #[{ on := 12, ground := Go.Ground.data }, { on := 11, ground := Go.Ground.chain }, { on := 11, ground := Go.Ground.guard }], guard := some (11, false) }) (v := undef) rfl (by kernel_rfl) (by kernel_rfl) (by kernel_rfl) (fun _ _ _ h => h) (Or.inr ⟨by rfl, rfl⟩) (by assumption) ?_
      simp only [Act.put, List.setIfInBounds_toArray, List.set_cons_zero, List.set_cons_succ]
      refine wpAnyH_take (i := 14) (oi := { dst := some 47, op := Go.Op.pick (Go.Operand.tmp 44) (Go.Operand.const (Go.Value.bool true)) (Go.Operand.tmp 46), type := 4, pos := "law.go:57", after := #[{ on := 11, ground := Go.Ground.data }, { on := 13, ground := Go.Ground.data }, { on := 8, ground := Go.Ground.guard }], guard := some (8, true) }) (v := .bool true) rfl (by kernel_rfl) (by kernel_rfl) (by kernel_rfl) (fun _ _ _ h => h) (Or.inl ⟨by rfl, ?_⟩) (by assumption) ?_
      · intro w' hSw
        (try dsimp only at hSw)
        go_simp
        try (first | rfl | decide)
      simp only [Act.put, List.setIfInBounds_toArray, List.set_cons_zero, List.set_cons_succ]
      refine wpAnyH_take (i := 15) (oi := { dst := some 48, op := Go.Op.pick (Go.Operand.tmp 41) (Go.Operand.tmp 47) (Go.Operand.const (Go.Value.bool false)), type := 4, pos := "law.go:57", after := #[{ on := 8, ground := Go.Ground.data }, { on := 14, ground := Go.Ground.data }], guard := none }) (v := .bool true) rfl (by kernel_rfl) (by kernel_rfl) (by kernel_rfl) (fun _ _ _ h => h) (Or.inl ⟨by rfl, ?_⟩) (by assumption) ?_
      · intro w' hSw
        (try dsimp only at hSw)
        go_simp
        try (first | rfl | decide)
      simp only [Act.put, List.setIfInBounds_toArray, List.set_cons_zero, List.set_cons_succ]
      refine wpAnyH_take (i := 16) (oi := { dst := some 49, op := Go.Op.move (Go.Operand.tmp 48), type := 4, pos := "law.go:57", after := #[{ on := 15, ground := Go.Ground.data }, { on := 13, ground := Go.Ground.chain }], guard := none }) (v := .bool true) rfl (by kernel_rfl) (by kernel_rfl) (by kernel_rfl) (fun _ _ _ h => h) (Or.inl ⟨by rfl, ?_⟩) (by assumption) ?_
      · intro w' hSw
        (try dsimp only at hSw)
        go_simp
        try (first | rfl | decide)
      simp only [Act.put, List.setIfInBounds_toArray, List.set_cons_zero, List.set_cons_succ]
      refine wpAnyH_take (i := 17) (oi := { dst := some 50, op := Go.Op.move (Go.Operand.tmp 2), type := 3, pos := "law.go:57", after := #[{ on := 16, ground := Go.Ground.guard }], guard := some (16, true) }) (v := .int .i64 z) rfl (by kernel_rfl) (by kernel_rfl) (by kernel_rfl) (fun _ _ _ h => h) (Or.inl ⟨by rfl, ?_⟩) (by assumption) ?_
      · intro w' hSw
        (try dsimp only at hSw)
        go_simp
        try (first | rfl | decide)
      simp only [Act.put, List.setIfInBounds_toArray, List.set_cons_zero, List.set_cons_succ]
      refine wpAnyH_take (i := 19) (oi := { dst := some 52, op := Go.Op.move (Go.Operand.tmp 2), type := 3, pos := "law.go:57", after := #[{ on := 16, ground := Go.Ground.guard }], guard := some (16, true) }) (v := .int .i64 z) rfl (by kernel_rfl) (by kernel_rfl) (by kernel_rfl) (fun _ _ _ h => h) (Or.inl ⟨by rfl, ?_⟩) (by assumption) ?_
      · intro w' hSw
        (try dsimp only at hSw)
        go_simp
        try (first | rfl | decide)
      simp only [Act.put, List.setIfInBounds_toArray, List.set_cons_zero, List.set_cons_succ]
      refine wpAnyH_ready (rs := [18]) (by kernel_rfl) (by simp) ?_
      refine AllReadyH.cons (o := { dst := some 51, op := Go.Op.call { callee := Go.Callee.value (Go.Operand.func 27), args := #[Go.Operand.tmp 50], argTypes := #[3] }, type := 37, pos := "law.go:57", after := #[{ on := 17, ground := Go.Ground.data }, { on := 16, ground := Go.Ground.chain }, { on := 16, ground := Go.Ground.guard }], guard := some (16, true) }) rfl (fun K hK => ?_) AllReadyH.nil
      go_simp
      ((with_reducible refine (rint_any z _ Z1 Z2).mono ?_); rintro e a2 ⟨T5, k5, r5, U5, l5, q5, rfl, hs, ht, hb⟩)
      have BB2 := Lib.hid (below_up BB1.out hb)
      have S5 := Lib.hid hs
      clear hs
      have T5' := Lib.hid ht
      clear ht
      have f0 : a2.cell? ⟨w3.heap.size, 0, none⟩ = some (.bool (nOf (ofN s1 x1 s2 x2))) := (Y1.out.below BB2.out).c 0 rfl
      have f1 : a2.cell? ⟨w3.heap.size, 1, none⟩ = some (.slice G3 g3 h3) := (Y1.out.below BB2.out).c 1 rfl
      have f2 : a2.cell? ⟨w3.heap.size, 2, none⟩ = some (.bool (nOf (ofD s1 x1 s2 x2))) := (Y1.out.below BB2.out).c 2 rfl
      have f3 : a2.cell? ⟨w3.heap.size, 3, none⟩ = some (.slice I3 i3 j3) := (Y1.out.below BB2.out).c 3 rfl
      have f4 : a2.cell? ⟨w4.heap.size, 0, none⟩ = some (.bool (nOf (ofN s1 x1 s2 x2))) := (Y2.out.below BB2.out).c 0 rfl
      have f5 : a2.cell? ⟨w4.heap.size, 1, none⟩ = some (.slice G4 g4 h4) := (Y2.out.below BB2.out).c 1 rfl
      have f6 : a2.cell? ⟨w4.heap.size, 2, none⟩ = some (.bool (nOf (ofD s1 x1 s2 x2))) := (Y2.out.below BB2.out).c 2 rfl
      have f7 : a2.cell? ⟨w4.heap.size, 3, none⟩ = some (.slice I4 i4 j4) := (Y2.out.below BB2.out).c 3 rfl
      have f8 : a2.cell? ⟨W5.heap.size, 0, none⟩ = some (.bool s1) := (XX.out.below BB2.out).c 0 rfl
      have f9 : a2.cell? ⟨W5.heap.size, 1, none⟩ = some (.slice A1 n1 c1) := (XX.out.below BB2.out).c 1 rfl
      have f10 : a2.cell? ⟨W5.heap.size, 2, none⟩ = some (.bool s2) := (XX.out.below BB2.out).c 2 rfl
      have f11 : a2.cell? ⟨W5.heap.size, 3, none⟩ = some (.slice A2 n2 c2) := (XX.out.below BB2.out).c 3 rfl
      clear hb
      go_wp2_with fail
      refine hK.out _ _ ?_ (fun hHeld => ?_)
      · (try dsimp only)
        go_keep
      clear hK K
      try simp only [Act.put, List.setIfInBounds_toArray, List.set_cons_zero, List.set_cons_succ]
      refine wpAnyH_ready (rs := [20]) (by kernel_rfl) (by simp) ?_
      refine AllReadyH.cons (o := { dst := some 53, op := Go.Op.call { callee := Go.Callee.value (Go.Operand.func 28), args := #[Go.Operand.tmp 52], argTypes := #[3] }, type := 37, pos := "law.go:57", after := #[{ on := 19, ground := Go.Ground.data }, { on := 18, ground := Go.Ground.chain }, { on := 16, ground := Go.Ground.guard }], guard := some (16, true) }) rfl (fun K hK => ?_) AllReadyH.nil
      go_simp
      ((with_reducible refine (r3int_any z _ Z1 Z2).mono ?_); rintro e a3 ⟨T6, k6, r6, U6, l6, q6, rfl, hs, ht, hb⟩)
      have BB3 := Lib.hid (below_up BB2.out hb)
      have S5 := Lib.hid (S5.out.below hb)
      have T5' := Lib.hid (T5'.out.below hb)
      have S6 := Lib.hid hs
      clear hs
      have T6' := Lib.hid ht
      clear ht
      have f0 : a3.cell? ⟨w3.heap.size, 0, none⟩ = some (.bool (nOf (ofN s1 x1 s2 x2))) := (Y1.out.below BB3.out).c 0 rfl
      have f1 : a3.cell? ⟨w3.heap.size, 1, none⟩ = some (.slice G3 g3 h3) := (Y1.out.below BB3.out).c 1 rfl
      have f2 : a3.cell? ⟨w3.heap.size, 2, none⟩ = some (.bool (nOf (ofD s1 x1 s2 x2))) := (Y1.out.below BB3.out).c 2 rfl
      have f3 : a3.cell? ⟨w3.heap.size, 3, none⟩ = some (.slice I3 i3 j3) := (Y1.out.below BB3.out).c 3 rfl
      have f4 : a3.cell? ⟨w4.heap.size, 0, none⟩ = some (.bool (nOf (ofN s1 x1 s2 x2))) := (Y2.out.below BB3.out).c 0 rfl
      have f5 : a3.cell? ⟨w4.heap.size, 1, none⟩ = some (.slice G4 g4 h4) := (Y2.out.below BB3.out).c 1 rfl
      have f6 : a3.cell? ⟨w4.heap.size, 2, none⟩ = some (.bool (nOf (ofD s1 x1 s2 x2))) := (Y2.out.below BB3.out).c 2 rfl
      have f7 : a3.cell? ⟨w4.heap.size, 3, none⟩ = some (.slice I4 i4 j4) := (Y2.out.below BB3.out).c 3 rfl
      have f8 : a3.cell? ⟨W5.heap.size, 0, none⟩ = some (.bool s1) := (XX.out.below BB3.out).c 0 rfl
      have f9 : a3.cell? ⟨W5.heap.size, 1, none⟩ = some (.slice A1 n1 c1) := (XX.out.below BB3.out).c 1 rfl
      have f10 : a3.cell? ⟨W5.heap.size, 2, none⟩ = some (.bool s2) := (XX.out.below BB3.out).c 2 rfl
      have f11 : a3.cell? ⟨W5.heap.size, 3, none⟩ = some (.slice A2 n2 c2) := (XX.out.below BB3.out).c 3 rfl
      clear hb
      go_wp2_with fail
      refine hK.out _ _ ?_ (fun hHeld => ?_)
      · (try dsimp only)
        go_keep
      clear hK K
      try simp only [Act.put, List.setIfInBounds_toArray, List.set_cons_zero, List.set_cons_succ]
      refine wpAnyH_ready (rs := [21]) (by kernel_rfl) (by simp) ?_
      refine AllReadyH.cons (o := { dst := some 54, op := Go.Op.call { callee := Go.Callee.value (Go.Operand.func 25), args := #[Go.Operand.tmp 51, Go.Operand.tmp 53], argTypes := #[37, 37] }, type := 4, pos := "law.go:57", after := #[{ on := 18, ground := Go.Ground.data }, { on := 20, ground := Go.Ground.data }, { on := 20, ground := Go.Ground.chain }, { on := 16, ground := Go.Ground.guard }], guard := some (16, true) }) rfl (fun K hK => ?_) AllReadyH.nil
      go_simp
      ((with_reducible refine (samer_ok z 1 z 1 T5 U5 T6 U6 k5 r5 l5 q5 k6 r6 l6 q6 _ S5.out T5'.out S6.out T6'.out rfl rfl).mono ?_); rintro e a4 ⟨rfl, hb⟩)
      have BB4 := Lib.hid (below_up BB3.out hb)
      have S5 := Lib.hid (S5.out.below hb)
      have T5' := Lib.hid (T5'.out.below hb)
      have S6 := Lib.hid (S6.out.below hb)
      have T6' := Lib.hid (T6'.out.below hb)
      have f0 : a4.cell? ⟨w3.heap.size, 0, none⟩ = some (.bool (nOf (ofN s1 x1 s2 x2))) := (Y1.out.below BB4.out).c 0 rfl
      have f1 : a4.cell? ⟨w3.heap.size, 1, none⟩ = some (.slice G3 g3 h3) := (Y1.out.below BB4.out).c 1 rfl
      have f2 : a4.cell? ⟨w3.heap.size, 2, none⟩ = some (.bool (nOf (ofD s1 x1 s2 x2))) := (Y1.out.below BB4.out).c 2 rfl
      have f3 : a4.cell? ⟨w3.heap.size, 3, none⟩ = some (.slice I3 i3 j3) := (Y1.out.below BB4.out).c 3 rfl
      have f4 : a4.cell? ⟨w4.heap.size, 0, none⟩ = some (.bool (nOf (ofN s1 x1 s2 x2))) := (Y2.out.below BB4.out).c 0 rfl
      have f5 : a4.cell? ⟨w4.heap.size, 1, none⟩ = some (.slice G4 g4 h4) := (Y2.out.below BB4.out).c 1 rfl
      have f6 : a4.cell? ⟨w4.heap.size, 2, none⟩ = some (.bool (nOf (ofD s1 x1 s2 x2))) := (Y2.out.below BB4.out).c 2 rfl
      have f7 : a4.cell? ⟨w4.heap.size, 3, none⟩ = some (.slice I4 i4 j4) := (Y2.out.below BB4.out).c 3 rfl
      have f8 : a4.cell? ⟨W5.heap.size, 0, none⟩ = some (.bool s1) := (XX.out.below BB4.out).c 0 rfl
      have f9 : a4.cell? ⟨W5.heap.size, 1, none⟩ = some (.slice A1 n1 c1) := (XX.out.below BB4.out).c 1 rfl
      have f10 : a4.cell? ⟨W5.heap.size, 2, none⟩ = some (.bool s2) := (XX.out.below BB4.out).c 2 rfl
      have f11 : a4.cell? ⟨W5.heap.size, 3, none⟩ = some (.slice A2 n2 c2) := (XX.out.below BB4.out).c 3 rfl
      clear hb
      go_wp2_with fail
      refine hK.out _ _ ?_ (fun hHeld => ?_)
      · (try dsimp only)
        go_keep
      clear hK K
      try simp only [Act.put, List.setIfInBounds_toArray, List.set_cons_zero, List.set_cons_succ]
      refine wpAnyH_take (i := 22) (oi := { dst := some 55, op := Go.Op.pick (Go.Operand.tmp 49) (Go.Operand.tmp 54) (Go.Operand.const (Go.Value.bool false)), type := 4, pos := "law.go:57", after := #[{ on := 16, ground := Go.Ground.data }, { on := 21, ground := Go.Ground.data }], guard := none }) (v := .bool true) rfl (by kernel_rfl) (by kernel_rfl) (by kernel_rfl) (fun _ _ _ h => h) (Or.inl ⟨by rfl, ?_⟩) (by assumption) ?_
      · intro w' hSw
        (try dsimp only at hSw)
        go_simp
        try (first | rfl | decide)
      simp only [Act.put, List.setIfInBounds_toArray, List.set_cons_zero, List.set_cons_succ]
      refine wpAnyH_take (i := 23) (oi := { dst := some 56, op := Go.Op.move (Go.Operand.tmp 55), type := 4, pos := "law.go:57", after := #[{ on := 22, ground := Go.Ground.data }, { on := 21, ground := Go.Ground.chain }], guard := none }) (v := .bool true) rfl (by kernel_rfl) (by kernel_rfl) (by kernel_rfl) (fun _ _ _ h => h) (Or.inl ⟨by rfl, ?_⟩) (by assumption) ?_
      · intro w' hSw
        (try dsimp only at hSw)
        go_simp
        try (first | rfl | decide)
      simp only [Act.put, List.setIfInBounds_toArray, List.set_cons_zero, List.set_cons_succ]
      refine wpAnyH_take (i := 24) (oi := { dst := some 57, op := Go.Op.load 37 (Go.Operand.tmp 11), type := 37, pos := "law.go:57", after := #[{ on := 23, ground := Go.Ground.guard }], guard := some (23, true) }) (v := .agg #[.bool s1, .slice A1 n1 c1, .bool s2, .slice A2 n2 c2]) rfl (by kernel_rfl) (by kernel_rfl) (by kernel_rfl) (fun _ _ _ h => h) (Or.inl ⟨by rfl, ?_⟩) (by assumption) ?_
      · intro w' hSw
        (try dsimp only at hSw)
        go_simp
        try (first | rfl | decide)
      simp only [Act.put, List.setIfInBounds_toArray, List.set_cons_zero, List.set_cons_succ]
      refine wpAnyH_take (i := 26) (oi := { dst := some 59, op := Go.Op.load 37 (Go.Operand.tmp 11), type := 37, pos := "law.go:57", after := #[{ on := 23, ground := Go.Ground.guard }], guard := some (23, true) }) (v := .agg #[.bool s1, .slice A1 n1 c1, .bool s2, .slice A2 n2 c2]) rfl (by kernel_rfl) (by kernel_rfl) (by kernel_rfl) (fun _ _ _ h => h) (Or.inl ⟨by rfl, ?_⟩) (by assumption) ?_
      · intro w' hSw
        (try dsimp only at hSw)
        go_simp
        try (first | rfl | decide)
      simp only [Act.put, List.setIfInBounds_toArray, List.set_cons_zero, List.set_cons_succ]
      refine wpAnyH_ready (rs := [25]) (by kernel_rfl) (by simp) ?_
      refine AllReadyH.cons (o := { dst := some 58, op := Go.Op.call { callee := Go.Callee.value (Go.Operand.func 26), args := #[Go.Operand.tmp 57], argTypes := #[37] }, type := 4, pos := "law.go:57", after := #[{ on := 24, ground := Go.Ground.data }, { on := 23, ground := Go.Ground.chain }, { on := 23, ground := Go.Ground.guard }], guard := some (23, true) }) rfl (fun K hK => ?_) AllReadyH.nil
      go_simp
      ((with_reducible refine (rvalid_any s1 s2 A1 A2 n1 c1 n2 c2 x1 x2 _ (S1.out.below BB4.out) (S2.out.below BB4.out)).mono ?_); rintro e a5 ⟨rfl, hb⟩)
      rw [HV.out]
      have BB5 := Lib.hid (below_up BB4.out hb)
      have S5 := Lib.hid (S5.out.below hb)
      have T5' := Lib.hid (T5'.out.below hb)
      have S6 := Lib.hid (S6.out.below hb)
      have T6' := Lib.hid (T6'.out.below hb)
      have f0 : a5.cell? ⟨w3.heap.size, 0, none⟩ = some (.bool (nOf (ofN s1 x1 s2 x2))) := (Y1.out.below BB5.out).c 0 rfl
      have f1 : a5.cell? ⟨w3.heap.size, 1, none⟩ = some (.slice G3 g3 h3) := (Y1.out.below BB5.out).c 1 rfl
      have f2 : a5.cell? ⟨w3.heap.size, 2, none⟩ = some (.bool (nOf (ofD s1 x1 s2 x2))) := (Y1.out.below BB5.out).c 2 rfl
      have f3 : a5.cell? ⟨w3.heap.size, 3, none⟩ = some (.slice I3 i3 j3) := (Y1.out.below BB5.out).c 3 rfl
      have f4 : a5.cell? ⟨w4.heap.size, 0, none⟩ = some (.bool (nOf (ofN s1 x1 s2 x2))) := (Y2.out.below BB5.out).c 0 rfl
      have f5 : a5.cell? ⟨w4.heap.size, 1, none⟩ = some (.slice G4 g4 h4) := (Y2.out.below BB5.out).c 1 rfl
      have f6 : a5.cell? ⟨w4.heap.size, 2, none⟩ = some (.bool (nOf (ofD s1 x1 s2 x2))) := (Y2.out.below BB5.out).c 2 rfl
      have f7 : a5.cell? ⟨w4.heap.size, 3, none⟩ = some (.slice I4 i4 j4) := (Y2.out.below BB5.out).c 3 rfl
      have f8 : a5.cell? ⟨W5.heap.size, 0, none⟩ = some (.bool s1) := (XX.out.below BB5.out).c 0 rfl
      have f9 : a5.cell? ⟨W5.heap.size, 1, none⟩ = some (.slice A1 n1 c1) := (XX.out.below BB5.out).c 1 rfl
      have f10 : a5.cell? ⟨W5.heap.size, 2, none⟩ = some (.bool s2) := (XX.out.below BB5.out).c 2 rfl
      have f11 : a5.cell? ⟨W5.heap.size, 3, none⟩ = some (.slice A2 n2 c2) := (XX.out.below BB5.out).c 3 rfl
      clear hb
      go_wp2_with fail
      refine hK.out _ _ ?_ (fun hHeld => ?_)
      · (try dsimp only)
        go_keep
      clear hK K
      try simp only [Act.put, List.setIfInBounds_toArray, List.set_cons_zero, List.set_cons_succ]
      refine wpAnyH_ready (rs := [27]) (by kernel_rfl) (by simp) ?_
      refine AllReadyH.cons (o := { dst := some 60, op := Go.Op.call { callee := Go.Callee.value (Go.Operand.func 29), args := #[Go.Operand.tmp 59], argTypes := #[37] }, type := 4, pos := "law.go:57", after := #[{ on := 26, ground := Go.Ground.data }, { on := 25, ground := Go.Ground.chain }, { on := 23, ground := Go.Ground.guard }], guard := some (23, true) }) rfl (fun K hK => ?_) AllReadyH.nil
      go_simp
      ((with_reducible refine (r3valid_any s1 s2 A1 A2 n1 c1 n2 c2 x1 x2 _ (S1.out.below BB5.out) (S2.out.below BB5.out)).mono ?_); rintro e a6 ⟨rfl, hb⟩)
      rw [HV.out]
      have BB6 := Lib.hid (below_up BB5.out hb)
      have S5 := Lib.hid (S5.out.below hb)
      have T5' := Lib.hid (T5'.out.below hb)
      have S6 := Lib.hid (S6.out.below hb)
      have T6' := Lib.hid (T6'.out.below hb)
      have f0 : a6.cell? ⟨w3.heap.size, 0, none⟩ = some (.bool (nOf (ofN s1 x1 s2 x2))) := (Y1.out.below BB6.out).c 0 rfl
      have f1 : a6.cell? ⟨w3.heap.size, 1, none⟩ = some (.slice G3 g3 h3) := (Y1.out.below BB6.out).c 1 rfl
      have f2 : a6.cell? ⟨w3.heap.size, 2, none⟩ = some (.bool (nOf (ofD s1 x1 s2 x2))) := (Y1.out.below BB6.out).c 2 rfl
      have f3 : a6.cell? ⟨w3.heap.size, 3, none⟩ = some (.slice I3 i3 j3) := (Y1.out.below BB6.out).c 3 rfl
      have f4 : a6.cell? ⟨w4.heap.size, 0, none⟩ = some (.bool (nOf (ofN s1 x1 s2 x2))) := (Y2.out.below BB6.out).c 0 rfl
      have f5 : a6.cell? ⟨w4.heap.size, 1, none⟩ = some (.slice G4 g4 h4) := (Y2.out.below BB6.out).c 1 rfl
      have f6 : a6.cell? ⟨w4.heap.size, 2, none⟩ = some (.bool (nOf (ofD s1 x1 s2 x2))) := (Y2.out.below BB6.out).c 2 rfl
      have f7 : a6.cell? ⟨w4.heap.size, 3, none⟩ = some (.slice I4 i4 j4) := (Y2.out.below BB6.out).c 3 rfl
      have f8 : a6.cell? ⟨W5.heap.size, 0, none⟩ = some (.bool s1) := (XX.out.below BB6.out).c 0 rfl
      have f9 : a6.cell? ⟨W5.heap.size, 1, none⟩ = some (.slice A1 n1 c1) := (XX.out.below BB6.out).c 1 rfl
      have f10 : a6.cell? ⟨W5.heap.size, 2, none⟩ = some (.bool s2) := (XX.out.below BB6.out).c 2 rfl
      have f11 : a6.cell? ⟨W5.heap.size, 3, none⟩ = some (.slice A2 n2 c2) := (XX.out.below BB6.out).c 3 rfl
      clear hb
      go_wp2_with fail
      refine hK.out _ _ ?_ (fun hHeld => ?_)
      · (try dsimp only)
        go_keep
      clear hK K
      try simp only [Act.put, List.setIfInBounds_toArray, List.set_cons_zero, List.set_cons_succ]
      refine wpAnyH_take (i := 28) (oi := { dst := some 61, op := Go.Op.binOp Go.BinOp.eql 4 (Go.Operand.tmp 58) (Go.Operand.tmp 60) 4, type := 4, pos := "law.go:57", after := #[{ on := 25, ground := Go.Ground.data }, { on := 27, ground := Go.Ground.data }, { on := 23, ground := Go.Ground.guard }], guard := some (23, true) }) (v := .bool true) rfl (by kernel_rfl) (by kernel_rfl) (by kernel_rfl) (fun _ _ _ h => h) (Or.inl ⟨by rfl, ?_⟩) (by assumption) ?_
      · intro w' hSw
        (try dsimp only at hSw)
        go_simp
        try (first | rfl | decide)
      simp only [Act.put, List.setIfInBounds_toArray, List.set_cons_zero, List.set_cons_succ]
      refine wpAnyH_take (i := 29) (oi := { dst := some 62, op := Go.Op.pick (Go.Operand.tmp 56) (Go.Operand.tmp 61) (Go.Operand.const (Go.Value.bool false)), type := 4, pos := "law.go:57", after := #[{ on := 23, ground := Go.Ground.data }, { on := 28, ground := Go.Ground.data }], guard := none }) (v := .bool true) rfl (by kernel_rfl) (by kernel_rfl) (by kernel_rfl) (fun _ _ _ h => h) (Or.inl ⟨by rfl, ?_⟩) (by assumption) ?_
      · intro w' hSw
        (try dsimp only at hSw)
        go_simp
        try (first | rfl | decide)
      simp only [Act.put, List.setIfInBounds_toArray, List.set_cons_zero, List.set_cons_succ]
      refine wpAnyH_take (i := 30) (oi := { dst := some 63, op := Go.Op.move (Go.Operand.tmp 62), type := 4, pos := "law.go:57", after := #[{ on := 29, ground := Go.Ground.data }, { on := 27, ground := Go.Ground.chain }], guard := none }) (v := .bool true) rfl (by kernel_rfl) (by kernel_rfl) (by kernel_rfl) (fun _ _ _ h => h) (Or.inl ⟨by rfl, ?_⟩) (by assumption) ?_
      · intro w' hSw
        (try dsimp only at hSw)
        go_simp
        try (first | rfl | decide)
      simp only [Act.put, List.setIfInBounds_toArray, List.set_cons_zero, List.set_cons_succ]
      refine wpAnyH_ready (rs := [31]) (by kernel_rfl) (by simp) ?_
      refine AllReadyH.cons (o := { dst := some 64, op := Go.Op.call { callee := Go.Callee.value (Go.Operand.func 22), args := #[], argTypes := #[] }, type := 4, pos := "law.go:57", after := #[{ on := 30, ground := Go.Ground.chain }, { on := 30, ground := Go.Ground.guard }], guard := some (30, true) }) rfl (fun K hK => ?_) AllReadyH.nil
      go_simp
      ((with_reducible refine (awake3_any _ (tab_on TB.out BB6.out)).mono ?_); rintro e a7 ⟨rfl, hb⟩)
      have BB7 := Lib.hid (below_up BB6.out hb)
      have S5 := Lib.hid (S5.out.below hb)
      have T5' := Lib.hid (T5'.out.below hb)
      have S6 := Lib.hid (S6.out.below hb)
      have T6' := Lib.hid (T6'.out.below hb)
      have f0 : a7.cell? ⟨w3.heap.size, 0, none⟩ = some (.bool (nOf (ofN s1 x1 s2 x2))) := (Y1.out.below BB7.out).c 0 rfl
      have f1 : a7.cell? ⟨w3.heap.size, 1, none⟩ = some (.slice G3 g3 h3) := (Y1.out.below BB7.out).c 1 rfl
      have f2 : a7.cell? ⟨w3.heap.size, 2, none⟩ = some (.bool (nOf (ofD s1 x1 s2 x2))) := (Y1.out.below BB7.out).c 2 rfl
      have f3 : a7.cell? ⟨w3.heap.size, 3, none⟩ = some (.slice I3 i3 j3) := (Y1.out.below BB7.out).c 3 rfl
      have f4 : a7.cell? ⟨w4.heap.size, 0, none⟩ = some (.bool (nOf (ofN s1 x1 s2 x2))) := (Y2.out.below BB7.out).c 0 rfl
      have f5 : a7.cell? ⟨w4.heap.size, 1, none⟩ = some (.slice G4 g4 h4) := (Y2.out.below BB7.out).c 1 rfl
      have f6 : a7.cell? ⟨w4.heap.size, 2, none⟩ = some (.bool (nOf (ofD s1 x1 s2 x2))) := (Y2.out.below BB7.out).c 2 rfl
      have f7 : a7.cell? ⟨w4.heap.size, 3, none⟩ = some (.slice I4 i4 j4) := (Y2.out.below BB7.out).c 3 rfl
      have f8 : a7.cell? ⟨W5.heap.size, 0, none⟩ = some (.bool s1) := (XX.out.below BB7.out).c 0 rfl
      have f9 : a7.cell? ⟨W5.heap.size, 1, none⟩ = some (.slice A1 n1 c1) := (XX.out.below BB7.out).c 1 rfl
      have f10 : a7.cell? ⟨W5.heap.size, 2, none⟩ = some (.bool s2) := (XX.out.below BB7.out).c 2 rfl
      have f11 : a7.cell? ⟨W5.heap.size, 3, none⟩ = some (.slice A2 n2 c2) := (XX.out.below BB7.out).c 3 rfl
      clear hb
      go_wp2_with fail
      refine hK.out _ _ ?_ (fun hHeld => ?_)
      · (try dsimp only)
        go_keep
      clear hK K
      try simp only [Act.put, List.setIfInBounds_toArray, List.set_cons_zero, List.set_cons_succ]
      refine wpAnyH_take (i := 32) (oi := { dst := some 65, op := Go.Op.pick (Go.Operand.tmp 63) (Go.Operand.tmp 64) (Go.Operand.const (Go.Value.bool false)), type := 4, pos := "law.go:57", after := #[{ on := 30, ground := Go.Ground.data }, { on := 31, ground := Go.Ground.data }], guard := none }) (v := .bool true) rfl (by kernel_rfl) (by kernel_rfl) (by kernel_rfl) (fun _ _ _ h => h) (Or.inl ⟨by rfl, ?_⟩) (by assumption) ?_
      · intro w' hSw
        (try dsimp only at hSw)
        go_simp
        try (first | rfl | decide)
      simp only [Act.put, List.setIfInBounds_toArray, List.set_cons_zero, List.set_cons_succ]
      refine wpAnyH_take (i := 33) (oi := { dst := some 6, op := Go.Op.assign (Go.Operand.tmp 65), type := 4, pos := "law.go:57", after := #[{ on := 32, ground := Go.Ground.data }, { on := 31, ground := Go.Ground.chain }, { on := 0, ground := Go.Ground.phase }, { on := 1, ground := Go.Ground.phase }, { on := 2, ground := Go.Ground.phase }, { on := 3, ground := Go.Ground.phase }, { on := 4, ground := Go.Ground.phase }, { on := 5, ground := Go.Ground.phase }, { on := 6, ground := Go.Ground.phase }, { on := 7, ground := Go.Ground.phase }, { on := 8, ground := Go.Ground.phase }, { on := 9, ground := Go.Ground.phase }, { on := 10, ground := Go.Ground.phase }, { on := 11, ground := Go.Ground.phase }, { on := 12, ground := Go.Ground.phase }, { on := 13, ground := Go.Ground.phase }, { on := 14, ground := Go.Ground.phase }, { on := 15, ground := Go.Ground.phase }, { on := 16, ground := Go.Ground.phase }, { on := 17, ground := Go.Ground.phase }, { on := 18, ground := Go.Ground.phase }, { on := 19, ground := Go.Ground.phase }, { on := 20, ground := Go.Ground.phase }, { on := 21, ground := Go.Ground.phase }, { on := 22, ground := Go.Ground.phase }, { on := 23, ground := Go.Ground.phase }, { on := 24, ground := Go.Ground.phase }, { on := 25, ground := Go.Ground.phase }, { on := 26, ground := Go.Ground.phase }, { on := 27, ground := Go.Ground.phase }, { on := 28, ground := Go.Ground.phase }, { on := 29, ground := Go.Ground.phase }, { on := 30, ground := Go.Ground.phase }, { on := 31, ground := Go.Ground.phase }, { on := 32, ground := Go.Ground.phase }], guard := none }) (v := .bool true) rfl (by kernel_rfl) (by kernel_rfl) (by kernel_rfl) (fun _ _ _ h => h) (Or.inl ⟨by rfl, ?_⟩) (by assumption) ?_
      · intro w' hSw
        (try dsimp only at hSw)
        go_simp
        try (first | rfl | decide)
      simp only [Act.put, List.setIfInBounds_toArray, List.set_cons_zero, List.set_cons_succ]
      refine wpAnyH_done (by kernel_rfl) ?_ _
      clear e0 e1 e2 e3 e4 e5 e6 e7 e8 e9 e10 e11
      try clear f0 f1 f2 f3 f4 f5 f6 f7 f8 f9 f10 f11
      have S1 := Lib.hid (S1.out.below BB7.out)
      have S2 := Lib.hid (S2.out.below BB7.out)
      have TB := Lib.hid (tab_on TB.out BB7.out)
      have BW := Lib.hid (below_on BW.out BB7.out)
      have X1 := Lib.hid (X1.out.below BB7.out)
      have X2 := Lib.hid (X2.out.below BB7.out)
      have U3 := Lib.hid (U3.out.below BB7.out)
      have V3 := Lib.hid (V3.out.below BB7.out)
      have Y1 := Lib.hid (Y1.out.below BB7.out)
      have U4 := Lib.hid (U4.out.below BB7.out)
      have V4 := Lib.hid (V4.out.below BB7.out)
      have Y2 := Lib.hid (Y2.out.below BB7.out)
      have XX := Lib.hid (XX.out.below BB7.out)
      go_wp2_with fail
      go_ret
      exact ⟨rfl, BW.out⟩
  · have HL := Lib.hid hl
    clear hl
    have BW := Lib.hid (Below.refl w.heap.size w)
    go_enter Tryd.func5, Tryd.ntmps5
    go_upto_region 1 with fail
    have S1 := Lib.hid (S1.out.alloc (.cells #[.bool s1, .slice A1 n1 c1] 24))
    have S2 := Lib.hid (S2.out.alloc (.cells #[.bool s1, .slice A1 n1 c1] 24))
    have TB := Lib.hid (tab_on TB.out ((Below.refl _ _).alloc (Nat.le_refl _) (.cells #[.bool s1, .slice A1 n1 c1] 24)))
    have BW := Lib.hid (BW.out.alloc BW.out.size (.cells #[.bool s1, .slice A1 n1 c1] 24))
    have X1 := Lib.hid (Bk.new 24 w #[.bool s1, .slice A1 n1 c1])
    have S1 := Lib.hid (S1.out.alloc (.cells #[.bool s2, .slice A2 n2 c2] 24))
    have S2 := Lib.hid (S2.out.alloc (.cells #[.bool s2, .slice A2 n2 c2] 24))
    have TB := Lib.hid (tab_on TB.out ((Below.refl _ _).alloc (Nat.le_refl _) (.cells #[.bool s2, .slice A2 n2 c2] 24)))
    have BW := Lib.hid (BW.out.alloc BW.out.size (.cells #[.bool s2, .slice A2 n2 c2] 24))
    have X1 := Lib.hid (X1.out.alloc (.cells #[.bool s2, .slice A2 n2 c2] 24))
    have X2 := Lib.hid (Bk.new 24 (w.alloc (.cells #[.bool s1, .slice A1 n1 c1] 24)) #[.bool s2, .slice A2 n2 c2])
    rw [alloc_sz] at X2
    generalize ((w.alloc (.cells #[.bool s1, .slice A1 n1 c1] 24)).alloc (.cells #[.bool s2, .slice A2 n2 c2] 24)) = W0 at *
    have e0 : W0.cell? ⟨w.heap.size, 0, none⟩ = some (.bool s1) := X1.out.c 0 rfl
    have e1 : W0.cell? ⟨w.heap.size, 1, none⟩ = some (.slice A1 n1 c1) := X1.out.c 1 rfl
    have e2 : W0.cell? ⟨w.heap.size + 1, 0, none⟩ = some (.bool s2) := X2.out.c 0 rfl
    have e3 : W0.cell? ⟨w.heap.size + 1, 1, none⟩ = some (.slice A2 n2 c2) := X2.out.c 1 rfl
    go_wp2_with fail
    clear e0 e1 e2 e3
    have ln1 := X1.out.lt
    have ln2 := X2.out.lt
    have S1 := Lib.hid (S1.out.alloc (.cells #[.bool s1, .slice A1 n1 c1, .bool s2, .slice A2 n2 c2] 24))
    have S2 := Lib.hid (S2.out.alloc (.cells #[.bool s1, .slice A1 n1 c1, .bool s2, .slice A2 n2 c2] 24))
    have TB := Lib.hid (tab_on TB.out ((Below.refl _ _).alloc (Nat.le_refl _) (.cells #[.bool s1, .slice A1 n1 c1, .bool s2, .slice A2 n2 c2] 24)))
    have BW := Lib.hid (BW.out.alloc BW.out.size (.cells #[.bool s1, .slice A1 n1 c1, .bool s2, .slice A2 n2 c2] 24))
    have X1 := Lib.hid (X1.out.alloc (.cells #[.bool s1, .slice A1 n1 c1, .bool s2, .slice A2 n2 c2] 24))
    have X2 := Lib.hid (X2.out.alloc (.cells #[.bool s1, .slice A1 n1 c1, .bool s2, .slice A2 n2 c2] 24))
    have XL := Lib.hid (Bk.new 24 W0 #[.bool s1, .slice A1 n1 c1, .bool s2, .slice A2 n2 c2])
    generalize (W0.alloc (.cells #[.bool s1, .slice A1 n1 c1, .bool s2, .slice A2 n2 c2] 24)) = WL at *
    ((with_reducible refine (few_any W0.heap.size s1 s2 A1 A2 n1 c1 n2 c2 _ XL.out).mono ?_); rintro e w1 ⟨rfl, rfl⟩)
    rw [HL.out]
    clear XL
    have e0 : WL.cell? ⟨w.heap.size, 0, none⟩ = some (.bool s1) := X1.out.c 0 rfl
    have e1 : WL.cell? ⟨w.heap.size, 1, none⟩ = some (.slice A1 n1 c1) := X1.out.c 1 rfl
    have e2 : WL.cell? ⟨w.heap.size + 1, 0, none⟩ = some (.bool s2) := X2.out.c 0 rfl
    have e3 : WL.cell? ⟨w.heap.size + 1, 1, none⟩ = some (.slice A2 n2 c2) := X2.out.c 1 rfl
    go_wp2_with fail
    ((with_reducible refine (awake3_any _ TB.out).mono ?_); rintro e w9 ⟨rfl, hb⟩)
    clear e0 e1 e2 e3
    have S1 := Lib.hid (S1.out.below hb)
    have S2 := Lib.hid (S2.out.below hb)
    have TB := Lib.hid (tab_on TB.out hb)
    have BW := Lib.hid (below_on BW.out hb)
    have X1 := Lib.hid (X1.out.below hb)
    have X2 := Lib.hid (X2.out.below hb)
    clear hb
    go_wp2_with fail
    go_ret
    exact ⟨rfl, BW.out⟩

set_option maxRecDepth 100000 in
theorem contract (H : Type) (enc : TypeId × Value → H) (W : World) (base : Nat) (args : Array Value) (ds gs : List (DataW H)) (before : List MemPlace)
    (hval : ∀ (j : Nat) t v, Tryd.f5.params[j]? = some t → args[j]? = some v → Value.okWide Tryd.prog W .any base t v)
    (hW : DataW.Whole enc Tryd.prog Tryd.f5.params.toList Rows.ratMakesSpec.vars false W args.toList ds gs before) (hL : laidMetH Tryd.prog Rows.ratMakesRow.laid W) :
    Calls Tryd.prog 5 args W fun e W' => ∃ v, e = .returned v ∧ Rows.ratMakesSpec.post enc Tryd.prog Tryd.f5 false true false false W args v W' := by
  have hW' := hW
  obtain ⟨p, q, hA0, hV, rfl, hfz, hnd⟩ := hW
  have hA : DataW.TrodAll enc Tryd.prog W 0 (fun _ => true) true Tryd.f5.params.toList args.toList ds p := hA0
  have hlt : ∀ x ∈ p, x.block < W.heap.size := fun x hx => hW'.lt x (by simp [hx])
  have hAll := hA
  rw [Tryd.params5] at hA hval
  obtain ⟨v0, vs0, d0, ds0, p0, q0, hargs, rfl, rfl, h0, r0⟩ := trodAll_cons hA
  obtain ⟨v1, vs1, d1, ds1, p1, q1, rfl, rfl, rfl, h1, r1⟩ := trodAll_cons r0
  obtain ⟨v2, vs2, d2, ds2, p2, q2, rfl, rfl, rfl, h2, r2⟩ := trodAll_cons r1
  obtain ⟨rfl, rfl, rfl⟩ := trodAll_nil r2
  obtain rfl : args = #[v0, v1, v2] := by cases args; simp_all
  obtain ⟨rfl, rfl⟩ := trodVars_none hV
  obtain ⟨s1, A1, n1, c1, x1, rfl, g1⟩ := open_big (hval 0 24 v0 rfl rfl) h0
  obtain ⟨s2, A2, n2, c2, x2, rfl, g2⟩ := open_big (hval 1 24 v1 rfl rfl) h1
  obtain ⟨a3, rfl, _, _, g3⟩ := open_int Tryd.underlying3 (hval 2 3 v2 rfl rfl) h2
  refine (walk s1 s2 A1 A2 n1 c1 n2 c2 x1 x2 a3 W g1 g2 (bounds_i64 g3).1 (bounds_i64 g3).2 (tab_of_laid hL)).mono fun e W' ⟨he, hg⟩ => ?_
  subst he
  refine ⟨_, rfl, _, _, _, [], _, [], hW', trodAll_mk1 (shut_bool Tryd.underlying4 _), trodAll_below hg (fun t ht => ?_) hAll hlt, rfl, hg.frame _, fun h => by cases h⟩
  rw [Tryd.params5] at ht
  simp only [List.mem_cons, List.not_mem_nil, or_false] at ht
  rcases ht with rfl | rfl | rfl
  · exact read_big
  · exact read_big
  · exact read_int

set_option maxRecDepth 100000 in
theorem reads (os : Os) {H : Type} (enc : TypeId × Value → H) : ∃ places, DataW.whole enc Tryd.prog ((World.doorLaid Tryd.prog 24 os).forCall (fun _ _ => 0) ⟨#[], #[Value.agg #[.bool false, .slice none 0 0], Value.agg #[.bool false, .slice none 0 0], Value.int .i64 0], []⟩).memory Tryd.f5.params.toList Rows.ratMakesSpec.vars false #[Value.agg #[.bool false, .slice none 0 0], Value.agg #[.bool false, .slice none 0 0], Value.int .i64 0].toList 8 = some ([.agg [.lit (.bool false), .nil], .agg [.lit (.bool false), .nil], .lit (.int .i64 0)], [], places) :=
  ⟨[], by kernel_rfl⟩

set_option maxRecDepth 100000 in
theorem lifted (os : Os) (started : os.Started) (H : Type) (enc : TypeId × Value → H) (F : Stop.Interp) :
    ReturnsInHanded {} Tryd.checked os 5 .any ((OpenSpec.ofChange Rows.ratMakesSpec).preRow enc Tryd.prog Tryd.f5 Rows.ratMakesRow.domain false Rows.ratMakesRow.laid) (((OpenSpec.ofChange Rows.ratMakesSpec).at F).post enc Tryd.prog Tryd.f5 false true false false) := by
  obtain ⟨places, hx⟩ := reads os enc
  refine returnsInHanded_of_row (C := Tryd.checked) (s := OpenSpec.ofChange Rows.ratMakesSpec) own started (by kernel_rfl) Tryd.func5
    (witness_row_at (enc := enc) (C := Tryd.checked) false (World.doorLaid Tryd.prog 24 os) #[Value.agg #[.bool false, .slice none 0 0], Value.agg #[.bool false, .slice none 0 0], Value.int .i64 0] rfl (by kernel_rfl) (by kernel_rfl) (by kernel_rfl)
      (OpenSpec.preRow_of_cond 8 hx (by kernel_rfl) (fun k hk => by cases hk) (by kernel_rfl) (laid_met os _))) ?_
  intro W base args ds gs before hval hW _ _ _ hL _ _
  exact contract H enc W base args ds gs before hval hW hL

theorem said : Rows.RatMakesSaid :=
  OpenClaim.holds_of_cond 5 Tryd.f5 rfl rfl rfl rfl rfl rfl rfl ⟨rfl, rfl, rfl, rfl, rfl⟩ rfl rfl rfl rfl rfl (by kernel_rfl) Tryd.func5 (by kernel_rfl)
    (of_decide_eq_true (by kernel_rfl)) (by unfold Func.isWrapper; first | (rw [if_pos (by decide +kernel)]; kernel_rfl) | (rw [if_neg (by decide +kernel)]; exact ⟨rfl, rfl⟩))
    (fun os started H enc _ F => by rw [OpenClaim.pre_eq_preRow]; exact lifted os started H enc F)

theorem plain (f : FuncId) (fn : Func) (hf : Tryd.pinned.checked.prog.funcNamed "liquidcheck/liquidchecklaw03.RatMakes" = some f) (hfn : Tryd.pinned.checked.prog.funcs[f]? = some fn) :
    false = Tryd.pinned.checked.prog.looks [] ∧ ∀ (j : Nat) t, fn.params[j]? = some t → Tryd.pinned.checked.prog.wantsStandIn t = false := by
  obtain rfl : f = 5 := Option.some.inj ((show Tryd.prog.funcNamed "liquidcheck/liquidchecklaw03.RatMakes" = some 5 by kernel_rfl).symm.trans hf) |>.symm
  obtain rfl : fn = Tryd.f5 := (Option.some.inj (Tryd.func5.symm.trans hfn)).symm
  refine ⟨by kernel_rfl, fun j t ht => ?_⟩
  rw [Tryd.params5] at ht
  have hm := Array.mem_of_getElem? ht
  simp only [List.mem_toArray, List.mem_cons, List.not_mem_nil, or_false] at hm
  rcases hm with rfl | rfl | rfl
  · exact (show Tryd.prog.wantsStandIn 24 = false by kernel_rfl)
  · exact (show Tryd.prog.wantsStandIn 24 = false by kernel_rfl)
  · exact (show Tryd.prog.wantsStandIn 3 = false by kernel_rfl)

theorem card : Rows.RatMakesCardSaid :=
  Claim7.holds_tied_plain_at .later [] _ _ _ _ said (fun _ h => by cases h) (by kernel_rfl) (fun _ h => by cases h) ratMakes_row_tie rfl ⟨rfl, rfl⟩ (by kernel_rfl) rfl plain (by kernel_rfl)
end Go.Proofs.YtamlkmmhbejgfaaDoor.ratMakes
