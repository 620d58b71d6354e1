/-
  Contracts of rat's Of and product.
-/
import Derived.Test.YtfenmogbellhdaaGreatDoorRatD
namespace Go.Proofs.YtfenmogbellhdaaGreatDoor
open Go.RowKit

/-- Two blocks that hold two fractions, in their form. -/
def PairR (w : World) (b1 b2 : Nat) (p q p' q' : Int) (wx : World) : Prop :=
  ∃ A n c B m d A' n' c' B' m' d', Bk 26 wx b1 #[.bool (nOf p), .slice A n c, .bool (nOf q), .slice B m d] ∧ Bk 26 wx b2 #[.bool (nOf p'), .slice A' n' c', .bool (nOf q'), .slice B' m' d'] ∧ Sl wx A n c (lOf p) ∧ Sl wx B m d (lOf q) ∧ Sl wx A' n' c' (lOf p') ∧ Sl wx B' m' d' (lOf q') ∧ Below w.heap.size w wx
theorem pairR_end {w W w2 : World} {b1 b2 : Nat} {x1 y1 x2 y2 : Bool} {A B A' B' : Option Addr} {n c m d n' c' m' d' : Nat} {p q p' q' : Int} {R1 R2 R3 R4 : Option Addr} {k1 r1 k2 r2 k3 r3 k4 r4 : Nat}
    (hW : Below w.heap.size w W) (h2 : Below W.heap.size W w2) (X1 : Bk 26 W b1 #[.bool x1, .slice A n c, .bool y1, .slice B m d]) (X2 : Bk 26 W b2 #[.bool x2, .slice A' n' c', .bool y2, .slice B' m' d']) (hne : b1 ≠ b2) (hb1 : w.heap.size ≤ b1) (hb2 : w.heap.size ≤ b2)
    (s1 : Sl w2 R1 k1 r1 (lOf p)) (s2 : Sl w2 R2 k2 r2 (lOf q)) (s3 : Sl w2 R3 k3 r3 (lOf p')) (s4 : Sl w2 R4 k4 r4 (lOf q')) :
    PairR w b1 b2 p q p' q' ((((((((w2.setCell ⟨b1, 0, none⟩ (.bool (nOf p))).setCell ⟨b1, 1, none⟩ (.slice R1 k1 r1)).setCell ⟨b1, 2, none⟩ (.bool (nOf q))).setCell ⟨b1, 3, none⟩ (.slice R2 k2 r2)).setCell ⟨b2, 0, none⟩ (.bool (nOf p'))).setCell ⟨b2, 1, none⟩ (.slice R3 k3 r3)).setCell ⟨b2, 2, none⟩ (.bool (nOf q'))).setCell ⟨b2, 3, none⟩ (.slice R4 k4 r4)) := by
  have Z1 := X1.below h2
  have Z2 := X2.below h2
  have Y2 := Z2.far4 (Ne.symm hne) (.bool (nOf p)) (.slice R1 k1 r1) (.bool (nOf q)) (.slice R2 k2 r2)
  refine ⟨R1, k1, r1, R2, k2, r2, R3, k3, r3, R4, k4, r4, (Z1.set4 _ _ _ _).far4 hne _ _ _ _, Y2.set4 _ _ _ _, (s1.bk4 Z1 _ _ _ _).bk4 Y2 _ _ _ _, (s2.bk4 Z1 _ _ _ _).bk4 Y2 _ _ _ _, (s3.bk4 Z1 _ _ _ _).bk4 Y2 _ _ _ _, (s4.bk4 Z1 _ _ _ _).bk4 Y2 _ _ _ _, ?_⟩
  exact below_set4 (below_set4 (hW.trans (h2.mono hW.size)) hb1 _ _ _ _) hb2 _ _ _ _

/-- What Of returns. -/
def ofB (na : Bool) (xs : List Int) (nb : Bool) (ys : List Int) : Bool := validB na xs && validB nb ys && zOf nb ys != 0
def ofN (na : Bool) (xs : List Int) (nb : Bool) (ys : List Int) : Int := if ofB na xs nb ys then loN (zOf na xs) (zOf nb ys) else 0
def ofD (na : Bool) (xs : List Int) (nb : Bool) (ys : List Int) : Int := if ofB na xs nb ys then loD (zOf na xs) (zOf nb ys) else 0
theorem of_no {na : Bool} {xs : List Int} {nb : Bool} {ys : List Int} (h : ofB na xs nb ys = false) : ofN na xs nb ys = 0 ∧ ofD na xs nb ys = 0 := by
  unfold ofN ofD; rw [h]; exact ⟨rfl, rfl⟩
theorem of_yes {na : Bool} {xs : List Int} {nb : Bool} {ys : List Int} (h : ofB na xs nb ys = true) : ofN na xs nb ys = loN (zOf na xs) (zOf nb ys) ∧ ofD na xs nb ys = loD (zOf na xs) (zOf nb ys) := by
  unfold ofN ofD; rw [h]; exact ⟨rfl, rfl⟩
theorem cmp_zero {z : Int} (h : z ≠ 0) : (cmpI z 0 == 0) = false := by
  rcases (by omega : z < 0 ∨ 0 < z) with h | h
  · rw [cmpI_lt h]; rfl
  · rw [cmpI_gt h]; rfl
theorem rof_any (na nb : Bool) (A B : Option Addr) (n c m d : Nat) (xs ys : List Int) (w : World) (ha : Sl w A n c xs) (hb : Sl w B m d ys) :
    Calls Tryz.prog 22 #[.agg #[.bool na, .slice A n c], .agg #[.bool nb, .slice B m d]] w fun e w' => ∃ T k r U l s, e = .returned (.tuple #[.agg #[.bool (nOf (ofN na xs nb ys)), .slice T k r, .bool (nOf (ofD na xs nb ys)), .slice U l s], .bool (ofB na xs nb ys)]) ∧ Sl w' T k r (lOf (ofN na xs nb ys)) ∧ Sl w' U l s (lOf (ofD na xs nb ys)) ∧ Below w.heap.size w w' := by
  have S1 := Lib.hid ha
  have S2 := Lib.hid hb
  clear ha hb
  rcases Bool.eq_false_or_eq_true (validB na xs) with h1 | h1
  · rcases Bool.eq_false_or_eq_true (validB nb ys) with h2 | h2
    · by_cases h3 : zOf nb ys = 0
      · have V1 := Lib.hid h1
        have V2 := Lib.hid h2
        have V3 := Lib.hid h3
        have VB : ofB na xs nb ys = false := by unfold ofB; rw [h1, h2, h3]; rfl
        have HB := Lib.hid VB
        have HE := Lib.hid (of_no VB)
        clear VB h1 h2 h3
        have CZ := Lib.hid (cmpI_eq V3.out)
        have BW := Lib.hid (Below.refl w.heap.size w)
        go_enter Tryz.func22, Tryz.ntmps22
        go_upto_region 1 with fail
        have S1 := Lib.hid (S1.out.alloc (.cells #[.bool na, .slice A n c] 24))
        have S2 := Lib.hid (S2.out.alloc (.cells #[.bool na, .slice A n c] 24))
        have BW := Lib.hid (BW.out.alloc BW.out.size (.cells #[.bool na, .slice A n c] 24))
        have X1 := Lib.hid (Bk.new 24 w #[.bool na, .slice A n c])
        have S1 := Lib.hid (S1.out.alloc (.cells #[.bool nb, .slice B m d] 24))
        have S2 := Lib.hid (S2.out.alloc (.cells #[.bool nb, .slice B m d] 24))
        have BW := Lib.hid (BW.out.alloc BW.out.size (.cells #[.bool nb, .slice B m d] 24))
        have X1 := Lib.hid (X1.out.alloc (.cells #[.bool nb, .slice B m d] 24))
        have X2 := Lib.hid (Bk.new 24 (w.alloc (.cells #[.bool na, .slice A n c] 24)) #[.bool nb, .slice B m d])
        rw [alloc_sz] at X2
        have S1 := Lib.hid (S1.out.alloc (.cells #[.bool false, .slice none 0 0, .bool false, .slice none 0 0] 26))
        have S2 := Lib.hid (S2.out.alloc (.cells #[.bool false, .slice none 0 0, .bool false, .slice none 0 0] 26))
        have BW := Lib.hid (BW.out.alloc BW.out.size (.cells #[.bool false, .slice none 0 0, .bool false, .slice none 0 0] 26))
        have X1 := Lib.hid (X1.out.alloc (.cells #[.bool false, .slice none 0 0, .bool false, .slice none 0 0] 26))
        have X2 := Lib.hid (X2.out.alloc (.cells #[.bool false, .slice none 0 0, .bool false, .slice none 0 0] 26))
        have X3 := Lib.hid (Bk.new 26 ((w.alloc (.cells #[.bool na, .slice A n c] 24)).alloc (.cells #[.bool nb, .slice B m d] 24)) #[.bool false, .slice none 0 0, .bool false, .slice none 0 0])
        rw [alloc_sz, alloc_sz] at X3
        generalize (((w.alloc (.cells #[.bool na, .slice A n c] 24)).alloc (.cells #[.bool nb, .slice B m d] 24)).alloc (.cells #[.bool false, .slice none 0 0, .bool false, .slice none 0 0] 26)) = W0 at *
        have e0 : W0.cell? ⟨w.heap.size, 0, none⟩ = some (.bool na) := X1.out.c 0 rfl
        have e1 : W0.cell? ⟨w.heap.size, 1, none⟩ = some (.slice A n c) := X1.out.c 1 rfl
        go_wp2_with fail
        ((with_reducible refine (valid_any na A n c xs _ S1.out).mono ?_); rintro e w1 ⟨rfl, hb⟩)
        rw [V1.out]
        clear e0 e1
        have S1 := Lib.hid (S1.out.below hb)
        have S2 := Lib.hid (S2.out.below hb)
        have BW := Lib.hid (below_on BW.out hb)
        have X1 := Lib.hid (X1.out.below hb)
        have X2 := Lib.hid (X2.out.below hb)
        have X3 := Lib.hid (X3.out.below hb)
        clear hb
        have e0 : w1.cell? ⟨w.heap.size + 1, 0, none⟩ = some (.bool nb) := X2.out.c 0 rfl
        have e1 : w1.cell? ⟨w.heap.size + 1, 1, none⟩ = some (.slice B m d) := X2.out.c 1 rfl
        go_wp2_with fail
        ((with_reducible refine (valid_any nb B m d ys _ S2.out).mono ?_); rintro e w2 ⟨rfl, hb⟩)
        rw [V2.out]
        clear e0 e1
        have S1 := Lib.hid (S1.out.below hb)
        have S2 := Lib.hid (S2.out.below hb)
        have BW := Lib.hid (below_on BW.out hb)
        have X1 := Lib.hid (X1.out.below hb)
        have X2 := Lib.hid (X2.out.below hb)
        have X3 := Lib.hid (X3.out.below hb)
        clear hb
        have e0 : w2.cell? ⟨w.heap.size + 1, 0, none⟩ = some (.bool nb) := X2.out.c 0 rfl
        have e1 : w2.cell? ⟨w.heap.size + 1, 1, none⟩ = some (.slice B m d) := X2.out.c 1 rfl
        go_wp2_with fail
        ((with_reducible refine (sign_any nb B m d ys _ S2.out).mono ?_); rintro e w3 ⟨rfl, hb⟩)
        rw [CZ.out]
        clear e0 e1
        have S1 := Lib.hid (S1.out.below hb)
        have S2 := Lib.hid (S2.out.below hb)
        have BW := Lib.hid (below_on BW.out hb)
        have X1 := Lib.hid (X1.out.below hb)
        have X2 := Lib.hid (X2.out.below hb)
        have X3 := Lib.hid (X3.out.below hb)
        clear hb
        have e0 : w3.cell? ⟨w.heap.size + 1 + 1, 0, none⟩ = some (.bool false) := X3.out.c 0 rfl
        have e1 : w3.cell? ⟨w.heap.size + 1 + 1, 1, none⟩ = some (.slice none 0 0) := X3.out.c 1 rfl
        have e2 : w3.cell? ⟨w.heap.size + 1 + 1, 2, none⟩ = some (.bool false) := X3.out.c 2 rfl
        have e3 : w3.cell? ⟨w.heap.size + 1 + 1, 3, none⟩ = some (.slice none 0 0) := X3.out.c 3 rfl
        have z4 := X3.out.fz 0
        have z5 := X3.out.fz 1
        have z6 := X3.out.fz 2
        have z7 := X3.out.fz 3
        go_wp2_with fail
        refine bodyPost_ret (v := .tuple #[.agg #[.bool false, .slice none 0 0, .bool false, .slice none 0 0], .bool false]) (by simp [results, Tryz.results22, go_sem, *]) rfl ⟨none, 0, 0, none, 0, 0, ?_, ?_, ?_, below_set4 BW.out (by omega) _ _ _ _⟩
        · rw [HB.out, HE.out.1, HE.out.2]; rfl
        · rw [HE.out.1, lOf_zero]; exact Sl.nil _
        · rw [HE.out.2, lOf_zero]; exact Sl.nil _
      · have V1 := Lib.hid h1
        have V2 := Lib.hid h2
        have V3 := Lib.hid h3
        have VB : ofB na xs nb ys = true := by unfold ofB; rw [h1, h2]; simpa using h3
        have HB := Lib.hid VB
        have HE := Lib.hid (of_yes VB)
        clear VB h1 h2 h3
        have CZ := cmp_zero V3.out
        generalize hcz : cmpI (zOf nb ys) 0 = cz at *
        have HCZ := Lib.hid hcz
        clear hcz
        obtain ⟨e1, e2⟩ := zOf_valid V1.out
        obtain ⟨e3, e4⟩ := zOf_valid V2.out
        have E1 := Lib.hid e1
        have E2 := Lib.hid e2
        have E3 := Lib.hid e3
        have E4 := Lib.hid e4
        clear e1 e2 e3 e4
        have BW := Lib.hid (Below.refl w.heap.size w)
        go_enter Tryz.func22, Tryz.ntmps22
        go_upto_region 1 with fail
        have S1 := Lib.hid (S1.out.alloc (.cells #[.bool na, .slice A n c] 24))
        have S2 := Lib.hid (S2.out.alloc (.cells #[.bool na, .slice A n c] 24))
        have BW := Lib.hid (BW.out.alloc BW.out.size (.cells #[.bool na, .slice A n c] 24))
        have X1 := Lib.hid (Bk.new 24 w #[.bool na, .slice A n c])
        have S1 := Lib.hid (S1.out.alloc (.cells #[.bool nb, .slice B m d] 24))
        have S2 := Lib.hid (S2.out.alloc (.cells #[.bool nb, .slice B m d] 24))
        have BW := Lib.hid (BW.out.alloc BW.out.size (.cells #[.bool nb, .slice B m d] 24))
        have X1 := Lib.hid (X1.out.alloc (.cells #[.bool nb, .slice B m d] 24))
        have X2 := Lib.hid (Bk.new 24 (w.alloc (.cells #[.bool na, .slice A n c] 24)) #[.bool nb, .slice B m d])
        rw [alloc_sz] at X2
        have S1 := Lib.hid (S1.out.alloc (.cells #[.bool false, .slice none 0 0, .bool false, .slice none 0 0] 26))
        have S2 := Lib.hid (S2.out.alloc (.cells #[.bool false, .slice none 0 0, .bool false, .slice none 0 0] 26))
        have BW := Lib.hid (BW.out.alloc BW.out.size (.cells #[.bool false, .slice none 0 0, .bool false, .slice none 0 0] 26))
        have X1 := Lib.hid (X1.out.alloc (.cells #[.bool false, .slice none 0 0, .bool false, .slice none 0 0] 26))
        have X2 := Lib.hid (X2.out.alloc (.cells #[.bool false, .slice none 0 0, .bool false, .slice none 0 0] 26))
        have X3 := Lib.hid (Bk.new 26 ((w.alloc (.cells #[.bool na, .slice A n c] 24)).alloc (.cells #[.bool nb, .slice B m d] 24)) #[.bool false, .slice none 0 0, .bool false, .slice none 0 0])
        rw [alloc_sz, alloc_sz] at X3
        generalize (((w.alloc (.cells #[.bool na, .slice A n c] 24)).alloc (.cells #[.bool nb, .slice B m d] 24)).alloc (.cells #[.bool false, .slice none 0 0, .bool false, .slice none 0 0] 26)) = W0 at *
        have e0 : W0.cell? ⟨w.heap.size, 0, none⟩ = some (.bool na) := X1.out.c 0 rfl
        have e1 : W0.cell? ⟨w.heap.size, 1, none⟩ = some (.slice A n c) := X1.out.c 1 rfl
        go_wp2_with fail
        ((with_reducible refine (valid_any na A n c xs _ S1.out).mono ?_); rintro e w1 ⟨rfl, hb⟩)
        rw [V1.out]
        clear e0 e1
        have S1 := Lib.hid (S1.out.below hb)
        have S2 := Lib.hid (S2.out.below hb)
        have BW := Lib.hid (below_on BW.out hb)
        have X1 := Lib.hid (X1.out.below hb)
        have X2 := Lib.hid (X2.out.below hb)
        have X3 := Lib.hid (X3.out.below hb)
        clear hb
        have e0 : w1.cell? ⟨w.heap.size + 1, 0, none⟩ = some (.bool nb) := X2.out.c 0 rfl
        have e1 : w1.cell? ⟨w.heap.size + 1, 1, none⟩ = some (.slice B m d) := X2.out.c 1 rfl
        go_wp2_with fail
        ((with_reducible refine (valid_any nb B m d ys _ S2.out).mono ?_); rintro e w2 ⟨rfl, hb⟩)
        rw [V2.out]
        clear e0 e1
        have S1 := Lib.hid (S1.out.below hb)
        have S2 := Lib.hid (S2.out.below hb)
        have BW := Lib.hid (below_on BW.out hb)
        have X1 := Lib.hid (X1.out.below hb)
        have X2 := Lib.hid (X2.out.below hb)
        have X3 := Lib.hid (X3.out.below hb)
        clear hb
        have e0 : w2.cell? ⟨w.heap.size + 1, 0, none⟩ = some (.bool nb) := X2.out.c 0 rfl
        have e1 : w2.cell? ⟨w.heap.size + 1, 1, none⟩ = some (.slice B m d) := X2.out.c 1 rfl
        go_wp2_with fail
        ((with_reducible refine (sign_any nb B m d ys _ S2.out).mono ?_); rintro e w3 ⟨rfl, hb⟩)
        rw [HCZ.out]
        clear e0 e1
        have S1 := Lib.hid (S1.out.below hb)
        have S2 := Lib.hid (S2.out.below hb)
        have BW := Lib.hid (below_on BW.out hb)
        have X1 := Lib.hid (X1.out.below hb)
        have X2 := Lib.hid (X2.out.below hb)
        have X3 := Lib.hid (X3.out.below hb)
        clear hb
        rw [E2.out] at S1
        rw [E4.out] at S2
        have e0 : w3.cell? ⟨w.heap.size, 0, none⟩ = some (.bool na) := X1.out.c 0 rfl
        have e1 : w3.cell? ⟨w.heap.size, 1, none⟩ = some (.slice A n c) := X1.out.c 1 rfl
        have e2 : w3.cell? ⟨w.heap.size + 1, 0, none⟩ = some (.bool nb) := X2.out.c 0 rfl
        have e3 : w3.cell? ⟨w.heap.size + 1, 1, none⟩ = some (.slice B m d) := X2.out.c 1 rfl
        go_wp2_with fail
        rw [E1.out, E3.out]
        ((with_reducible refine (low_any (zOf na xs) (zOf nb ys) A B n c m d _ S1.out S2.out (fit_zOf _ _) (fit_zOf _ _) V3.out).mono ?_); rintro e w4 ⟨T, k, r, U, l, s, rfl, hs, ht, hb⟩)
        clear e0 e1 e2 e3
        have S1 := Lib.hid (S1.out.below hb)
        have S2 := Lib.hid (S2.out.below hb)
        have BW := Lib.hid (below_on BW.out hb)
        have X1 := Lib.hid (X1.out.below hb)
        have X2 := Lib.hid (X2.out.below hb)
        have X3 := Lib.hid (X3.out.below hb)
        clear hb
        have S3 := Lib.hid hs
        have S4 := Lib.hid ht
        clear hs ht
        have e0 : w4.cell? ⟨w.heap.size + 1 + 1, 0, none⟩ = some (.bool false) := X3.out.c 0 rfl
        have e1 : w4.cell? ⟨w.heap.size + 1 + 1, 1, none⟩ = some (.slice none 0 0) := X3.out.c 1 rfl
        have e2 : w4.cell? ⟨w.heap.size + 1 + 1, 2, none⟩ = some (.bool false) := X3.out.c 2 rfl
        have e3 : w4.cell? ⟨w.heap.size + 1 + 1, 3, none⟩ = some (.slice none 0 0) := X3.out.c 3 rfl
        have z4 := X3.out.fz 0
        have z5 := X3.out.fz 1
        have z6 := X3.out.fz 2
        have z7 := X3.out.fz 3
        go_wp2_with fail
        refine bodyPost_ret (v := .tuple #[.agg #[.bool (nOf (loN (zOf na xs) (zOf nb ys))), .slice T k r, .bool (nOf (loD (zOf na xs) (zOf nb ys))), .slice U l s], .bool true]) (by simp [results, Tryz.results22, go_sem, *]) rfl ⟨T, k, r, U, l, s, ?_, ?_, ?_, below_set4 BW.out (by omega) _ _ _ _⟩
        · rw [HB.out, HE.out.1, HE.out.2]
        · rw [HE.out.1]; exact S3.out.bk4 X3.out _ _ _ _
        · rw [HE.out.2]; exact S4.out.bk4 X3.out _ _ _ _
    · have V1 := Lib.hid h1
      have V2 := Lib.hid h2
      have VB : ofB na xs nb ys = false := by unfold ofB; rw [h1, h2]; rfl
      have HB := Lib.hid VB
      have HE := Lib.hid (of_no VB)
      clear VB h1 h2
      have BW := Lib.hid (Below.refl w.heap.size w)
      go_enter Tryz.func22, Tryz.ntmps22
      go_upto_region 1 with fail
      have S1 := Lib.hid (S1.out.alloc (.cells #[.bool na, .slice A n c] 24))
      have S2 := Lib.hid (S2.out.alloc (.cells #[.bool na, .slice A n c] 24))
      have BW := Lib.hid (BW.out.alloc BW.out.size (.cells #[.bool na, .slice A n c] 24))
      have X1 := Lib.hid (Bk.new 24 w #[.bool na, .slice A n c])
      have S1 := Lib.hid (S1.out.alloc (.cells #[.bool nb, .slice B m d] 24))
      have S2 := Lib.hid (S2.out.alloc (.cells #[.bool nb, .slice B m d] 24))
      have BW := Lib.hid (BW.out.alloc BW.out.size (.cells #[.bool nb, .slice B m d] 24))
      have X1 := Lib.hid (X1.out.alloc (.cells #[.bool nb, .slice B m d] 24))
      have X2 := Lib.hid (Bk.new 24 (w.alloc (.cells #[.bool na, .slice A n c] 24)) #[.bool nb, .slice B m d])
      rw [alloc_sz] at X2
      have S1 := Lib.hid (S1.out.alloc (.cells #[.bool false, .slice none 0 0, .bool false, .slice none 0 0] 26))
      have S2 := Lib.hid (S2.out.alloc (.cells #[.bool false, .slice none 0 0, .bool false, .slice none 0 0] 26))
      have BW := Lib.hid (BW.out.alloc BW.out.size (.cells #[.bool false, .slice none 0 0, .bool false, .slice none 0 0] 26))
      have X1 := Lib.hid (X1.out.alloc (.cells #[.bool false, .slice none 0 0, .bool false, .slice none 0 0] 26))
      have X2 := Lib.hid (X2.out.alloc (.cells #[.bool false, .slice none 0 0, .bool false, .slice none 0 0] 26))
      have X3 := Lib.hid (Bk.new 26 ((w.alloc (.cells #[.bool na, .slice A n c] 24)).alloc (.cells #[.bool nb, .slice B m d] 24)) #[.bool false, .slice none 0 0, .bool false, .slice none 0 0])
      rw [alloc_sz, alloc_sz] at X3
      generalize (((w.alloc (.cells #[.bool na, .slice A n c] 24)).alloc (.cells #[.bool nb, .slice B m d] 24)).alloc (.cells #[.bool false, .slice none 0 0, .bool false, .slice none 0 0] 26)) = W0 at *
      have e0 : W0.cell? ⟨w.heap.size, 0, none⟩ = some (.bool na) := X1.out.c 0 rfl
      have e1 : W0.cell? ⟨w.heap.size, 1, none⟩ = some (.slice A n c) := X1.out.c 1 rfl
      go_wp2_with fail
      ((with_reducible refine (valid_any na A n c xs _ S1.out).mono ?_); rintro e w1 ⟨rfl, hb⟩)
      rw [V1.out]
      clear e0 e1
      have S1 := Lib.hid (S1.out.below hb)
      have S2 := Lib.hid (S2.out.below hb)
      have BW := Lib.hid (below_on BW.out hb)
      have X1 := Lib.hid (X1.out.below hb)
      have X2 := Lib.hid (X2.out.below hb)
      have X3 := Lib.hid (X3.out.below hb)
      clear hb
      have e0 : w1.cell? ⟨w.heap.size + 1, 0, none⟩ = some (.bool nb) := X2.out.c 0 rfl
      have e1 : w1.cell? ⟨w.heap.size + 1, 1, none⟩ = some (.slice B m d) := X2.out.c 1 rfl
      go_wp2_with fail
      ((with_reducible refine (valid_any nb B m d ys _ S2.out).mono ?_); rintro e w2 ⟨rfl, hb⟩)
      rw [V2.out]
      clear e0 e1
      have S1 := Lib.hid (S1.out.below hb)
      have S2 := Lib.hid (S2.out.below hb)
      have BW := Lib.hid (below_on BW.out hb)
      have X1 := Lib.hid (X1.out.below hb)
      have X2 := Lib.hid (X2.out.below hb)
      have X3 := Lib.hid (X3.out.below hb)
      clear hb
      have e0 : w2.cell? ⟨w.heap.size + 1 + 1, 0, none⟩ = some (.bool false) := X3.out.c 0 rfl
      have e1 : w2.cell? ⟨w.heap.size + 1 + 1, 1, none⟩ = some (.slice none 0 0) := X3.out.c 1 rfl
      have e2 : w2.cell? ⟨w.heap.size + 1 + 1, 2, none⟩ = some (.bool false) := X3.out.c 2 rfl
      have e3 : w2.cell? ⟨w.heap.size + 1 + 1, 3, none⟩ = some (.slice none 0 0) := X3.out.c 3 rfl
      have z4 := X3.out.fz 0
      have z5 := X3.out.fz 1
      have z6 := X3.out.fz 2
      have z7 := X3.out.fz 3
      go_wp2_with fail
      refine bodyPost_ret (v := .tuple #[.agg #[.bool false, .slice none 0 0, .bool false, .slice none 0 0], .bool false]) (by simp [results, Tryz.results22, go_sem, *]) rfl ⟨none, 0, 0, none, 0, 0, ?_, ?_, ?_, below_set4 BW.out (by omega) _ _ _ _⟩
      · rw [HB.out, HE.out.1, HE.out.2]; rfl
      · rw [HE.out.1, lOf_zero]; exact Sl.nil _
      · rw [HE.out.2, lOf_zero]; exact Sl.nil _
  · have V1 := Lib.hid h1
    have VB : ofB na xs nb ys = false := by unfold ofB; rw [h1]; rfl
    have HB := Lib.hid VB
    have HE := Lib.hid (of_no VB)
    clear VB h1
    have BW := Lib.hid (Below.refl w.heap.size w)
    go_enter Tryz.func22, Tryz.ntmps22
    go_upto_region 1 with fail
    have S1 := Lib.hid (S1.out.alloc (.cells #[.bool na, .slice A n c] 24))
    have S2 := Lib.hid (S2.out.alloc (.cells #[.bool na, .slice A n c] 24))
    have BW := Lib.hid (BW.out.alloc BW.out.size (.cells #[.bool na, .slice A n c] 24))
    have X1 := Lib.hid (Bk.new 24 w #[.bool na, .slice A n c])
    have S1 := Lib.hid (S1.out.alloc (.cells #[.bool nb, .slice B m d] 24))
    have S2 := Lib.hid (S2.out.alloc (.cells #[.bool nb, .slice B m d] 24))
    have BW := Lib.hid (BW.out.alloc BW.out.size (.cells #[.bool nb, .slice B m d] 24))
    have X1 := Lib.hid (X1.out.alloc (.cells #[.bool nb, .slice B m d] 24))
    have X2 := Lib.hid (Bk.new 24 (w.alloc (.cells #[.bool na, .slice A n c] 24)) #[.bool nb, .slice B m d])
    rw [alloc_sz] at X2
    have S1 := Lib.hid (S1.out.alloc (.cells #[.bool false, .slice none 0 0, .bool false, .slice none 0 0] 26))
    have S2 := Lib.hid (S2.out.alloc (.cells #[.bool false, .slice none 0 0, .bool false, .slice none 0 0] 26))
    have BW := Lib.hid (BW.out.alloc BW.out.size (.cells #[.bool false, .slice none 0 0, .bool false, .slice none 0 0] 26))
    have X1 := Lib.hid (X1.out.alloc (.cells #[.bool false, .slice none 0 0, .bool false, .slice none 0 0] 26))
    have X2 := Lib.hid (X2.out.alloc (.cells #[.bool false, .slice none 0 0, .bool false, .slice none 0 0] 26))
    have X3 := Lib.hid (Bk.new 26 ((w.alloc (.cells #[.bool na, .slice A n c] 24)).alloc (.cells #[.bool nb, .slice B m d] 24)) #[.bool false, .slice none 0 0, .bool false, .slice none 0 0])
    rw [alloc_sz, alloc_sz] at X3
    generalize (((w.alloc (.cells #[.bool na, .slice A n c] 24)).alloc (.cells #[.bool nb, .slice B m d] 24)).alloc (.cells #[.bool false, .slice none 0 0, .bool false, .slice none 0 0] 26)) = W0 at *
    have e0 : W0.cell? ⟨w.heap.size, 0, none⟩ = some (.bool na) := X1.out.c 0 rfl
    have e1 : W0.cell? ⟨w.heap.size, 1, none⟩ = some (.slice A n c) := X1.out.c 1 rfl
    go_wp2_with fail
    ((with_reducible refine (valid_any na A n c xs _ S1.out).mono ?_); rintro e w1 ⟨rfl, hb⟩)
    rw [V1.out]
    clear e0 e1
    have S1 := Lib.hid (S1.out.below hb)
    have S2 := Lib.hid (S2.out.below hb)
    have BW := Lib.hid (below_on BW.out hb)
    have X1 := Lib.hid (X1.out.below hb)
    have X2 := Lib.hid (X2.out.below hb)
    have X3 := Lib.hid (X3.out.below hb)
    clear hb
    have e0 : w1.cell? ⟨w.heap.size + 1 + 1, 0, none⟩ = some (.bool false) := X3.out.c 0 rfl
    have e1 : w1.cell? ⟨w.heap.size + 1 + 1, 1, none⟩ = some (.slice none 0 0) := X3.out.c 1 rfl
    have e2 : w1.cell? ⟨w.heap.size + 1 + 1, 2, none⟩ = some (.bool false) := X3.out.c 2 rfl
    have e3 : w1.cell? ⟨w.heap.size + 1 + 1, 3, none⟩ = some (.slice none 0 0) := X3.out.c 3 rfl
    have z4 := X3.out.fz 0
    have z5 := X3.out.fz 1
    have z6 := X3.out.fz 2
    have z7 := X3.out.fz 3
    go_wp2_with fail
    refine bodyPost_ret (v := .tuple #[.agg #[.bool false, .slice none 0 0, .bool false, .slice none 0 0], .bool false]) (by simp [results, Tryz.results22, go_sem, *]) rfl ⟨none, 0, 0, none, 0, 0, ?_, ?_, ?_, below_set4 BW.out (by omega) _ _ _ _⟩
    · rw [HB.out, HE.out.1, HE.out.2]; rfl
    · rw [HE.out.1, lOf_zero]; exact Sl.nil _
    · rw [HE.out.2, lOf_zero]; exact Sl.nil _

/-- Parts that both fit, or none. -/
def bothB (n d : Int) : Bool := fitB n && fitB d
def bothZ (z n d : Int) : Int := if bothB n d then z else 0
theorem both_yes {n d : Int} (z : Int) (h : bothB n d = true) : bothZ z n d = z := by unfold bothZ; rw [h]; rfl
theorem both_no {n d : Int} (z : Int) (h : bothB n d = false) : bothZ z n d = 0 := by unfold bothZ; rw [h]; rfl
theorem prod_any (p q p' q' : Int) (A1 B1 A2 B2 : Option Addr) (n1 c1 m1 d1 n2 c2 m2 d2 : Nat) (w : World) (ha : Sl w A1 n1 c1 (lOf p)) (hb : Sl w B1 m1 d1 (lOf q)) (hc : Sl w A2 n2 c2 (lOf p')) (hd : Sl w B2 m2 d2 (lOf q')) (h1 : fitB p = true) (h2 : fitB q = true) (h3 : fitB p' = true) (h4 : fitB q' = true) :
    Calls Tryz.prog 49 #[.agg #[.bool (nOf (p)), .slice A1 n1 c1, .bool (nOf (q)), .slice B1 m1 d1], .agg #[.bool (nOf (p')), .slice A2 n2 c2, .bool (nOf (q')), .slice B2 m2 d2]] w fun e w' => ∃ T k r U l s, e = .returned (.tuple #[.agg #[.bool (nOf (bothZ (p * p') (p * p') (q * q'))), .slice T k r, .bool (nOf (bothZ (q * q') (p * p') (q * q'))), .slice U l s], .bool (bothB (p * p') (q * q'))]) ∧ Sl w' T k r (lOf (bothZ (p * p') (p * p') (q * q'))) ∧ Sl w' U l s (lOf (bothZ (q * q') (p * p') (q * q'))) ∧ Below w.heap.size w w' := by
  have S1 := Lib.hid ha
  have S2 := Lib.hid hb
  have S3 := Lib.hid hc
  have S4 := Lib.hid hd
  clear ha hb hc hd
  have H1 := Lib.hid h1
  have H2 := Lib.hid h2
  have H3 := Lib.hid h3
  have H4 := Lib.hid h4
  clear h1 h2 h3 h4
  rcases Bool.eq_false_or_eq_true (fitB (p * p')) with g1 | g1
  · rcases Bool.eq_false_or_eq_true (fitB (q * q')) with g2 | g2
    · have G1 := Lib.hid g1
      have G2 := Lib.hid g2
      have VB : bothB (p * p') (q * q') = true := by unfold bothB; rw [g1, g2]; rfl
      have E1 := Lib.hid (both_yes (p * p') VB)
      have E2 := Lib.hid (both_yes (q * q') VB)
      have HB := Lib.hid VB
      clear VB g1 g2
      have BW := Lib.hid (Below.refl w.heap.size w)
      go_enter Tryz.func49, Tryz.ntmps49
      go_upto_region 1 with fail
      have S1 := Lib.hid (S1.out.alloc (.cells #[.bool (nOf (p)), .slice A1 n1 c1, .bool (nOf (q)), .slice B1 m1 d1] 26))
      have S2 := Lib.hid (S2.out.alloc (.cells #[.bool (nOf (p)), .slice A1 n1 c1, .bool (nOf (q)), .slice B1 m1 d1] 26))
      have S3 := Lib.hid (S3.out.alloc (.cells #[.bool (nOf (p)), .slice A1 n1 c1, .bool (nOf (q)), .slice B1 m1 d1] 26))
      have S4 := Lib.hid (S4.out.alloc (.cells #[.bool (nOf (p)), .slice A1 n1 c1, .bool (nOf (q)), .slice B1 m1 d1] 26))
      have BW := Lib.hid (BW.out.alloc BW.out.size (.cells #[.bool (nOf (p)), .slice A1 n1 c1, .bool (nOf (q)), .slice B1 m1 d1] 26))
      have X1 := Lib.hid (Bk.new 26 w #[.bool (nOf (p)), .slice A1 n1 c1, .bool (nOf (q)), .slice B1 m1 d1])
      have S1 := Lib.hid (S1.out.alloc (.cells #[.bool (nOf (p')), .slice A2 n2 c2, .bool (nOf (q')), .slice B2 m2 d2] 26))
      have S2 := Lib.hid (S2.out.alloc (.cells #[.bool (nOf (p')), .slice A2 n2 c2, .bool (nOf (q')), .slice B2 m2 d2] 26))
      have S3 := Lib.hid (S3.out.alloc (.cells #[.bool (nOf (p')), .slice A2 n2 c2, .bool (nOf (q')), .slice B2 m2 d2] 26))
      have S4 := Lib.hid (S4.out.alloc (.cells #[.bool (nOf (p')), .slice A2 n2 c2, .bool (nOf (q')), .slice B2 m2 d2] 26))
      have BW := Lib.hid (BW.out.alloc BW.out.size (.cells #[.bool (nOf (p')), .slice A2 n2 c2, .bool (nOf (q')), .slice B2 m2 d2] 26))
      have X1 := Lib.hid (X1.out.alloc (.cells #[.bool (nOf (p')), .slice A2 n2 c2, .bool (nOf (q')), .slice B2 m2 d2] 26))
      have X2 := Lib.hid (Bk.new 26 (w.alloc (.cells #[.bool (nOf (p)), .slice A1 n1 c1, .bool (nOf (q)), .slice B1 m1 d1] 26)) #[.bool (nOf (p')), .slice A2 n2 c2, .bool (nOf (q')), .slice B2 m2 d2])
      rw [alloc_sz] at X2
      have S1 := Lib.hid (S1.out.alloc (.cells #[.bool false, .slice none 0 0, .bool false, .slice none 0 0] 26))
      have S2 := Lib.hid (S2.out.alloc (.cells #[.bool false, .slice none 0 0, .bool false, .slice none 0 0] 26))
      have S3 := Lib.hid (S3.out.alloc (.cells #[.bool false, .slice none 0 0, .bool false, .slice none 0 0] 26))
      have S4 := Lib.hid (S4.out.alloc (.cells #[.bool false, .slice none 0 0, .bool false, .slice none 0 0] 26))
      have BW := Lib.hid (BW.out.alloc BW.out.size (.cells #[.bool false, .slice none 0 0, .bool false, .slice none 0 0] 26))
      have X1 := Lib.hid (X1.out.alloc (.cells #[.bool false, .slice none 0 0, .bool false, .slice none 0 0] 26))
      have X2 := Lib.hid (X2.out.alloc (.cells #[.bool false, .slice none 0 0, .bool false, .slice none 0 0] 26))
      have X3 := Lib.hid (Bk.new 26 ((w.alloc (.cells #[.bool (nOf (p)), .slice A1 n1 c1, .bool (nOf (q)), .slice B1 m1 d1] 26)).alloc (.cells #[.bool (nOf (p')), .slice A2 n2 c2, .bool (nOf (q')), .slice B2 m2 d2] 26)) #[.bool false, .slice none 0 0, .bool false, .slice none 0 0])
      rw [alloc_sz, alloc_sz] at X3
      generalize (((w.alloc (.cells #[.bool (nOf (p)), .slice A1 n1 c1, .bool (nOf (q)), .slice B1 m1 d1] 26)).alloc (.cells #[.bool (nOf (p')), .slice A2 n2 c2, .bool (nOf (q')), .slice B2 m2 d2] 26)).alloc (.cells #[.bool false, .slice none 0 0, .bool false, .slice none 0 0] 26)) = W0 at *
      have e0 : W0.cell? ⟨w.heap.size, 0, none⟩ = some (.bool (nOf (p))) := X1.out.c 0 rfl
      have e1 : W0.cell? ⟨w.heap.size, 1, none⟩ = some (.slice A1 n1 c1) := X1.out.c 1 rfl
      have e2 : W0.cell? ⟨w.heap.size, 2, none⟩ = some (.bool (nOf (q))) := X1.out.c 2 rfl
      have e3 : W0.cell? ⟨w.heap.size, 3, none⟩ = some (.slice B1 m1 d1) := X1.out.c 3 rfl
      have e4 : W0.cell? ⟨w.heap.size + 1, 0, none⟩ = some (.bool (nOf (p'))) := X2.out.c 0 rfl
      have e5 : W0.cell? ⟨w.heap.size + 1, 1, none⟩ = some (.slice A2 n2 c2) := X2.out.c 1 rfl
      have e6 : W0.cell? ⟨w.heap.size + 1, 2, none⟩ = some (.bool (nOf (q'))) := X2.out.c 2 rfl
      have e7 : W0.cell? ⟨w.heap.size + 1, 3, none⟩ = some (.slice B2 m2 d2) := X2.out.c 3 rfl
      go_wp2_with fail
      ((with_reducible refine (mul_z p p' A1 A2 n1 c1 n2 c2 _ S1.out S3.out H1.out H3.out).mono ?_); rintro e w1 ⟨T, k, r, rfl, hs, hb⟩)
      rw [G1.out]
      clear e0 e1 e2 e3 e4 e5 e6 e7
      have S1 := Lib.hid (S1.out.below hb)
      have S2 := Lib.hid (S2.out.below hb)
      have S3 := Lib.hid (S3.out.below hb)
      have S4 := Lib.hid (S4.out.below hb)
      have BW := Lib.hid (below_on BW.out hb)
      have X1 := Lib.hid (X1.out.below hb)
      have X2 := Lib.hid (X2.out.below hb)
      have X3 := Lib.hid (X3.out.below hb)
      clear hb
      have S5 := Lib.hid hs
      clear hs
      have e0 : w1.cell? ⟨w.heap.size, 0, none⟩ = some (.bool (nOf (p))) := X1.out.c 0 rfl
      have e1 : w1.cell? ⟨w.heap.size, 1, none⟩ = some (.slice A1 n1 c1) := X1.out.c 1 rfl
      have e2 : w1.cell? ⟨w.heap.size, 2, none⟩ = some (.bool (nOf (q))) := X1.out.c 2 rfl
      have e3 : w1.cell? ⟨w.heap.size, 3, none⟩ = some (.slice B1 m1 d1) := X1.out.c 3 rfl
      have e4 : w1.cell? ⟨w.heap.size + 1, 0, none⟩ = some (.bool (nOf (p'))) := X2.out.c 0 rfl
      have e5 : w1.cell? ⟨w.heap.size + 1, 1, none⟩ = some (.slice A2 n2 c2) := X2.out.c 1 rfl
      have e6 : w1.cell? ⟨w.heap.size + 1, 2, none⟩ = some (.bool (nOf (q'))) := X2.out.c 2 rfl
      have e7 : w1.cell? ⟨w.heap.size + 1, 3, none⟩ = some (.slice B2 m2 d2) := X2.out.c 3 rfl
      go_upto_region 2 with fail
      clear e0 e1 e2 e3 e4 e5 e6 e7
      have ln1 := X1.out.lt
      have ln2 := X2.out.lt
      have ln3 := X3.out.lt
      have S1 := Lib.hid (S1.out.alloc (.cells #[.bool (nOf (fitZ (p * p'))), .slice T k r] 24))
      have S2 := Lib.hid (S2.out.alloc (.cells #[.bool (nOf (fitZ (p * p'))), .slice T k r] 24))
      have S3 := Lib.hid (S3.out.alloc (.cells #[.bool (nOf (fitZ (p * p'))), .slice T k r] 24))
      have S4 := Lib.hid (S4.out.alloc (.cells #[.bool (nOf (fitZ (p * p'))), .slice T k r] 24))
      have BW := Lib.hid (BW.out.alloc BW.out.size (.cells #[.bool (nOf (fitZ (p * p'))), .slice T k r] 24))
      have X1 := Lib.hid (X1.out.alloc (.cells #[.bool (nOf (fitZ (p * p'))), .slice T k r] 24))
      have X2 := Lib.hid (X2.out.alloc (.cells #[.bool (nOf (fitZ (p * p'))), .slice T k r] 24))
      have X3 := Lib.hid (X3.out.alloc (.cells #[.bool (nOf (fitZ (p * p'))), .slice T k r] 24))
      have S5 := Lib.hid (S5.out.alloc (.cells #[.bool (nOf (fitZ (p * p'))), .slice T k r] 24))
      have X4 := Lib.hid (Bk.new 24 w1 #[.bool (nOf (fitZ (p * p'))), .slice T k r])
      generalize (w1.alloc (.cells #[.bool (nOf (fitZ (p * p'))), .slice T k r] 24)) = W1 at *
      have e0 : W1.cell? ⟨w.heap.size, 0, none⟩ = some (.bool (nOf (p))) := X1.out.c 0 rfl
      have e1 : W1.cell? ⟨w.heap.size, 1, none⟩ = some (.slice A1 n1 c1) := X1.out.c 1 rfl
      have e2 : W1.cell? ⟨w.heap.size, 2, none⟩ = some (.bool (nOf (q))) := X1.out.c 2 rfl
      have e3 : W1.cell? ⟨w.heap.size, 3, none⟩ = some (.slice B1 m1 d1) := X1.out.c 3 rfl
      have e4 : W1.cell? ⟨w.heap.size + 1, 0, none⟩ = some (.bool (nOf (p'))) := X2.out.c 0 rfl
      have e5 : W1.cell? ⟨w.heap.size + 1, 1, none⟩ = some (.slice A2 n2 c2) := X2.out.c 1 rfl
      have e6 : W1.cell? ⟨w.heap.size + 1, 2, none⟩ = some (.bool (nOf (q'))) := X2.out.c 2 rfl
      have e7 : W1.cell? ⟨w.heap.size + 1, 3, none⟩ = some (.slice B2 m2 d2) := X2.out.c 3 rfl
      go_wp2_with fail
      ((with_reducible refine (mul_z q q' B1 B2 m1 d1 m2 d2 _ S2.out S4.out H2.out H4.out).mono ?_); rintro e w2 ⟨U, l, s, rfl, hs, hb⟩)
      rw [G2.out]
      clear e0 e1 e2 e3 e4 e5 e6 e7
      have S1 := Lib.hid (S1.out.below hb)
      have S2 := Lib.hid (S2.out.below hb)
      have S3 := Lib.hid (S3.out.below hb)
      have S4 := Lib.hid (S4.out.below hb)
      have BW := Lib.hid (below_on BW.out hb)
      have X1 := Lib.hid (X1.out.below hb)
      have X2 := Lib.hid (X2.out.below hb)
      have X3 := Lib.hid (X3.out.below hb)
      have S5 := Lib.hid (S5.out.below hb)
      have X4 := Lib.hid (X4.out.below hb)
      clear hb
      have S6 := Lib.hid hs
      clear hs
      have e0 : w2.cell? ⟨w.heap.size, 0, none⟩ = some (.bool (nOf (p))) := X1.out.c 0 rfl
      have e1 : w2.cell? ⟨w.heap.size, 1, none⟩ = some (.slice A1 n1 c1) := X1.out.c 1 rfl
      have e2 : w2.cell? ⟨w.heap.size, 2, none⟩ = some (.bool (nOf (q))) := X1.out.c 2 rfl
      have e3 : w2.cell? ⟨w.heap.size, 3, none⟩ = some (.slice B1 m1 d1) := X1.out.c 3 rfl
      have e4 : w2.cell? ⟨w.heap.size + 1, 0, none⟩ = some (.bool (nOf (p'))) := X2.out.c 0 rfl
      have e5 : w2.cell? ⟨w.heap.size + 1, 1, none⟩ = some (.slice A2 n2 c2) := X2.out.c 1 rfl
      have e6 : w2.cell? ⟨w.heap.size + 1, 2, none⟩ = some (.bool (nOf (q'))) := X2.out.c 2 rfl
      have e7 : w2.cell? ⟨w.heap.size + 1, 3, none⟩ = some (.slice B2 m2 d2) := X2.out.c 3 rfl
      go_upto_region 3 with fail
      clear e0 e1 e2 e3 e4 e5 e6 e7
      have ln4 := X1.out.lt
      have ln5 := X2.out.lt
      have ln6 := X3.out.lt
      have ln7 := X4.out.lt
      have S1 := Lib.hid (S1.out.alloc (.cells #[.bool (nOf (fitZ (q * q'))), .slice U l s] 24))
      have S2 := Lib.hid (S2.out.alloc (.cells #[.bool (nOf (fitZ (q * q'))), .slice U l s] 24))
      have S3 := Lib.hid (S3.out.alloc (.cells #[.bool (nOf (fitZ (q * q'))), .slice U l s] 24))
      have S4 := Lib.hid (S4.out.alloc (.cells #[.bool (nOf (fitZ (q * q'))), .slice U l s] 24))
      have BW := Lib.hid (BW.out.alloc BW.out.size (.cells #[.bool (nOf (fitZ (q * q'))), .slice U l s] 24))
      have X1 := Lib.hid (X1.out.alloc (.cells #[.bool (nOf (fitZ (q * q'))), .slice U l s] 24))
      have X2 := Lib.hid (X2.out.alloc (.cells #[.bool (nOf (fitZ (q * q'))), .slice U l s] 24))
      have X3 := Lib.hid (X3.out.alloc (.cells #[.bool (nOf (fitZ (q * q'))), .slice U l s] 24))
      have S5 := Lib.hid (S5.out.alloc (.cells #[.bool (nOf (fitZ (q * q'))), .slice U l s] 24))
      have X4 := Lib.hid (X4.out.alloc (.cells #[.bool (nOf (fitZ (q * q'))), .slice U l s] 24))
      have S6 := Lib.hid (S6.out.alloc (.cells #[.bool (nOf (fitZ (q * q'))), .slice U l s] 24))
      have X5 := Lib.hid (Bk.new 24 w2 #[.bool (nOf (fitZ (q * q'))), .slice U l s])
      generalize (w2.alloc (.cells #[.bool (nOf (fitZ (q * q'))), .slice U l s] 24)) = W2 at *
      have e0 : W2.cell? ⟨w1.heap.size, 0, none⟩ = some (.bool (nOf (fitZ (p * p')))) := X4.out.c 0 rfl
      have e1 : W2.cell? ⟨w1.heap.size, 1, none⟩ = some (.slice T k r) := X4.out.c 1 rfl
      have e2 : W2.cell? ⟨w2.heap.size, 0, none⟩ = some (.bool (nOf (fitZ (q * q')))) := X5.out.c 0 rfl
      have e3 : W2.cell? ⟨w2.heap.size, 1, none⟩ = some (.slice U l s) := X5.out.c 1 rfl
      have e4 : W2.cell? ⟨w.heap.size + 1 + 1, 0, none⟩ = some (.bool false) := X3.out.c 0 rfl
      have e5 : W2.cell? ⟨w.heap.size + 1 + 1, 1, none⟩ = some (.slice none 0 0) := X3.out.c 1 rfl
      have e6 : W2.cell? ⟨w.heap.size + 1 + 1, 2, none⟩ = some (.bool false) := X3.out.c 2 rfl
      have e7 : W2.cell? ⟨w.heap.size + 1 + 1, 3, none⟩ = some (.slice none 0 0) := X3.out.c 3 rfl
      have z8 := X3.out.fz 0
      have z9 := X3.out.fz 1
      have z10 := X3.out.fz 2
      have z11 := X3.out.fz 3
      go_wp2_with fail
      refine bodyPost_ret (v := .tuple #[.agg #[.bool (nOf (fitZ (p * p'))), .slice T k r, .bool (nOf (fitZ (q * q'))), .slice U l s], .bool true]) (by simp [results, Tryz.results49, go_sem, *]) rfl ⟨T, k, r, U, l, s, ?_, ?_, ?_, below_set4 BW.out (by omega) _ _ _ _⟩
      · rw [HB.out, E1.out, E2.out, fitZ_of G1.out, fitZ_of G2.out]
      · rw [E1.out]; have := S5.out.bk4 X3.out (.bool (nOf (fitZ (p * p')))) (.slice T k r) (.bool (nOf (fitZ (q * q')))) (.slice U l s); rwa [show lOf (fitZ (p * p')) = lOf (p * p') by rw [fitZ_of G1.out]] at this
      · rw [E2.out]; have := S6.out.bk4 X3.out (.bool (nOf (fitZ (p * p')))) (.slice T k r) (.bool (nOf (fitZ (q * q')))) (.slice U l s); rwa [show lOf (fitZ (q * q')) = lOf (q * q') by rw [fitZ_of G2.out]] at this
    · have G1 := Lib.hid g1
      have G2 := Lib.hid g2
      have VB : bothB (p * p') (q * q') = false := by unfold bothB; rw [g1, g2]; rfl
      have E1 := Lib.hid (both_no (p * p') VB)
      have E2 := Lib.hid (both_no (q * q') VB)
      have HB := Lib.hid VB
      clear VB g1 g2
      have BW := Lib.hid (Below.refl w.heap.size w)
      go_enter Tryz.func49, Tryz.ntmps49
      go_upto_region 1 with fail
      have S1 := Lib.hid (S1.out.alloc (.cells #[.bool (nOf (p)), .slice A1 n1 c1, .bool (nOf (q)), .slice B1 m1 d1] 26))
      have S2 := Lib.hid (S2.out.alloc (.cells #[.bool (nOf (p)), .slice A1 n1 c1, .bool (nOf (q)), .slice B1 m1 d1] 26))
      have S3 := Lib.hid (S3.out.alloc (.cells #[.bool (nOf (p)), .slice A1 n1 c1, .bool (nOf (q)), .slice B1 m1 d1] 26))
      have S4 := Lib.hid (S4.out.alloc (.cells #[.bool (nOf (p)), .slice A1 n1 c1, .bool (nOf (q)), .slice B1 m1 d1] 26))
      have BW := Lib.hid (BW.out.alloc BW.out.size (.cells #[.bool (nOf (p)), .slice A1 n1 c1, .bool (nOf (q)), .slice B1 m1 d1] 26))
      have X1 := Lib.hid (Bk.new 26 w #[.bool (nOf (p)), .slice A1 n1 c1, .bool (nOf (q)), .slice B1 m1 d1])
      have S1 := Lib.hid (S1.out.alloc (.cells #[.bool (nOf (p')), .slice A2 n2 c2, .bool (nOf (q')), .slice B2 m2 d2] 26))
      have S2 := Lib.hid (S2.out.alloc (.cells #[.bool (nOf (p')), .slice A2 n2 c2, .bool (nOf (q')), .slice B2 m2 d2] 26))
      have S3 := Lib.hid (S3.out.alloc (.cells #[.bool (nOf (p')), .slice A2 n2 c2, .bool (nOf (q')), .slice B2 m2 d2] 26))
      have S4 := Lib.hid (S4.out.alloc (.cells #[.bool (nOf (p')), .slice A2 n2 c2, .bool (nOf (q')), .slice B2 m2 d2] 26))
      have BW := Lib.hid (BW.out.alloc BW.out.size (.cells #[.bool (nOf (p')), .slice A2 n2 c2, .bool (nOf (q')), .slice B2 m2 d2] 26))
      have X1 := Lib.hid (X1.out.alloc (.cells #[.bool (nOf (p')), .slice A2 n2 c2, .bool (nOf (q')), .slice B2 m2 d2] 26))
      have X2 := Lib.hid (Bk.new 26 (w.alloc (.cells #[.bool (nOf (p)), .slice A1 n1 c1, .bool (nOf (q)), .slice B1 m1 d1] 26)) #[.bool (nOf (p')), .slice A2 n2 c2, .bool (nOf (q')), .slice B2 m2 d2])
      rw [alloc_sz] at X2
      have S1 := Lib.hid (S1.out.alloc (.cells #[.bool false, .slice none 0 0, .bool false, .slice none 0 0] 26))
      have S2 := Lib.hid (S2.out.alloc (.cells #[.bool false, .slice none 0 0, .bool false, .slice none 0 0] 26))
      have S3 := Lib.hid (S3.out.alloc (.cells #[.bool false, .slice none 0 0, .bool false, .slice none 0 0] 26))
      have S4 := Lib.hid (S4.out.alloc (.cells #[.bool false, .slice none 0 0, .bool false, .slice none 0 0] 26))
      have BW := Lib.hid (BW.out.alloc BW.out.size (.cells #[.bool false, .slice none 0 0, .bool false, .slice none 0 0] 26))
      have X1 := Lib.hid (X1.out.alloc (.cells #[.bool false, .slice none 0 0, .bool false, .slice none 0 0] 26))
      have X2 := Lib.hid (X2.out.alloc (.cells #[.bool false, .slice none 0 0, .bool false, .slice none 0 0] 26))
      have X3 := Lib.hid (Bk.new 26 ((w.alloc (.cells #[.bool (nOf (p)), .slice A1 n1 c1, .bool (nOf (q)), .slice B1 m1 d1] 26)).alloc (.cells #[.bool (nOf (p')), .slice A2 n2 c2, .bool (nOf (q')), .slice B2 m2 d2] 26)) #[.bool false, .slice none 0 0, .bool false, .slice none 0 0])
      rw [alloc_sz, alloc_sz] at X3
      generalize (((w.alloc (.cells #[.bool (nOf (p)), .slice A1 n1 c1, .bool (nOf (q)), .slice B1 m1 d1] 26)).alloc (.cells #[.bool (nOf (p')), .slice A2 n2 c2, .bool (nOf (q')), .slice B2 m2 d2] 26)).alloc (.cells #[.bool false, .slice none 0 0, .bool false, .slice none 0 0] 26)) = W0 at *
      have e0 : W0.cell? ⟨w.heap.size, 0, none⟩ = some (.bool (nOf (p))) := X1.out.c 0 rfl
      have e1 : W0.cell? ⟨w.heap.size, 1, none⟩ = some (.slice A1 n1 c1) := X1.out.c 1 rfl
      have e2 : W0.cell? ⟨w.heap.size, 2, none⟩ = some (.bool (nOf (q))) := X1.out.c 2 rfl
      have e3 : W0.cell? ⟨w.heap.size, 3, none⟩ = some (.slice B1 m1 d1) := X1.out.c 3 rfl
      have e4 : W0.cell? ⟨w.heap.size + 1, 0, none⟩ = some (.bool (nOf (p'))) := X2.out.c 0 rfl
      have e5 : W0.cell? ⟨w.heap.size + 1, 1, none⟩ = some (.slice A2 n2 c2) := X2.out.c 1 rfl
      have e6 : W0.cell? ⟨w.heap.size + 1, 2, none⟩ = some (.bool (nOf (q'))) := X2.out.c 2 rfl
      have e7 : W0.cell? ⟨w.heap.size + 1, 3, none⟩ = some (.slice B2 m2 d2) := X2.out.c 3 rfl
      go_wp2_with fail
      ((with_reducible refine (mul_z p p' A1 A2 n1 c1 n2 c2 _ S1.out S3.out H1.out H3.out).mono ?_); rintro e w1 ⟨T, k, r, rfl, hs, hb⟩)
      rw [G1.out]
      clear e0 e1 e2 e3 e4 e5 e6 e7
      have S1 := Lib.hid (S1.out.below hb)
      have S2 := Lib.hid (S2.out.below hb)
      have S3 := Lib.hid (S3.out.below hb)
      have S4 := Lib.hid (S4.out.below hb)
      have BW := Lib.hid (below_on BW.out hb)
      have X1 := Lib.hid (X1.out.below hb)
      have X2 := Lib.hid (X2.out.below hb)
      have X3 := Lib.hid (X3.out.below hb)
      clear hb
      have S5 := Lib.hid hs
      clear hs
      have e0 : w1.cell? ⟨w.heap.size, 0, none⟩ = some (.bool (nOf (p))) := X1.out.c 0 rfl
      have e1 : w1.cell? ⟨w.heap.size, 1, none⟩ = some (.slice A1 n1 c1) := X1.out.c 1 rfl
      have e2 : w1.cell? ⟨w.heap.size, 2, none⟩ = some (.bool (nOf (q))) := X1.out.c 2 rfl
      have e3 : w1.cell? ⟨w.heap.size, 3, none⟩ = some (.slice B1 m1 d1) := X1.out.c 3 rfl
      have e4 : w1.cell? ⟨w.heap.size + 1, 0, none⟩ = some (.bool (nOf (p'))) := X2.out.c 0 rfl
      have e5 : w1.cell? ⟨w.heap.size + 1, 1, none⟩ = some (.slice A2 n2 c2) := X2.out.c 1 rfl
      have e6 : w1.cell? ⟨w.heap.size + 1, 2, none⟩ = some (.bool (nOf (q'))) := X2.out.c 2 rfl
      have e7 : w1.cell? ⟨w.heap.size + 1, 3, none⟩ = some (.slice B2 m2 d2) := X2.out.c 3 rfl
      go_upto_region 2 with fail
      clear e0 e1 e2 e3 e4 e5 e6 e7
      have ln1 := X1.out.lt
      have ln2 := X2.out.lt
      have ln3 := X3.out.lt
      have S1 := Lib.hid (S1.out.alloc (.cells #[.bool (nOf (fitZ (p * p'))), .slice T k r] 24))
      have S2 := Lib.hid (S2.out.alloc (.cells #[.bool (nOf (fitZ (p * p'))), .slice T k r] 24))
      have S3 := Lib.hid (S3.out.alloc (.cells #[.bool (nOf (fitZ (p * p'))), .slice T k r] 24))
      have S4 := Lib.hid (S4.out.alloc (.cells #[.bool (nOf (fitZ (p * p'))), .slice T k r] 24))
      have BW := Lib.hid (BW.out.alloc BW.out.size (.cells #[.bool (nOf (fitZ (p * p'))), .slice T k r] 24))
      have X1 := Lib.hid (X1.out.alloc (.cells #[.bool (nOf (fitZ (p * p'))), .slice T k r] 24))
      have X2 := Lib.hid (X2.out.alloc (.cells #[.bool (nOf (fitZ (p * p'))), .slice T k r] 24))
      have X3 := Lib.hid (X3.out.alloc (.cells #[.bool (nOf (fitZ (p * p'))), .slice T k r] 24))
      have S5 := Lib.hid (S5.out.alloc (.cells #[.bool (nOf (fitZ (p * p'))), .slice T k r] 24))
      have X4 := Lib.hid (Bk.new 24 w1 #[.bool (nOf (fitZ (p * p'))), .slice T k r])
      generalize (w1.alloc (.cells #[.bool (nOf (fitZ (p * p'))), .slice T k r] 24)) = W1 at *
      have e0 : W1.cell? ⟨w.heap.size, 0, none⟩ = some (.bool (nOf (p))) := X1.out.c 0 rfl
      have e1 : W1.cell? ⟨w.heap.size, 1, none⟩ = some (.slice A1 n1 c1) := X1.out.c 1 rfl
      have e2 : W1.cell? ⟨w.heap.size, 2, none⟩ = some (.bool (nOf (q))) := X1.out.c 2 rfl
      have e3 : W1.cell? ⟨w.heap.size, 3, none⟩ = some (.slice B1 m1 d1) := X1.out.c 3 rfl
      have e4 : W1.cell? ⟨w.heap.size + 1, 0, none⟩ = some (.bool (nOf (p'))) := X2.out.c 0 rfl
      have e5 : W1.cell? ⟨w.heap.size + 1, 1, none⟩ = some (.slice A2 n2 c2) := X2.out.c 1 rfl
      have e6 : W1.cell? ⟨w.heap.size + 1, 2, none⟩ = some (.bool (nOf (q'))) := X2.out.c 2 rfl
      have e7 : W1.cell? ⟨w.heap.size + 1, 3, none⟩ = some (.slice B2 m2 d2) := X2.out.c 3 rfl
      go_wp2_with fail
      ((with_reducible refine (mul_z q q' B1 B2 m1 d1 m2 d2 _ S2.out S4.out H2.out H4.out).mono ?_); rintro e w2 ⟨U, l, s, rfl, hs, hb⟩)
      rw [G2.out]
      clear e0 e1 e2 e3 e4 e5 e6 e7
      have S1 := Lib.hid (S1.out.below hb)
      have S2 := Lib.hid (S2.out.below hb)
      have S3 := Lib.hid (S3.out.below hb)
      have S4 := Lib.hid (S4.out.below hb)
      have BW := Lib.hid (below_on BW.out hb)
      have X1 := Lib.hid (X1.out.below hb)
      have X2 := Lib.hid (X2.out.below hb)
      have X3 := Lib.hid (X3.out.below hb)
      have S5 := Lib.hid (S5.out.below hb)
      have X4 := Lib.hid (X4.out.below hb)
      clear hb
      have S6 := Lib.hid hs
      clear hs
      have e0 : w2.cell? ⟨w.heap.size, 0, none⟩ = some (.bool (nOf (p))) := X1.out.c 0 rfl
      have e1 : w2.cell? ⟨w.heap.size, 1, none⟩ = some (.slice A1 n1 c1) := X1.out.c 1 rfl
      have e2 : w2.cell? ⟨w.heap.size, 2, none⟩ = some (.bool (nOf (q))) := X1.out.c 2 rfl
      have e3 : w2.cell? ⟨w.heap.size, 3, none⟩ = some (.slice B1 m1 d1) := X1.out.c 3 rfl
      have e4 : w2.cell? ⟨w.heap.size + 1, 0, none⟩ = some (.bool (nOf (p'))) := X2.out.c 0 rfl
      have e5 : w2.cell? ⟨w.heap.size + 1, 1, none⟩ = some (.slice A2 n2 c2) := X2.out.c 1 rfl
      have e6 : w2.cell? ⟨w.heap.size + 1, 2, none⟩ = some (.bool (nOf (q'))) := X2.out.c 2 rfl
      have e7 : w2.cell? ⟨w.heap.size + 1, 3, none⟩ = some (.slice B2 m2 d2) := X2.out.c 3 rfl
      go_upto_region 3 with fail
      clear e0 e1 e2 e3 e4 e5 e6 e7
      have ln4 := X1.out.lt
      have ln5 := X2.out.lt
      have ln6 := X3.out.lt
      have ln7 := X4.out.lt
      have S1 := Lib.hid (S1.out.alloc (.cells #[.bool (nOf (fitZ (q * q'))), .slice U l s] 24))
      have S2 := Lib.hid (S2.out.alloc (.cells #[.bool (nOf (fitZ (q * q'))), .slice U l s] 24))
      have S3 := Lib.hid (S3.out.alloc (.cells #[.bool (nOf (fitZ (q * q'))), .slice U l s] 24))
      have S4 := Lib.hid (S4.out.alloc (.cells #[.bool (nOf (fitZ (q * q'))), .slice U l s] 24))
      have BW := Lib.hid (BW.out.alloc BW.out.size (.cells #[.bool (nOf (fitZ (q * q'))), .slice U l s] 24))
      have X1 := Lib.hid (X1.out.alloc (.cells #[.bool (nOf (fitZ (q * q'))), .slice U l s] 24))
      have X2 := Lib.hid (X2.out.alloc (.cells #[.bool (nOf (fitZ (q * q'))), .slice U l s] 24))
      have X3 := Lib.hid (X3.out.alloc (.cells #[.bool (nOf (fitZ (q * q'))), .slice U l s] 24))
      have S5 := Lib.hid (S5.out.alloc (.cells #[.bool (nOf (fitZ (q * q'))), .slice U l s] 24))
      have X4 := Lib.hid (X4.out.alloc (.cells #[.bool (nOf (fitZ (q * q'))), .slice U l s] 24))
      have S6 := Lib.hid (S6.out.alloc (.cells #[.bool (nOf (fitZ (q * q'))), .slice U l s] 24))
      have X5 := Lib.hid (Bk.new 24 w2 #[.bool (nOf (fitZ (q * q'))), .slice U l s])
      generalize (w2.alloc (.cells #[.bool (nOf (fitZ (q * q'))), .slice U l s] 24)) = W2 at *
      have e0 : W2.cell? ⟨w1.heap.size, 0, none⟩ = some (.bool (nOf (fitZ (p * p')))) := X4.out.c 0 rfl
      have e1 : W2.cell? ⟨w1.heap.size, 1, none⟩ = some (.slice T k r) := X4.out.c 1 rfl
      have e2 : W2.cell? ⟨w2.heap.size, 0, none⟩ = some (.bool (nOf (fitZ (q * q')))) := X5.out.c 0 rfl
      have e3 : W2.cell? ⟨w2.heap.size, 1, none⟩ = some (.slice U l s) := X5.out.c 1 rfl
      have e4 : W2.cell? ⟨w.heap.size + 1 + 1, 0, none⟩ = some (.bool false) := X3.out.c 0 rfl
      have e5 : W2.cell? ⟨w.heap.size + 1 + 1, 1, none⟩ = some (.slice none 0 0) := X3.out.c 1 rfl
      have e6 : W2.cell? ⟨w.heap.size + 1 + 1, 2, none⟩ = some (.bool false) := X3.out.c 2 rfl
      have e7 : W2.cell? ⟨w.heap.size + 1 + 1, 3, none⟩ = some (.slice none 0 0) := X3.out.c 3 rfl
      have z8 := X3.out.fz 0
      have z9 := X3.out.fz 1
      have z10 := X3.out.fz 2
      have z11 := X3.out.fz 3
      go_wp2_with fail
      refine bodyPost_ret (v := .tuple #[.agg #[.bool false, .slice none 0 0, .bool false, .slice none 0 0], .bool false]) (by simp [results, Tryz.results49, go_sem, *]) rfl ⟨none, 0, 0, none, 0, 0, ?_, ?_, ?_, below_set4 BW.out (by omega) _ _ _ _⟩
      · rw [HB.out, E1.out, E2.out]; rfl
      · rw [E1.out, lOf_zero]; exact Sl.nil _
      · rw [E2.out, lOf_zero]; exact Sl.nil _
  · have G1 := Lib.hid g1
    have VB : bothB (p * p') (q * q') = false := by unfold bothB; rw [g1]; rfl
    have E1 := Lib.hid (both_no (p * p') VB)
    have E2 := Lib.hid (both_no (q * q') VB)
    have HB := Lib.hid VB
    clear VB g1
    have BW := Lib.hid (Below.refl w.heap.size w)
    go_enter Tryz.func49, Tryz.ntmps49
    go_upto_region 1 with fail
    have S1 := Lib.hid (S1.out.alloc (.cells #[.bool (nOf (p)), .slice A1 n1 c1, .bool (nOf (q)), .slice B1 m1 d1] 26))
    have S2 := Lib.hid (S2.out.alloc (.cells #[.bool (nOf (p)), .slice A1 n1 c1, .bool (nOf (q)), .slice B1 m1 d1] 26))
    have S3 := Lib.hid (S3.out.alloc (.cells #[.bool (nOf (p)), .slice A1 n1 c1, .bool (nOf (q)), .slice B1 m1 d1] 26))
    have S4 := Lib.hid (S4.out.alloc (.cells #[.bool (nOf (p)), .slice A1 n1 c1, .bool (nOf (q)), .slice B1 m1 d1] 26))
    have BW := Lib.hid (BW.out.alloc BW.out.size (.cells #[.bool (nOf (p)), .slice A1 n1 c1, .bool (nOf (q)), .slice B1 m1 d1] 26))
    have X1 := Lib.hid (Bk.new 26 w #[.bool (nOf (p)), .slice A1 n1 c1, .bool (nOf (q)), .slice B1 m1 d1])
    have S1 := Lib.hid (S1.out.alloc (.cells #[.bool (nOf (p')), .slice A2 n2 c2, .bool (nOf (q')), .slice B2 m2 d2] 26))
    have S2 := Lib.hid (S2.out.alloc (.cells #[.bool (nOf (p')), .slice A2 n2 c2, .bool (nOf (q')), .slice B2 m2 d2] 26))
    have S3 := Lib.hid (S3.out.alloc (.cells #[.bool (nOf (p')), .slice A2 n2 c2, .bool (nOf (q')), .slice B2 m2 d2] 26))
    have S4 := Lib.hid (S4.out.alloc (.cells #[.bool (nOf (p')), .slice A2 n2 c2, .bool (nOf (q')), .slice B2 m2 d2] 26))
    have BW := Lib.hid (BW.out.alloc BW.out.size (.cells #[.bool (nOf (p')), .slice A2 n2 c2, .bool (nOf (q')), .slice B2 m2 d2] 26))
    have X1 := Lib.hid (X1.out.alloc (.cells #[.bool (nOf (p')), .slice A2 n2 c2, .bool (nOf (q')), .slice B2 m2 d2] 26))
    have X2 := Lib.hid (Bk.new 26 (w.alloc (.cells #[.bool (nOf (p)), .slice A1 n1 c1, .bool (nOf (q)), .slice B1 m1 d1] 26)) #[.bool (nOf (p')), .slice A2 n2 c2, .bool (nOf (q')), .slice B2 m2 d2])
    rw [alloc_sz] at X2
    have S1 := Lib.hid (S1.out.alloc (.cells #[.bool false, .slice none 0 0, .bool false, .slice none 0 0] 26))
    have S2 := Lib.hid (S2.out.alloc (.cells #[.bool false, .slice none 0 0, .bool false, .slice none 0 0] 26))
    have S3 := Lib.hid (S3.out.alloc (.cells #[.bool false, .slice none 0 0, .bool false, .slice none 0 0] 26))
    have S4 := Lib.hid (S4.out.alloc (.cells #[.bool false, .slice none 0 0, .bool false, .slice none 0 0] 26))
    have BW := Lib.hid (BW.out.alloc BW.out.size (.cells #[.bool false, .slice none 0 0, .bool false, .slice none 0 0] 26))
    have X1 := Lib.hid (X1.out.alloc (.cells #[.bool false, .slice none 0 0, .bool false, .slice none 0 0] 26))
    have X2 := Lib.hid (X2.out.alloc (.cells #[.bool false, .slice none 0 0, .bool false, .slice none 0 0] 26))
    have X3 := Lib.hid (Bk.new 26 ((w.alloc (.cells #[.bool (nOf (p)), .slice A1 n1 c1, .bool (nOf (q)), .slice B1 m1 d1] 26)).alloc (.cells #[.bool (nOf (p')), .slice A2 n2 c2, .bool (nOf (q')), .slice B2 m2 d2] 26)) #[.bool false, .slice none 0 0, .bool false, .slice none 0 0])
    rw [alloc_sz, alloc_sz] at X3
    generalize (((w.alloc (.cells #[.bool (nOf (p)), .slice A1 n1 c1, .bool (nOf (q)), .slice B1 m1 d1] 26)).alloc (.cells #[.bool (nOf (p')), .slice A2 n2 c2, .bool (nOf (q')), .slice B2 m2 d2] 26)).alloc (.cells #[.bool false, .slice none 0 0, .bool false, .slice none 0 0] 26)) = W0 at *
    have e0 : W0.cell? ⟨w.heap.size, 0, none⟩ = some (.bool (nOf (p))) := X1.out.c 0 rfl
    have e1 : W0.cell? ⟨w.heap.size, 1, none⟩ = some (.slice A1 n1 c1) := X1.out.c 1 rfl
    have e2 : W0.cell? ⟨w.heap.size, 2, none⟩ = some (.bool (nOf (q))) := X1.out.c 2 rfl
    have e3 : W0.cell? ⟨w.heap.size, 3, none⟩ = some (.slice B1 m1 d1) := X1.out.c 3 rfl
    have e4 : W0.cell? ⟨w.heap.size + 1, 0, none⟩ = some (.bool (nOf (p'))) := X2.out.c 0 rfl
    have e5 : W0.cell? ⟨w.heap.size + 1, 1, none⟩ = some (.slice A2 n2 c2) := X2.out.c 1 rfl
    have e6 : W0.cell? ⟨w.heap.size + 1, 2, none⟩ = some (.bool (nOf (q'))) := X2.out.c 2 rfl
    have e7 : W0.cell? ⟨w.heap.size + 1, 3, none⟩ = some (.slice B2 m2 d2) := X2.out.c 3 rfl
    go_wp2_with fail
    ((with_reducible refine (mul_z p p' A1 A2 n1 c1 n2 c2 _ S1.out S3.out H1.out H3.out).mono ?_); rintro e w1 ⟨T, k, r, rfl, hs, hb⟩)
    rw [G1.out]
    clear e0 e1 e2 e3 e4 e5 e6 e7
    have S1 := Lib.hid (S1.out.below hb)
    have S2 := Lib.hid (S2.out.below hb)
    have S3 := Lib.hid (S3.out.below hb)
    have S4 := Lib.hid (S4.out.below hb)
    have BW := Lib.hid (below_on BW.out hb)
    have X1 := Lib.hid (X1.out.below hb)
    have X2 := Lib.hid (X2.out.below hb)
    have X3 := Lib.hid (X3.out.below hb)
    clear hb
    have S5 := Lib.hid hs
    clear hs
    have e0 : w1.cell? ⟨w.heap.size, 0, none⟩ = some (.bool (nOf (p))) := X1.out.c 0 rfl
    have e1 : w1.cell? ⟨w.heap.size, 1, none⟩ = some (.slice A1 n1 c1) := X1.out.c 1 rfl
    have e2 : w1.cell? ⟨w.heap.size, 2, none⟩ = some (.bool (nOf (q))) := X1.out.c 2 rfl
    have e3 : w1.cell? ⟨w.heap.size, 3, none⟩ = some (.slice B1 m1 d1) := X1.out.c 3 rfl
    have e4 : w1.cell? ⟨w.heap.size + 1, 0, none⟩ = some (.bool (nOf (p'))) := X2.out.c 0 rfl
    have e5 : w1.cell? ⟨w.heap.size + 1, 1, none⟩ = some (.slice A2 n2 c2) := X2.out.c 1 rfl
    have e6 : w1.cell? ⟨w.heap.size + 1, 2, none⟩ = some (.bool (nOf (q'))) := X2.out.c 2 rfl
    have e7 : w1.cell? ⟨w.heap.size + 1, 3, none⟩ = some (.slice B2 m2 d2) := X2.out.c 3 rfl
    go_upto_region 2 with fail
    clear e0 e1 e2 e3 e4 e5 e6 e7
    have ln1 := X1.out.lt
    have ln2 := X2.out.lt
    have ln3 := X3.out.lt
    have S1 := Lib.hid (S1.out.alloc (.cells #[.bool (nOf (fitZ (p * p'))), .slice T k r] 24))
    have S2 := Lib.hid (S2.out.alloc (.cells #[.bool (nOf (fitZ (p * p'))), .slice T k r] 24))
    have S3 := Lib.hid (S3.out.alloc (.cells #[.bool (nOf (fitZ (p * p'))), .slice T k r] 24))
    have S4 := Lib.hid (S4.out.alloc (.cells #[.bool (nOf (fitZ (p * p'))), .slice T k r] 24))
    have BW := Lib.hid (BW.out.alloc BW.out.size (.cells #[.bool (nOf (fitZ (p * p'))), .slice T k r] 24))
    have X1 := Lib.hid (X1.out.alloc (.cells #[.bool (nOf (fitZ (p * p'))), .slice T k r] 24))
    have X2 := Lib.hid (X2.out.alloc (.cells #[.bool (nOf (fitZ (p * p'))), .slice T k r] 24))
    have X3 := Lib.hid (X3.out.alloc (.cells #[.bool (nOf (fitZ (p * p'))), .slice T k r] 24))
    have S5 := Lib.hid (S5.out.alloc (.cells #[.bool (nOf (fitZ (p * p'))), .slice T k r] 24))
    have X4 := Lib.hid (Bk.new 24 w1 #[.bool (nOf (fitZ (p * p'))), .slice T k r])
    generalize (w1.alloc (.cells #[.bool (nOf (fitZ (p * p'))), .slice T k r] 24)) = W1 at *
    have e0 : W1.cell? ⟨w.heap.size, 0, none⟩ = some (.bool (nOf (p))) := X1.out.c 0 rfl
    have e1 : W1.cell? ⟨w.heap.size, 1, none⟩ = some (.slice A1 n1 c1) := X1.out.c 1 rfl
    have e2 : W1.cell? ⟨w.heap.size, 2, none⟩ = some (.bool (nOf (q))) := X1.out.c 2 rfl
    have e3 : W1.cell? ⟨w.heap.size, 3, none⟩ = some (.slice B1 m1 d1) := X1.out.c 3 rfl
    have e4 : W1.cell? ⟨w.heap.size + 1, 0, none⟩ = some (.bool (nOf (p'))) := X2.out.c 0 rfl
    have e5 : W1.cell? ⟨w.heap.size + 1, 1, none⟩ = some (.slice A2 n2 c2) := X2.out.c 1 rfl
    have e6 : W1.cell? ⟨w.heap.size + 1, 2, none⟩ = some (.bool (nOf (q'))) := X2.out.c 2 rfl
    have e7 : W1.cell? ⟨w.heap.size + 1, 3, none⟩ = some (.slice B2 m2 d2) := X2.out.c 3 rfl
    go_wp2_with fail
    ((with_reducible refine (mul_z q q' B1 B2 m1 d1 m2 d2 _ S2.out S4.out H2.out H4.out).mono ?_); rintro e w2 ⟨U, l, s, rfl, hs, hb⟩)
    clear e0 e1 e2 e3 e4 e5 e6 e7
    have S1 := Lib.hid (S1.out.below hb)
    have S2 := Lib.hid (S2.out.below hb)
    have S3 := Lib.hid (S3.out.below hb)
    have S4 := Lib.hid (S4.out.below hb)
    have BW := Lib.hid (below_on BW.out hb)
    have X1 := Lib.hid (X1.out.below hb)
    have X2 := Lib.hid (X2.out.below hb)
    have X3 := Lib.hid (X3.out.below hb)
    have S5 := Lib.hid (S5.out.below hb)
    have X4 := Lib.hid (X4.out.below hb)
    clear hb
    have S6 := Lib.hid hs
    clear hs
    have e0 : w2.cell? ⟨w.heap.size, 0, none⟩ = some (.bool (nOf (p))) := X1.out.c 0 rfl
    have e1 : w2.cell? ⟨w.heap.size, 1, none⟩ = some (.slice A1 n1 c1) := X1.out.c 1 rfl
    have e2 : w2.cell? ⟨w.heap.size, 2, none⟩ = some (.bool (nOf (q))) := X1.out.c 2 rfl
    have e3 : w2.cell? ⟨w.heap.size, 3, none⟩ = some (.slice B1 m1 d1) := X1.out.c 3 rfl
    have e4 : w2.cell? ⟨w.heap.size + 1, 0, none⟩ = some (.bool (nOf (p'))) := X2.out.c 0 rfl
    have e5 : w2.cell? ⟨w.heap.size + 1, 1, none⟩ = some (.slice A2 n2 c2) := X2.out.c 1 rfl
    have e6 : w2.cell? ⟨w.heap.size + 1, 2, none⟩ = some (.bool (nOf (q'))) := X2.out.c 2 rfl
    have e7 : w2.cell? ⟨w.heap.size + 1, 3, none⟩ = some (.slice B2 m2 d2) := X2.out.c 3 rfl
    go_upto_region 3 with fail
    clear e0 e1 e2 e3 e4 e5 e6 e7
    have ln4 := X1.out.lt
    have ln5 := X2.out.lt
    have ln6 := X3.out.lt
    have ln7 := X4.out.lt
    have S1 := Lib.hid (S1.out.alloc (.cells #[.bool (nOf (fitZ (q * q'))), .slice U l s] 24))
    have S2 := Lib.hid (S2.out.alloc (.cells #[.bool (nOf (fitZ (q * q'))), .slice U l s] 24))
    have S3 := Lib.hid (S3.out.alloc (.cells #[.bool (nOf (fitZ (q * q'))), .slice U l s] 24))
    have S4 := Lib.hid (S4.out.alloc (.cells #[.bool (nOf (fitZ (q * q'))), .slice U l s] 24))
    have BW := Lib.hid (BW.out.alloc BW.out.size (.cells #[.bool (nOf (fitZ (q * q'))), .slice U l s] 24))
    have X1 := Lib.hid (X1.out.alloc (.cells #[.bool (nOf (fitZ (q * q'))), .slice U l s] 24))
    have X2 := Lib.hid (X2.out.alloc (.cells #[.bool (nOf (fitZ (q * q'))), .slice U l s] 24))
    have X3 := Lib.hid (X3.out.alloc (.cells #[.bool (nOf (fitZ (q * q'))), .slice U l s] 24))
    have S5 := Lib.hid (S5.out.alloc (.cells #[.bool (nOf (fitZ (q * q'))), .slice U l s] 24))
    have X4 := Lib.hid (X4.out.alloc (.cells #[.bool (nOf (fitZ (q * q'))), .slice U l s] 24))
    have S6 := Lib.hid (S6.out.alloc (.cells #[.bool (nOf (fitZ (q * q'))), .slice U l s] 24))
    have X5 := Lib.hid (Bk.new 24 w2 #[.bool (nOf (fitZ (q * q'))), .slice U l s])
    generalize (w2.alloc (.cells #[.bool (nOf (fitZ (q * q'))), .slice U l s] 24)) = W2 at *
    have e0 : W2.cell? ⟨w1.heap.size, 0, none⟩ = some (.bool (nOf (fitZ (p * p')))) := X4.out.c 0 rfl
    have e1 : W2.cell? ⟨w1.heap.size, 1, none⟩ = some (.slice T k r) := X4.out.c 1 rfl
    have e2 : W2.cell? ⟨w2.heap.size, 0, none⟩ = some (.bool (nOf (fitZ (q * q')))) := X5.out.c 0 rfl
    have e3 : W2.cell? ⟨w2.heap.size, 1, none⟩ = some (.slice U l s) := X5.out.c 1 rfl
    have e4 : W2.cell? ⟨w.heap.size + 1 + 1, 0, none⟩ = some (.bool false) := X3.out.c 0 rfl
    have e5 : W2.cell? ⟨w.heap.size + 1 + 1, 1, none⟩ = some (.slice none 0 0) := X3.out.c 1 rfl
    have e6 : W2.cell? ⟨w.heap.size + 1 + 1, 2, none⟩ = some (.bool false) := X3.out.c 2 rfl
    have e7 : W2.cell? ⟨w.heap.size + 1 + 1, 3, none⟩ = some (.slice none 0 0) := X3.out.c 3 rfl
    have z8 := X3.out.fz 0
    have z9 := X3.out.fz 1
    have z10 := X3.out.fz 2
    have z11 := X3.out.fz 3
    go_wp2_with fail
    refine bodyPost_ret (v := .tuple #[.agg #[.bool false, .slice none 0 0, .bool false, .slice none 0 0], .bool false]) (by simp [results, Tryz.results49, go_sem, *]) rfl ⟨none, 0, 0, none, 0, 0, ?_, ?_, ?_, below_set4 BW.out (by omega) _ _ _ _⟩
    · rw [HB.out, E1.out, E2.out]; rfl
    · rw [E1.out, lOf_zero]; exact Sl.nil _
    · rw [E2.out, lOf_zero]; exact Sl.nil _
end Go.Proofs.YtfenmogbellhdaaGreatDoor
