/-
  Contracts of rat's Valid, Int and fraction.
-/
import Derived.Test.YtfenmogbellhdaaGreatDoorRatC
namespace Go.Proofs.YtfenmogbellhdaaGreatDoor
open Go.RowKit

theorem rvalid_any (na nb : Bool) (A B : Option Addr) (n c m d : Nat) (xs ys : List Int) (w : World) (ha : Sl w A n c xs) (hb : Sl w B m d ys) :
    Calls Tryz.prog 26 #[.agg #[.bool na, .slice A n c, .bool nb, .slice B m d]] w fun e w' => e = .returned (.bool (validR na xs nb ys)) ∧ Below w.heap.size w w' := by
  have S1 := Lib.hid ha
  have S2 := Lib.hid hb
  clear ha hb
  rcases Bool.eq_false_or_eq_true (validB na xs) with h1 | h1
  · rcases Bool.eq_false_or_eq_true (validB nb ys) with h2 | h2
    · by_cases h0 : 0 < zOf nb ys
      · have h3 := cmpI_gt h0
        have h4 := decide_eq_true h0
        clear h0
        have V1 := Lib.hid h1
        have V2 := Lib.hid h2
        have V3 := Lib.hid h3
        have V4 := Lib.hid h4
        clear h1 h2 h3 h4
        have BW := Lib.hid (Below.refl w.heap.size w)
        go_enter Tryz.func26, Tryz.ntmps26
        go_upto_region 1 with fail
        have S1 := Lib.hid (S1.out.alloc (.cells #[.bool na, .slice A n c, .bool nb, .slice B m d] 26))
        have S2 := Lib.hid (S2.out.alloc (.cells #[.bool na, .slice A n c, .bool nb, .slice B m d] 26))
        have BW := Lib.hid (BW.out.alloc BW.out.size (.cells #[.bool na, .slice A n c, .bool nb, .slice B m d] 26))
        have X1 := Lib.hid (Bk.new 26 w #[.bool na, .slice A n c, .bool nb, .slice B m d])
        generalize (w.alloc (.cells #[.bool na, .slice A n c, .bool nb, .slice B m d] 26)) = W0 at *
        have e0 : W0.cell? ⟨w.heap.size, 0, none⟩ = some (.bool na) := X1.out.c 0 rfl
        have e1 : W0.cell? ⟨w.heap.size, 1, none⟩ = some (.slice A n c) := X1.out.c 1 rfl
        have e2 : W0.cell? ⟨w.heap.size, 2, none⟩ = some (.bool nb) := X1.out.c 2 rfl
        have e3 : W0.cell? ⟨w.heap.size, 3, none⟩ = some (.slice B m d) := X1.out.c 3 rfl
        go_wp2_with fail
        ((with_reducible refine (valid_any na A n c xs _ S1.out).mono ?_); rintro e w1 ⟨rfl, hb⟩)
        rw [V1.out]
        clear e0 e1 e2 e3
        have S1 := Lib.hid (S1.out.below hb)
        have S2 := Lib.hid (S2.out.below hb)
        have BW := Lib.hid (below_on BW.out hb)
        have X1 := Lib.hid (X1.out.below hb)
        clear hb
        have e0 : w1.cell? ⟨w.heap.size, 0, none⟩ = some (.bool na) := X1.out.c 0 rfl
        have e1 : w1.cell? ⟨w.heap.size, 1, none⟩ = some (.slice A n c) := X1.out.c 1 rfl
        have e2 : w1.cell? ⟨w.heap.size, 2, none⟩ = some (.bool nb) := X1.out.c 2 rfl
        have e3 : w1.cell? ⟨w.heap.size, 3, none⟩ = some (.slice B m d) := X1.out.c 3 rfl
        go_wp2_with fail
        ((with_reducible refine (valid_any nb B m d ys _ S2.out).mono ?_); rintro e w2 ⟨rfl, hb⟩)
        rw [V2.out]
        clear e0 e1 e2 e3
        have S1 := Lib.hid (S1.out.below hb)
        have S2 := Lib.hid (S2.out.below hb)
        have BW := Lib.hid (below_on BW.out hb)
        have X1 := Lib.hid (X1.out.below hb)
        clear hb
        have e0 : w2.cell? ⟨w.heap.size, 0, none⟩ = some (.bool na) := X1.out.c 0 rfl
        have e1 : w2.cell? ⟨w.heap.size, 1, none⟩ = some (.slice A n c) := X1.out.c 1 rfl
        have e2 : w2.cell? ⟨w.heap.size, 2, none⟩ = some (.bool nb) := X1.out.c 2 rfl
        have e3 : w2.cell? ⟨w.heap.size, 3, none⟩ = some (.slice B m d) := X1.out.c 3 rfl
        go_wp2_with fail
        ((with_reducible refine (sign_any nb B m d ys _ S2.out).mono ?_); rintro e w3 ⟨rfl, hb⟩)
        rw [V3.out]
        clear e0 e1 e2 e3
        have S1 := Lib.hid (S1.out.below hb)
        have S2 := Lib.hid (S2.out.below hb)
        have BW := Lib.hid (below_on BW.out hb)
        have X1 := Lib.hid (X1.out.below hb)
        clear hb
        have e0 : w3.cell? ⟨w.heap.size, 0, none⟩ = some (.bool na) := X1.out.c 0 rfl
        have e1 : w3.cell? ⟨w.heap.size, 1, none⟩ = some (.slice A n c) := X1.out.c 1 rfl
        have e2 : w3.cell? ⟨w.heap.size, 2, none⟩ = some (.bool nb) := X1.out.c 2 rfl
        have e3 : w3.cell? ⟨w.heap.size, 3, none⟩ = some (.slice B m d) := X1.out.c 3 rfl
        go_wp2_with fail
        ((with_reducible refine (gcd_big na nb A B n c m d xs ys _ S1.out S2.out).mono ?_); rintro e w4 ⟨T, k, r, rfl, hs, hb⟩)
        clear e0 e1 e2 e3
        have S1 := Lib.hid (S1.out.below hb)
        have S2 := Lib.hid (S2.out.below hb)
        have BW := Lib.hid (below_on BW.out hb)
        have X1 := Lib.hid (X1.out.below hb)
        clear hb
        have S3 := Lib.hid hs
        clear hs
        have e0 : w4.cell? ⟨w.heap.size, 0, none⟩ = some (.bool na) := X1.out.c 0 rfl
        have e1 : w4.cell? ⟨w.heap.size, 1, none⟩ = some (.slice A n c) := X1.out.c 1 rfl
        have e2 : w4.cell? ⟨w.heap.size, 2, none⟩ = some (.bool nb) := X1.out.c 2 rfl
        have e3 : w4.cell? ⟨w.heap.size, 3, none⟩ = some (.slice B m d) := X1.out.c 3 rfl
        go_wp2_with fail
        ((with_reducible refine (of_any 1 _ (by omega) (by omega)).mono ?_); rintro e w5 ⟨U, l, s, rfl, hs, hb⟩)
        clear e0 e1 e2 e3
        have S1 := Lib.hid (S1.out.below hb)
        have S2 := Lib.hid (S2.out.below hb)
        have BW := Lib.hid (below_on BW.out hb)
        have X1 := Lib.hid (X1.out.below hb)
        have S3 := Lib.hid (S3.out.below hb)
        clear hb
        have S4 := Lib.hid hs
        clear hs
        have e0 : w5.cell? ⟨w.heap.size, 0, none⟩ = some (.bool na) := X1.out.c 0 rfl
        have e1 : w5.cell? ⟨w.heap.size, 1, none⟩ = some (.slice A n c) := X1.out.c 1 rfl
        have e2 : w5.cell? ⟨w.heap.size, 2, none⟩ = some (.bool nb) := X1.out.c 2 rfl
        have e3 : w5.cell? ⟨w.heap.size, 3, none⟩ = some (.slice B m d) := X1.out.c 3 rfl
        go_wp2_with fail
        ((with_reducible refine (same_z (gZ (zOf na xs) (zOf nb ys)) 1 T U k r l s _ S3.out S4.out).mono ?_); rintro e w6 ⟨rfl, hb⟩)
        clear e0 e1 e2 e3
        have S1 := Lib.hid (S1.out.below hb)
        have S2 := Lib.hid (S2.out.below hb)
        have BW := Lib.hid (below_on BW.out hb)
        have X1 := Lib.hid (X1.out.below hb)
        have S3 := Lib.hid (S3.out.below hb)
        have S4 := Lib.hid (S4.out.below hb)
        clear hb
        go_wp2_with fail
        go_ret
        exact ⟨ret_bool (by unfold validR; rw [V1.out, V2.out, V4.out]; rfl), BW.out⟩
      · have h4 := decide_eq_false h0
        rcases (by omega : zOf nb ys < 0 ∨ zOf nb ys = 0) with hz | hz
        · have h3 := cmpI_lt hz
          clear h0 hz
          have V1 := Lib.hid h1
          have V2 := Lib.hid h2
          have V3 := Lib.hid h3
          have V4 := Lib.hid h4
          clear h1 h2 h3 h4
          have BW := Lib.hid (Below.refl w.heap.size w)
          go_enter Tryz.func26, Tryz.ntmps26
          go_upto_region 1 with fail
          have S1 := Lib.hid (S1.out.alloc (.cells #[.bool na, .slice A n c, .bool nb, .slice B m d] 26))
          have S2 := Lib.hid (S2.out.alloc (.cells #[.bool na, .slice A n c, .bool nb, .slice B m d] 26))
          have BW := Lib.hid (BW.out.alloc BW.out.size (.cells #[.bool na, .slice A n c, .bool nb, .slice B m d] 26))
          have X1 := Lib.hid (Bk.new 26 w #[.bool na, .slice A n c, .bool nb, .slice B m d])
          generalize (w.alloc (.cells #[.bool na, .slice A n c, .bool nb, .slice B m d] 26)) = W0 at *
          have e0 : W0.cell? ⟨w.heap.size, 0, none⟩ = some (.bool na) := X1.out.c 0 rfl
          have e1 : W0.cell? ⟨w.heap.size, 1, none⟩ = some (.slice A n c) := X1.out.c 1 rfl
          have e2 : W0.cell? ⟨w.heap.size, 2, none⟩ = some (.bool nb) := X1.out.c 2 rfl
          have e3 : W0.cell? ⟨w.heap.size, 3, none⟩ = some (.slice B m d) := X1.out.c 3 rfl
          go_wp2_with fail
          ((with_reducible refine (valid_any na A n c xs _ S1.out).mono ?_); rintro e w1 ⟨rfl, hb⟩)
          rw [V1.out]
          clear e0 e1 e2 e3
          have S1 := Lib.hid (S1.out.below hb)
          have S2 := Lib.hid (S2.out.below hb)
          have BW := Lib.hid (below_on BW.out hb)
          have X1 := Lib.hid (X1.out.below hb)
          clear hb
          have e0 : w1.cell? ⟨w.heap.size, 0, none⟩ = some (.bool na) := X1.out.c 0 rfl
          have e1 : w1.cell? ⟨w.heap.size, 1, none⟩ = some (.slice A n c) := X1.out.c 1 rfl
          have e2 : w1.cell? ⟨w.heap.size, 2, none⟩ = some (.bool nb) := X1.out.c 2 rfl
          have e3 : w1.cell? ⟨w.heap.size, 3, none⟩ = some (.slice B m d) := X1.out.c 3 rfl
          go_wp2_with fail
          ((with_reducible refine (valid_any nb B m d ys _ S2.out).mono ?_); rintro e w2 ⟨rfl, hb⟩)
          rw [V2.out]
          clear e0 e1 e2 e3
          have S1 := Lib.hid (S1.out.below hb)
          have S2 := Lib.hid (S2.out.below hb)
          have BW := Lib.hid (below_on BW.out hb)
          have X1 := Lib.hid (X1.out.below hb)
          clear hb
          have e0 : w2.cell? ⟨w.heap.size, 0, none⟩ = some (.bool na) := X1.out.c 0 rfl
          have e1 : w2.cell? ⟨w.heap.size, 1, none⟩ = some (.slice A n c) := X1.out.c 1 rfl
          have e2 : w2.cell? ⟨w.heap.size, 2, none⟩ = some (.bool nb) := X1.out.c 2 rfl
          have e3 : w2.cell? ⟨w.heap.size, 3, none⟩ = some (.slice B m d) := X1.out.c 3 rfl
          go_wp2_with fail
          ((with_reducible refine (sign_any nb B m d ys _ S2.out).mono ?_); rintro e w3 ⟨rfl, hb⟩)
          rw [V3.out]
          clear e0 e1 e2 e3
          have S1 := Lib.hid (S1.out.below hb)
          have S2 := Lib.hid (S2.out.below hb)
          have BW := Lib.hid (below_on BW.out hb)
          have X1 := Lib.hid (X1.out.below hb)
          clear hb
          have e0 : w3.cell? ⟨w.heap.size, 0, none⟩ = some (.bool na) := X1.out.c 0 rfl
          have e1 : w3.cell? ⟨w.heap.size, 1, none⟩ = some (.slice A n c) := X1.out.c 1 rfl
          have e2 : w3.cell? ⟨w.heap.size, 2, none⟩ = some (.bool nb) := X1.out.c 2 rfl
          have e3 : w3.cell? ⟨w.heap.size, 3, none⟩ = some (.slice B m d) := X1.out.c 3 rfl
          go_wp2_with fail
          go_ret
          exact ⟨ret_bool (by unfold validR; rw [V1.out, V2.out, V4.out]; rfl), BW.out⟩
        · have h3 := cmpI_eq hz
          clear h0 hz
          have V1 := Lib.hid h1
          have V2 := Lib.hid h2
          have V3 := Lib.hid h3
          have V4 := Lib.hid h4
          clear h1 h2 h3 h4
          have BW := Lib.hid (Below.refl w.heap.size w)
          go_enter Tryz.func26, Tryz.ntmps26
          go_upto_region 1 with fail
          have S1 := Lib.hid (S1.out.alloc (.cells #[.bool na, .slice A n c, .bool nb, .slice B m d] 26))
          have S2 := Lib.hid (S2.out.alloc (.cells #[.bool na, .slice A n c, .bool nb, .slice B m d] 26))
          have BW := Lib.hid (BW.out.alloc BW.out.size (.cells #[.bool na, .slice A n c, .bool nb, .slice B m d] 26))
          have X1 := Lib.hid (Bk.new 26 w #[.bool na, .slice A n c, .bool nb, .slice B m d])
          generalize (w.alloc (.cells #[.bool na, .slice A n c, .bool nb, .slice B m d] 26)) = W0 at *
          have e0 : W0.cell? ⟨w.heap.size, 0, none⟩ = some (.bool na) := X1.out.c 0 rfl
          have e1 : W0.cell? ⟨w.heap.size, 1, none⟩ = some (.slice A n c) := X1.out.c 1 rfl
          have e2 : W0.cell? ⟨w.heap.size, 2, none⟩ = some (.bool nb) := X1.out.c 2 rfl
          have e3 : W0.cell? ⟨w.heap.size, 3, none⟩ = some (.slice B m d) := X1.out.c 3 rfl
          go_wp2_with fail
          ((with_reducible refine (valid_any na A n c xs _ S1.out).mono ?_); rintro e w1 ⟨rfl, hb⟩)
          rw [V1.out]
          clear e0 e1 e2 e3
          have S1 := Lib.hid (S1.out.below hb)
          have S2 := Lib.hid (S2.out.below hb)
          have BW := Lib.hid (below_on BW.out hb)
          have X1 := Lib.hid (X1.out.below hb)
          clear hb
          have e0 : w1.cell? ⟨w.heap.size, 0, none⟩ = some (.bool na) := X1.out.c 0 rfl
          have e1 : w1.cell? ⟨w.heap.size, 1, none⟩ = some (.slice A n c) := X1.out.c 1 rfl
          have e2 : w1.cell? ⟨w.heap.size, 2, none⟩ = some (.bool nb) := X1.out.c 2 rfl
          have e3 : w1.cell? ⟨w.heap.size, 3, none⟩ = some (.slice B m d) := X1.out.c 3 rfl
          go_wp2_with fail
          ((with_reducible refine (valid_any nb B m d ys _ S2.out).mono ?_); rintro e w2 ⟨rfl, hb⟩)
          rw [V2.out]
          clear e0 e1 e2 e3
          have S1 := Lib.hid (S1.out.below hb)
          have S2 := Lib.hid (S2.out.below hb)
          have BW := Lib.hid (below_on BW.out hb)
          have X1 := Lib.hid (X1.out.below hb)
          clear hb
          have e0 : w2.cell? ⟨w.heap.size, 0, none⟩ = some (.bool na) := X1.out.c 0 rfl
          have e1 : w2.cell? ⟨w.heap.size, 1, none⟩ = some (.slice A n c) := X1.out.c 1 rfl
          have e2 : w2.cell? ⟨w.heap.size, 2, none⟩ = some (.bool nb) := X1.out.c 2 rfl
          have e3 : w2.cell? ⟨w.heap.size, 3, none⟩ = some (.slice B m d) := X1.out.c 3 rfl
          go_wp2_with fail
          ((with_reducible refine (sign_any nb B m d ys _ S2.out).mono ?_); rintro e w3 ⟨rfl, hb⟩)
          rw [V3.out]
          clear e0 e1 e2 e3
          have S1 := Lib.hid (S1.out.below hb)
          have S2 := Lib.hid (S2.out.below hb)
          have BW := Lib.hid (below_on BW.out hb)
          have X1 := Lib.hid (X1.out.below hb)
          clear hb
          have e0 : w3.cell? ⟨w.heap.size, 0, none⟩ = some (.bool na) := X1.out.c 0 rfl
          have e1 : w3.cell? ⟨w.heap.size, 1, none⟩ = some (.slice A n c) := X1.out.c 1 rfl
          have e2 : w3.cell? ⟨w.heap.size, 2, none⟩ = some (.bool nb) := X1.out.c 2 rfl
          have e3 : w3.cell? ⟨w.heap.size, 3, none⟩ = some (.slice B m d) := X1.out.c 3 rfl
          go_wp2_with fail
          go_ret
          exact ⟨ret_bool (by unfold validR; rw [V1.out, V2.out, V4.out]; rfl), BW.out⟩
    · have V1 := Lib.hid h1
      have V2 := Lib.hid h2
      clear h1 h2
      have BW := Lib.hid (Below.refl w.heap.size w)
      go_enter Tryz.func26, Tryz.ntmps26
      go_upto_region 1 with fail
      have S1 := Lib.hid (S1.out.alloc (.cells #[.bool na, .slice A n c, .bool nb, .slice B m d] 26))
      have S2 := Lib.hid (S2.out.alloc (.cells #[.bool na, .slice A n c, .bool nb, .slice B m d] 26))
      have BW := Lib.hid (BW.out.alloc BW.out.size (.cells #[.bool na, .slice A n c, .bool nb, .slice B m d] 26))
      have X1 := Lib.hid (Bk.new 26 w #[.bool na, .slice A n c, .bool nb, .slice B m d])
      generalize (w.alloc (.cells #[.bool na, .slice A n c, .bool nb, .slice B m d] 26)) = W0 at *
      have e0 : W0.cell? ⟨w.heap.size, 0, none⟩ = some (.bool na) := X1.out.c 0 rfl
      have e1 : W0.cell? ⟨w.heap.size, 1, none⟩ = some (.slice A n c) := X1.out.c 1 rfl
      have e2 : W0.cell? ⟨w.heap.size, 2, none⟩ = some (.bool nb) := X1.out.c 2 rfl
      have e3 : W0.cell? ⟨w.heap.size, 3, none⟩ = some (.slice B m d) := X1.out.c 3 rfl
      go_wp2_with fail
      ((with_reducible refine (valid_any na A n c xs _ S1.out).mono ?_); rintro e w1 ⟨rfl, hb⟩)
      rw [V1.out]
      clear e0 e1 e2 e3
      have S1 := Lib.hid (S1.out.below hb)
      have S2 := Lib.hid (S2.out.below hb)
      have BW := Lib.hid (below_on BW.out hb)
      have X1 := Lib.hid (X1.out.below hb)
      clear hb
      have e0 : w1.cell? ⟨w.heap.size, 0, none⟩ = some (.bool na) := X1.out.c 0 rfl
      have e1 : w1.cell? ⟨w.heap.size, 1, none⟩ = some (.slice A n c) := X1.out.c 1 rfl
      have e2 : w1.cell? ⟨w.heap.size, 2, none⟩ = some (.bool nb) := X1.out.c 2 rfl
      have e3 : w1.cell? ⟨w.heap.size, 3, none⟩ = some (.slice B m d) := X1.out.c 3 rfl
      go_wp2_with fail
      ((with_reducible refine (valid_any nb B m d ys _ S2.out).mono ?_); rintro e w2 ⟨rfl, hb⟩)
      rw [V2.out]
      clear e0 e1 e2 e3
      have S1 := Lib.hid (S1.out.below hb)
      have S2 := Lib.hid (S2.out.below hb)
      have BW := Lib.hid (below_on BW.out hb)
      have X1 := Lib.hid (X1.out.below hb)
      clear hb
      have e0 : w2.cell? ⟨w.heap.size, 0, none⟩ = some (.bool na) := X1.out.c 0 rfl
      have e1 : w2.cell? ⟨w.heap.size, 1, none⟩ = some (.slice A n c) := X1.out.c 1 rfl
      have e2 : w2.cell? ⟨w.heap.size, 2, none⟩ = some (.bool nb) := X1.out.c 2 rfl
      have e3 : w2.cell? ⟨w.heap.size, 3, none⟩ = some (.slice B m d) := X1.out.c 3 rfl
      go_wp2_with fail
      go_ret
      exact ⟨ret_bool (by unfold validR; rw [V1.out, V2.out]; rfl), BW.out⟩
  · have V1 := Lib.hid h1
    clear h1
    have BW := Lib.hid (Below.refl w.heap.size w)
    go_enter Tryz.func26, Tryz.ntmps26
    go_upto_region 1 with fail
    have S1 := Lib.hid (S1.out.alloc (.cells #[.bool na, .slice A n c, .bool nb, .slice B m d] 26))
    have S2 := Lib.hid (S2.out.alloc (.cells #[.bool na, .slice A n c, .bool nb, .slice B m d] 26))
    have BW := Lib.hid (BW.out.alloc BW.out.size (.cells #[.bool na, .slice A n c, .bool nb, .slice B m d] 26))
    have X1 := Lib.hid (Bk.new 26 w #[.bool na, .slice A n c, .bool nb, .slice B m d])
    generalize (w.alloc (.cells #[.bool na, .slice A n c, .bool nb, .slice B m d] 26)) = W0 at *
    have e0 : W0.cell? ⟨w.heap.size, 0, none⟩ = some (.bool na) := X1.out.c 0 rfl
    have e1 : W0.cell? ⟨w.heap.size, 1, none⟩ = some (.slice A n c) := X1.out.c 1 rfl
    have e2 : W0.cell? ⟨w.heap.size, 2, none⟩ = some (.bool nb) := X1.out.c 2 rfl
    have e3 : W0.cell? ⟨w.heap.size, 3, none⟩ = some (.slice B m d) := X1.out.c 3 rfl
    go_wp2_with fail
    ((with_reducible refine (valid_any na A n c xs _ S1.out).mono ?_); rintro e w1 ⟨rfl, hb⟩)
    rw [V1.out]
    clear e0 e1 e2 e3
    have S1 := Lib.hid (S1.out.below hb)
    have S2 := Lib.hid (S2.out.below hb)
    have BW := Lib.hid (below_on BW.out hb)
    have X1 := Lib.hid (X1.out.below hb)
    clear hb
    have e0 : w1.cell? ⟨w.heap.size, 0, none⟩ = some (.bool na) := X1.out.c 0 rfl
    have e1 : w1.cell? ⟨w.heap.size, 1, none⟩ = some (.slice A n c) := X1.out.c 1 rfl
    have e2 : w1.cell? ⟨w.heap.size, 2, none⟩ = some (.bool nb) := X1.out.c 2 rfl
    have e3 : w1.cell? ⟨w.heap.size, 3, none⟩ = some (.slice B m d) := X1.out.c 3 rfl
    go_wp2_with fail
    go_ret
    exact ⟨ret_bool (by unfold validR; rw [V1.out]; rfl), BW.out⟩

theorem rint_any (k : Int) (w : World) (h1 : -9223372036854775808 ≤ k) (h2 : k ≤ 9223372036854775807) :
    Calls Tryz.prog 27 #[.int .i64 k] w fun e w' => ∃ T i r U l s, e = .returned (.agg #[.bool (nOf (k)), .slice T i r, .bool (nOf (1)), .slice U l s]) ∧ Sl w' T i r (lOf (k)) ∧ Sl w' U l s (lOf (1)) ∧ Below w.heap.size w w' := by
  have BW := Lib.hid (Below.refl w.heap.size w)
  go_enter Tryz.func27, Tryz.ntmps27
  go_upto_region 1 with fail
  have BW := Lib.hid (BW.out.alloc BW.out.size (.cells #[.bool false, .slice none 0 0, .bool false, .slice none 0 0] 26))
  have X1 := Lib.hid (Bk.new 26 w #[.bool false, .slice none 0 0, .bool false, .slice none 0 0])
  generalize (w.alloc (.cells #[.bool false, .slice none 0 0, .bool false, .slice none 0 0] 26)) = W0 at *
  go_wp2_with fail
  ((with_reducible refine (of_any k _ h1 h2).mono ?_); rintro e w1 ⟨T, i, r, rfl, hs, hb⟩)
  have BW := Lib.hid (below_on BW.out hb)
  have X1 := Lib.hid (X1.out.below hb)
  clear hb
  have S1 := Lib.hid hs
  clear hs
  go_wp2_with fail
  ((with_reducible refine (of_any 1 _ (by omega) (by omega)).mono ?_); rintro e w2 ⟨U, l, s, rfl, hs, hb⟩)
  have BW := Lib.hid (below_on BW.out hb)
  have X1 := Lib.hid (X1.out.below hb)
  have S1 := Lib.hid (S1.out.below hb)
  clear hb
  have S2 := Lib.hid hs
  clear hs
  have e0 : w2.cell? ⟨w.heap.size, 0, none⟩ = some (.bool false) := X1.out.c 0 rfl
  have e1 : w2.cell? ⟨w.heap.size, 1, none⟩ = some (.slice none 0 0) := X1.out.c 1 rfl
  have e2 : w2.cell? ⟨w.heap.size, 2, none⟩ = some (.bool false) := X1.out.c 2 rfl
  have e3 : w2.cell? ⟨w.heap.size, 3, none⟩ = some (.slice none 0 0) := X1.out.c 3 rfl
  have z4 := X1.out.fz 0
  have z5 := X1.out.fz 1
  have z6 := X1.out.fz 2
  have z7 := X1.out.fz 3
  go_wp2_with fail
  refine bodyPost_ret (v := .agg #[.bool (nOf (k)), .slice T i r, .bool (nOf (1)), .slice U l s]) (by simp [results, Tryz.results27, go_sem, *]) rfl ⟨T, i, r, U, l, s, rfl, S1.out.bk4 X1.out _ _ _ _, S2.out.bk4 X1.out _ _ _ _, below_set4 BW.out (by omega) _ _ _ _⟩

theorem frac_any (na nb : Bool) (A B : Option Addr) (n c m d : Nat) (xs ys : List Int) (w : World) (ha : Sl w A n c xs) (hb : Sl w B m d ys) :
    Calls Tryz.prog 29 #[.agg #[.bool na, .slice A n c, .bool nb, .slice B m d]] w fun e w' => ∃ T k r U l s, e = .returned (.agg #[.bool (nOf (frN na xs nb ys)), .slice T k r, .bool (nOf (frD na xs nb ys)), .slice U l s]) ∧ Sl w' T k r (lOf (frN na xs nb ys)) ∧ Sl w' U l s (lOf (frD na xs nb ys)) ∧ Below w.heap.size w w' := by
  have S1 := Lib.hid ha
  have S2 := Lib.hid hb
  clear ha hb
  rcases Bool.eq_false_or_eq_true (validR na xs nb ys) with h1 | h1
  · obtain ⟨-, -, h2, h3, h4, h5⟩ := fr_valid h1
    have E1 := Lib.hid h2
    have E2 := Lib.hid h3
    have E3 := Lib.hid h4
    have E4 := Lib.hid h5
    clear h2 h3 h4 h5
    have V1 := Lib.hid h1
    clear h1
    have BW := Lib.hid (Below.refl w.heap.size w)
    go_enter Tryz.func29, Tryz.ntmps29
    go_upto_region 1 with fail
    have S1 := Lib.hid (S1.out.alloc (.cells #[.bool na, .slice A n c, .bool nb, .slice B m d] 26))
    have S2 := Lib.hid (S2.out.alloc (.cells #[.bool na, .slice A n c, .bool nb, .slice B m d] 26))
    have BW := Lib.hid (BW.out.alloc BW.out.size (.cells #[.bool na, .slice A n c, .bool nb, .slice B m d] 26))
    have X1 := Lib.hid (Bk.new 26 w #[.bool na, .slice A n c, .bool nb, .slice B m d])
    have S1 := Lib.hid (S1.out.alloc (.cells #[.bool false, .slice none 0 0, .bool false, .slice none 0 0] 26))
    have S2 := Lib.hid (S2.out.alloc (.cells #[.bool false, .slice none 0 0, .bool false, .slice none 0 0] 26))
    have BW := Lib.hid (BW.out.alloc BW.out.size (.cells #[.bool false, .slice none 0 0, .bool false, .slice none 0 0] 26))
    have X1 := Lib.hid (X1.out.alloc (.cells #[.bool false, .slice none 0 0, .bool false, .slice none 0 0] 26))
    have X2 := Lib.hid (Bk.new 26 (w.alloc (.cells #[.bool na, .slice A n c, .bool nb, .slice B m d] 26)) #[.bool false, .slice none 0 0, .bool false, .slice none 0 0])
    rw [alloc_sz] at X2
    generalize ((w.alloc (.cells #[.bool na, .slice A n c, .bool nb, .slice B m d] 26)).alloc (.cells #[.bool false, .slice none 0 0, .bool false, .slice none 0 0] 26)) = W0 at *
    have e0 : W0.cell? ⟨w.heap.size, 0, none⟩ = some (.bool na) := X1.out.c 0 rfl
    have e1 : W0.cell? ⟨w.heap.size, 1, none⟩ = some (.slice A n c) := X1.out.c 1 rfl
    have e2 : W0.cell? ⟨w.heap.size, 2, none⟩ = some (.bool nb) := X1.out.c 2 rfl
    have e3 : W0.cell? ⟨w.heap.size, 3, none⟩ = some (.slice B m d) := X1.out.c 3 rfl
    go_wp2_with fail
    ((with_reducible refine (rvalid_any na nb A B n c m d xs ys _ S1.out S2.out).mono ?_); rintro e w1 ⟨rfl, hb⟩)
    rw [V1.out]
    clear e0 e1 e2 e3
    have S1 := Lib.hid (S1.out.below hb)
    have S2 := Lib.hid (S2.out.below hb)
    have BW := Lib.hid (below_on BW.out hb)
    have X1 := Lib.hid (X1.out.below hb)
    have X2 := Lib.hid (X2.out.below hb)
    clear hb
    have e0 : w1.cell? ⟨w.heap.size, 0, none⟩ = some (.bool na) := X1.out.c 0 rfl
    have e1 : w1.cell? ⟨w.heap.size, 1, none⟩ = some (.slice A n c) := X1.out.c 1 rfl
    have e2 : w1.cell? ⟨w.heap.size, 2, none⟩ = some (.bool nb) := X1.out.c 2 rfl
    have e3 : w1.cell? ⟨w.heap.size, 3, none⟩ = some (.slice B m d) := X1.out.c 3 rfl
    have e4 : w1.cell? ⟨w.heap.size + 1, 0, none⟩ = some (.bool false) := X2.out.c 0 rfl
    have e5 : w1.cell? ⟨w.heap.size + 1, 1, none⟩ = some (.slice none 0 0) := X2.out.c 1 rfl
    have e6 : w1.cell? ⟨w.heap.size + 1, 2, none⟩ = some (.bool false) := X2.out.c 2 rfl
    have e7 : w1.cell? ⟨w.heap.size + 1, 3, none⟩ = some (.slice none 0 0) := X2.out.c 3 rfl
    have z8 := X2.out.fz 0
    have z9 := X2.out.fz 1
    have z10 := X2.out.fz 2
    have z11 := X2.out.fz 3
    go_wp2_with fail
    have S3 := Lib.hid (S1.out.bk4 X2.out (.bool na) (.slice A n c) (.bool nb) (.slice B m d))
    have S4 := Lib.hid (S2.out.bk4 X2.out (.bool na) (.slice A n c) (.bool nb) (.slice B m d))
    refine bodyPost_ret (v := .agg #[.bool na, .slice A n c, .bool nb, .slice B m d]) (by simp [results, Tryz.results29, go_sem, *]) rfl ⟨A, n, c, B, m, d, ?_, ?_, ?_, below_set4 BW.out (by omega) _ _ _ _⟩
    · rw [← E1.out, ← E3.out]
    · rw [← E2.out]; exact S3.out
    · rw [← E4.out]; exact S4.out
  · obtain ⟨h2, h3⟩ := fr_invalid h1
    have E1 := Lib.hid h2
    have E2 := Lib.hid h3
    clear h2 h3
    have V1 := Lib.hid h1
    clear h1
    have BW := Lib.hid (Below.refl w.heap.size w)
    go_enter Tryz.func29, Tryz.ntmps29
    go_upto_region 1 with fail
    have S1 := Lib.hid (S1.out.alloc (.cells #[.bool na, .slice A n c, .bool nb, .slice B m d] 26))
    have S2 := Lib.hid (S2.out.alloc (.cells #[.bool na, .slice A n c, .bool nb, .slice B m d] 26))
    have BW := Lib.hid (BW.out.alloc BW.out.size (.cells #[.bool na, .slice A n c, .bool nb, .slice B m d] 26))
    have X1 := Lib.hid (Bk.new 26 w #[.bool na, .slice A n c, .bool nb, .slice B m d])
    have S1 := Lib.hid (S1.out.alloc (.cells #[.bool false, .slice none 0 0, .bool false, .slice none 0 0] 26))
    have S2 := Lib.hid (S2.out.alloc (.cells #[.bool false, .slice none 0 0, .bool false, .slice none 0 0] 26))
    have BW := Lib.hid (BW.out.alloc BW.out.size (.cells #[.bool false, .slice none 0 0, .bool false, .slice none 0 0] 26))
    have X1 := Lib.hid (X1.out.alloc (.cells #[.bool false, .slice none 0 0, .bool false, .slice none 0 0] 26))
    have X2 := Lib.hid (Bk.new 26 (w.alloc (.cells #[.bool na, .slice A n c, .bool nb, .slice B m d] 26)) #[.bool false, .slice none 0 0, .bool false, .slice none 0 0])
    rw [alloc_sz] at X2
    generalize ((w.alloc (.cells #[.bool na, .slice A n c, .bool nb, .slice B m d] 26)).alloc (.cells #[.bool false, .slice none 0 0, .bool false, .slice none 0 0] 26)) = W0 at *
    have e0 : W0.cell? ⟨w.heap.size, 0, none⟩ = some (.bool na) := X1.out.c 0 rfl
    have e1 : W0.cell? ⟨w.heap.size, 1, none⟩ = some (.slice A n c) := X1.out.c 1 rfl
    have e2 : W0.cell? ⟨w.heap.size, 2, none⟩ = some (.bool nb) := X1.out.c 2 rfl
    have e3 : W0.cell? ⟨w.heap.size, 3, none⟩ = some (.slice B m d) := X1.out.c 3 rfl
    go_wp2_with fail
    ((with_reducible refine (rvalid_any na nb A B n c m d xs ys _ S1.out S2.out).mono ?_); rintro e w1 ⟨rfl, hb⟩)
    rw [V1.out]
    clear e0 e1 e2 e3
    have S1 := Lib.hid (S1.out.below hb)
    have S2 := Lib.hid (S2.out.below hb)
    have BW := Lib.hid (below_on BW.out hb)
    have X1 := Lib.hid (X1.out.below hb)
    have X2 := Lib.hid (X2.out.below hb)
    clear hb
    have e0 : w1.cell? ⟨w.heap.size, 0, none⟩ = some (.bool na) := X1.out.c 0 rfl
    have e1 : w1.cell? ⟨w.heap.size, 1, none⟩ = some (.slice A n c) := X1.out.c 1 rfl
    have e2 : w1.cell? ⟨w.heap.size, 2, none⟩ = some (.bool nb) := X1.out.c 2 rfl
    have e3 : w1.cell? ⟨w.heap.size, 3, none⟩ = some (.slice B m d) := X1.out.c 3 rfl
    go_wp2_with fail
    ((with_reducible refine (rint_any 0 _ (by omega) (by omega)).mono ?_); rintro e w2 ⟨T, k, r, U, l, s, rfl, hs, ht, hb⟩)
    clear e0 e1 e2 e3
    have S1 := Lib.hid (S1.out.below hb)
    have S2 := Lib.hid (S2.out.below hb)
    have BW := Lib.hid (below_on BW.out hb)
    have X1 := Lib.hid (X1.out.below hb)
    have X2 := Lib.hid (X2.out.below hb)
    clear hb
    have S3 := Lib.hid hs
    have S4 := Lib.hid ht
    clear hs ht
    rw [← E1.out] at S3
    rw [← E2.out] at S4
    have e0 : w2.cell? ⟨w.heap.size, 0, none⟩ = some (.bool na) := X1.out.c 0 rfl
    have e1 : w2.cell? ⟨w.heap.size, 1, none⟩ = some (.slice A n c) := X1.out.c 1 rfl
    have e2 : w2.cell? ⟨w.heap.size, 2, none⟩ = some (.bool nb) := X1.out.c 2 rfl
    have e3 : w2.cell? ⟨w.heap.size, 3, none⟩ = some (.slice B m d) := X1.out.c 3 rfl
    have e4 : w2.cell? ⟨w.heap.size + 1, 0, none⟩ = some (.bool false) := X2.out.c 0 rfl
    have e5 : w2.cell? ⟨w.heap.size + 1, 1, none⟩ = some (.slice none 0 0) := X2.out.c 1 rfl
    have e6 : w2.cell? ⟨w.heap.size + 1, 2, none⟩ = some (.bool false) := X2.out.c 2 rfl
    have e7 : w2.cell? ⟨w.heap.size + 1, 3, none⟩ = some (.slice none 0 0) := X2.out.c 3 rfl
    have z8 := X2.out.fz 0
    have z9 := X2.out.fz 1
    have z10 := X2.out.fz 2
    have z11 := X2.out.fz 3
    go_wp2_with fail
    refine bodyPost_ret (v := .agg #[.bool (nOf (0)), .slice T k r, .bool (nOf (1)), .slice U l s]) (by simp [results, Tryz.results29, go_sem, *]) rfl ⟨T, k, r, U, l, s, ?_, S3.out.bk4 X2.out _ _ _ _, S4.out.bk4 X2.out _ _ _ _, below_set4 BW.out (by omega) _ _ _ _⟩
    rw [E1.out, E2.out]
end Go.Proofs.YtfenmogbellhdaaGreatDoor
