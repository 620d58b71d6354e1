/-
  The reference's Div (layer 2).
-/
import Derived.Test.YtfenmogbellhdaaDoorR2D
import Derived.Test.YtfenmogbellhdaaDoorRatW
namespace Go.Proofs.YtfenmogbellhdaaDoor
open Go.RowKit

theorem qr_bd (a b : Int) : (0 < b → 0 ≤ a.fmod b ∧ a.fmod b < b) ∧ (b < 0 → b < a.fmod b ∧ a.fmod b ≤ 0) := by
  refine ⟨fun h => ⟨Int.fmod_nonneg_of_pos a h, Int.fmod_lt_of_pos a h⟩, fun h => ?_⟩
  have h1 := Int.fmod_nonneg_of_pos (-a) (show 0 < -b by omega)
  have h2 := Int.fmod_lt_of_pos (-a) (show 0 < -b by omega)
  rw [Int.neg_fmod_neg] at h1 h2
  omega
theorem q_abs2 (a b : Int) (hb : b ≠ 0) : (qZ a b).natAbs ≤ a.natAbs := by
  unfold qZ
  rw [if_neg hb]
  rcases Int.lt_or_gt_of_ne hb with h | h
  · have e := Int.mul_fdiv_add_fmod a b
    have h1 := (qr_bd a b).2 h
    generalize a.fdiv b = x at *
    generalize a.fmod b = y at *
    rcases Int.lt_trichotomy x 0 with hx | hx | hx
    · have h3 : (-b - 1) * (-x - 1) ≥ 0 := Int.mul_nonneg (by omega) (by omega)
      have h4 : (-b - 1) * (-x - 1) = b * x + b + x + 1 := by
        rw [Int.sub_mul, Int.mul_sub, Int.neg_mul_neg]; omega
      omega
    · omega
    · have h3 : (-b) * x ≥ 1 * x := Int.mul_le_mul_of_nonneg_right (by omega) (by omega)
      rw [Int.neg_mul] at h3
      omega
  · have e := Int.mul_fdiv_add_fmod a b
    have h1 := (qr_bd a b).1 h
    generalize a.fdiv b = x at *
    generalize a.fmod b = y at *
    rcases Int.lt_trichotomy x 0 with hx | hx | hx
    · have h3 : (b - 1) * (-x - 1) ≥ 0 := Int.mul_nonneg (by omega) (by omega)
      have h4 : (b - 1) * (-x - 1) = -(b * x) - b + x + 1 := by
        rw [Int.sub_mul, Int.mul_sub, Int.mul_neg]; omega
      omega
    · omega
    · have h3 : b * x ≥ 1 * x := Int.mul_le_mul_of_nonneg_right (by omega) (by omega)
      omega
theorem fit_q2 {a b : Int} (hb : b ≠ 0) (h : fitB a = true) : fitB (qZ a b) = true := by
  have := q_abs2 a b hb
  rw [fitB_iff] at h ⊢; omega
theorem fit_r2 {a b : Int} (hb : b ≠ 0) (h : fitB b = true) : fitB (rZ a b) = true := by
  have : (rZ a b).natAbs ≤ b.natAbs := by
    unfold rZ
    rw [if_neg hb]
    have h1 := qr_bd a b
    rcases Int.lt_or_gt_of_ne hb with h | h
    · have := h1.2 h; omega
    · have := h1.1 h; omega
  rw [fitB_iff] at h ⊢; omega
set_option maxRecDepth 100000 in
set_option maxHeartbeats 4000000 in
theorem r2div_any (na nb : Bool) (A B : Option Addr) (n c m d : Nat) (xs ys : List Int) (w : World) (ha : Sl w A n c xs) (hb : Sl w B m d ys) :
    Calls Tryd.prog 34 #[.agg #[.bool na, .slice A n c], .agg #[.bool nb, .slice B m d]] w fun e w' => ∃ T k r U l s, e = .returned (.tuple #[.agg #[.bool (nOf (qZ (zOf na xs) (zOf nb ys))), .slice T k r], .agg #[.bool (nOf (rZ (zOf na xs) (zOf nb ys))), .slice U l s], .bool (zOf nb ys != 0)]) ∧ Sl w' T k r (lOf (qZ (zOf na xs) (zOf nb ys))) ∧ Sl w' U l s (lOf (rZ (zOf na xs) (zOf nb ys))) ∧ Below w.heap.size w w' := by
  have S1 := Lib.hid ha
  have S2 := Lib.hid hb
  clear ha hb
  by_cases h0 : zOf nb ys = 0
  · have H0 := Lib.hid h0
    clear h0
    have BW := Lib.hid (Below.refl w.heap.size w)
    go_enter Tryd.func34, Tryd.ntmps34
    go_upto_region 1 with fail
    have S1 := Lib.hid (S1.out.alloc (.cells #[.bool na, .slice A n c] 35))
    have S2 := Lib.hid (S2.out.alloc (.cells #[.bool na, .slice A n c] 35))
    have BW := Lib.hid (BW.out.alloc BW.out.size (.cells #[.bool na, .slice A n c] 35))
    have X1 := Lib.hid (Bk.new 35 w #[.bool na, .slice A n c])
    have S1 := Lib.hid (S1.out.alloc (.cells #[.bool nb, .slice B m d] 35))
    have S2 := Lib.hid (S2.out.alloc (.cells #[.bool nb, .slice B m d] 35))
    have BW := Lib.hid (BW.out.alloc BW.out.size (.cells #[.bool nb, .slice B m d] 35))
    have X1 := Lib.hid (X1.out.alloc (.cells #[.bool nb, .slice B m d] 35))
    have X2 := Lib.hid (Bk.new 35 (w.alloc (.cells #[.bool na, .slice A n c] 35)) #[.bool nb, .slice B m d])
    rw [alloc_sz] at X2
    have S1 := Lib.hid (S1.out.alloc (.cells #[.bool false, .slice none 0 0] 35))
    have S2 := Lib.hid (S2.out.alloc (.cells #[.bool false, .slice none 0 0] 35))
    have BW := Lib.hid (BW.out.alloc BW.out.size (.cells #[.bool false, .slice none 0 0] 35))
    have X1 := Lib.hid (X1.out.alloc (.cells #[.bool false, .slice none 0 0] 35))
    have X2 := Lib.hid (X2.out.alloc (.cells #[.bool false, .slice none 0 0] 35))
    have X3 := Lib.hid (Bk.new 35 ((w.alloc (.cells #[.bool na, .slice A n c] 35)).alloc (.cells #[.bool nb, .slice B m d] 35)) #[.bool false, .slice none 0 0])
    rw [alloc_sz, alloc_sz] at X3
    have S1 := Lib.hid (S1.out.alloc (.cells #[.bool false, .slice none 0 0] 35))
    have S2 := Lib.hid (S2.out.alloc (.cells #[.bool false, .slice none 0 0] 35))
    have BW := Lib.hid (BW.out.alloc BW.out.size (.cells #[.bool false, .slice none 0 0] 35))
    have X1 := Lib.hid (X1.out.alloc (.cells #[.bool false, .slice none 0 0] 35))
    have X2 := Lib.hid (X2.out.alloc (.cells #[.bool false, .slice none 0 0] 35))
    have X3 := Lib.hid (X3.out.alloc (.cells #[.bool false, .slice none 0 0] 35))
    have X4 := Lib.hid (Bk.new 35 (((w.alloc (.cells #[.bool na, .slice A n c] 35)).alloc (.cells #[.bool nb, .slice B m d] 35)).alloc (.cells #[.bool false, .slice none 0 0] 35)) #[.bool false, .slice none 0 0])
    rw [alloc_sz, alloc_sz, alloc_sz] at X4
    generalize ((((w.alloc (.cells #[.bool na, .slice A n c] 35)).alloc (.cells #[.bool nb, .slice B m d] 35)).alloc (.cells #[.bool false, .slice none 0 0] 35)).alloc (.cells #[.bool false, .slice none 0 0] 35)) = W0 at *
    have e0 : W0.cell? ⟨w.heap.size + 1, 0, none⟩ = some (.bool nb) := X2.out.c 0 rfl
    have e1 : W0.cell? ⟨w.heap.size + 1, 1, none⟩ = some (.slice B m d) := X2.out.c 1 rfl
    go_wp2_with fail
    ((with_reducible refine (rdigits_any nb B m d ys _ S2.out).mono ?_); rintro e w1 ⟨T, k, r, rfl, hs, hb⟩)
    have hk : k = 0 := by have := hs.len; rw [H0.out, lOf_zero] at this; simpa using this.symm
    have hk1 : ((k : Int) == 0) = true := by simp [hk]
    clear hs hk
    clear e0 e1
    have S1 := Lib.hid (S1.out.below hb)
    have S2 := Lib.hid (S2.out.below hb)
    have BW := Lib.hid (below_on BW.out hb)
    have X1 := Lib.hid (X1.out.below hb)
    have X2 := Lib.hid (X2.out.below hb)
    have X3 := Lib.hid (X3.out.below hb)
    have X4 := Lib.hid (X4.out.below hb)
    clear hb
    have e0 : w1.cell? ⟨w.heap.size + 1 + 1, 0, none⟩ = some (.bool false) := X3.out.c 0 rfl
    have e1 : w1.cell? ⟨w.heap.size + 1 + 1, 1, none⟩ = some (.slice none 0 0) := X3.out.c 1 rfl
    have e2 : w1.cell? ⟨w.heap.size + 1 + 1 + 1, 0, none⟩ = some (.bool false) := X4.out.c 0 rfl
    have e3 : w1.cell? ⟨w.heap.size + 1 + 1 + 1, 1, none⟩ = some (.slice none 0 0) := X4.out.c 1 rfl
    have z4 := X3.out.fz 0
    have z5 := X3.out.fz 1
    have z6 := X4.out.fz 0
    have z7 := X4.out.fz 1
    go_wp2_with fail
    refine bodyPost_ret (v := .tuple #[.agg #[.bool false, .slice none 0 0], .agg #[.bool false, .slice none 0 0], .bool false]) (by simp [results, Tryd.results34, go_sem, *]) rfl ⟨none, 0, 0, none, 0, 0, ?_, ?_, ?_, below_set2 (below_set2 BW.out (by omega) _ _) (by omega) _ _⟩
    · rw [H0.out, (qr_zero _).1, (qr_zero _).2]; rfl
    · rw [H0.out, (qr_zero _).1, lOf_zero]; exact Sl.nil _
    · rw [H0.out, (qr_zero _).2, lOf_zero]; exact Sl.nil _
  · have H0 := Lib.hid h0
    have NB : Hid ((zOf nb ys != 0) = true) := bne_iff_ne.2 h0
    have FA := Lib.hid (fit_zOf na xs)
    have FB := Lib.hid (fit_zOf nb ys)
    clear h0
    have BW := Lib.hid (Below.refl w.heap.size w)
    go_enter Tryd.func34, Tryd.ntmps34
    go_upto_region 1 with fail
    have S1 := Lib.hid (S1.out.alloc (.cells #[.bool na, .slice A n c] 35))
    have S2 := Lib.hid (S2.out.alloc (.cells #[.bool na, .slice A n c] 35))
    have BW := Lib.hid (BW.out.alloc BW.out.size (.cells #[.bool na, .slice A n c] 35))
    have X1 := Lib.hid (Bk.new 35 w #[.bool na, .slice A n c])
    have S1 := Lib.hid (S1.out.alloc (.cells #[.bool nb, .slice B m d] 35))
    have S2 := Lib.hid (S2.out.alloc (.cells #[.bool nb, .slice B m d] 35))
    have BW := Lib.hid (BW.out.alloc BW.out.size (.cells #[.bool nb, .slice B m d] 35))
    have X1 := Lib.hid (X1.out.alloc (.cells #[.bool nb, .slice B m d] 35))
    have X2 := Lib.hid (Bk.new 35 (w.alloc (.cells #[.bool na, .slice A n c] 35)) #[.bool nb, .slice B m d])
    rw [alloc_sz] at X2
    have S1 := Lib.hid (S1.out.alloc (.cells #[.bool false, .slice none 0 0] 35))
    have S2 := Lib.hid (S2.out.alloc (.cells #[.bool false, .slice none 0 0] 35))
    have BW := Lib.hid (BW.out.alloc BW.out.size (.cells #[.bool false, .slice none 0 0] 35))
    have X1 := Lib.hid (X1.out.alloc (.cells #[.bool false, .slice none 0 0] 35))
    have X2 := Lib.hid (X2.out.alloc (.cells #[.bool false, .slice none 0 0] 35))
    have X3 := Lib.hid (Bk.new 35 ((w.alloc (.cells #[.bool na, .slice A n c] 35)).alloc (.cells #[.bool nb, .slice B m d] 35)) #[.bool false, .slice none 0 0])
    rw [alloc_sz, alloc_sz] at X3
    have S1 := Lib.hid (S1.out.alloc (.cells #[.bool false, .slice none 0 0] 35))
    have S2 := Lib.hid (S2.out.alloc (.cells #[.bool false, .slice none 0 0] 35))
    have BW := Lib.hid (BW.out.alloc BW.out.size (.cells #[.bool false, .slice none 0 0] 35))
    have X1 := Lib.hid (X1.out.alloc (.cells #[.bool false, .slice none 0 0] 35))
    have X2 := Lib.hid (X2.out.alloc (.cells #[.bool false, .slice none 0 0] 35))
    have X3 := Lib.hid (X3.out.alloc (.cells #[.bool false, .slice none 0 0] 35))
    have X4 := Lib.hid (Bk.new 35 (((w.alloc (.cells #[.bool na, .slice A n c] 35)).alloc (.cells #[.bool nb, .slice B m d] 35)).alloc (.cells #[.bool false, .slice none 0 0] 35)) #[.bool false, .slice none 0 0])
    rw [alloc_sz, alloc_sz, alloc_sz] at X4
    generalize ((((w.alloc (.cells #[.bool na, .slice A n c] 35)).alloc (.cells #[.bool nb, .slice B m d] 35)).alloc (.cells #[.bool false, .slice none 0 0] 35)).alloc (.cells #[.bool false, .slice none 0 0] 35)) = W0 at *
    have e0 : W0.cell? ⟨w.heap.size + 1, 0, none⟩ = some (.bool nb) := X2.out.c 0 rfl
    have e1 : W0.cell? ⟨w.heap.size + 1, 1, none⟩ = some (.slice B m d) := X2.out.c 1 rfl
    go_wp2_with fail
    ((with_reducible refine (rdigits_any nb B m d ys _ S2.out).mono ?_); rintro e w1 ⟨T, k, r, rfl, hs, hb⟩)
    have hk : k ≠ 0 := fun h => H0.out (lOf_nil.1 (List.eq_nil_of_length_eq_zero (by rw [hs.len]; exact h)))
    have hk1 : ((k : Int) == 0) = false := by simp [hk]
    clear hs hk
    clear e0 e1
    have S1 := Lib.hid (S1.out.below hb)
    have S2 := Lib.hid (S2.out.below hb)
    have BW := Lib.hid (below_on BW.out hb)
    have X1 := Lib.hid (X1.out.below hb)
    have X2 := Lib.hid (X2.out.below hb)
    have X3 := Lib.hid (X3.out.below hb)
    have X4 := Lib.hid (X4.out.below hb)
    clear hb
    go_upto_region 3 with fail
    have e0 : w1.cell? ⟨w.heap.size, 0, none⟩ = some (.bool na) := X1.out.c 0 rfl
    have e1 : w1.cell? ⟨w.heap.size, 1, none⟩ = some (.slice A n c) := X1.out.c 1 rfl
    have e2 : w1.cell? ⟨w.heap.size + 1, 0, none⟩ = some (.bool nb) := X2.out.c 0 rfl
    have e3 : w1.cell? ⟨w.heap.size + 1, 1, none⟩ = some (.slice B m d) := X2.out.c 1 rfl
    go_region_held3 (fun w' => w'.cell? ⟨w.heap.size, 0, none⟩ = some (.bool na) ∧ w'.cell? ⟨w.heap.size, 1, none⟩ = some (.slice A n c) ∧ w'.cell? ⟨w.heap.size + 1, 0, none⟩ = some (.bool nb) ∧ w'.cell? ⟨w.heap.size + 1, 1, none⟩ = some (.slice B m d)) (go_keep)
      (first | (go_at_call 72; (with_reducible refine (rdigits_any na A n c xs _ (by first | exact S1.out | exact S1.out.drew)).mono ?_); rintro e a1 ⟨T1, k1, r1, rfl, hs, hb⟩; have BB1 := Lib.hid (show Below w1.heap.size w1 a1 from (by first | exact hb | exact (Below.refl _ _).drew.trans (hb.mono (Nat.le_refl _)))); have S3 := Lib.hid hs; clear hs; have f0 : a1.cell? ⟨w.heap.size, 0, none⟩ = some (.bool na) := (X1.out.below BB1.out).c 0 rfl; have f1 : a1.cell? ⟨w.heap.size, 1, none⟩ = some (.slice A n c) := (X1.out.below BB1.out).c 1 rfl; have f2 : a1.cell? ⟨w.heap.size + 1, 0, none⟩ = some (.bool nb) := (X2.out.below BB1.out).c 0 rfl; have f3 : a1.cell? ⟨w.heap.size + 1, 1, none⟩ = some (.slice B m d) := (X2.out.below BB1.out).c 1 rfl; clear hb) | (go_at_call 72; (with_reducible refine (rdigits_any nb B m d ys _ (S2.out.below BB1.out)).mono ?_); rintro e a2 ⟨T2, k2, r2, rfl, hs, hb⟩; have BB2 := Lib.hid (below_up BB1.out hb); have S3 := Lib.hid (S3.out.below hb); have S4 := Lib.hid hs; clear hs; have f0 : a2.cell? ⟨w.heap.size, 0, none⟩ = some (.bool na) := (X1.out.below BB2.out).c 0 rfl; have f1 : a2.cell? ⟨w.heap.size, 1, none⟩ = some (.slice A n c) := (X1.out.below BB2.out).c 1 rfl; have f2 : a2.cell? ⟨w.heap.size + 1, 0, none⟩ = some (.bool nb) := (X2.out.below BB2.out).c 0 rfl; have f3 : a2.cell? ⟨w.heap.size + 1, 1, none⟩ = some (.slice B m d) := (X2.out.below BB2.out).c 1 rfl; clear hb) | (go_at_call 73; (with_reducible refine (rdivide_any T1 T2 k1 r1 k2 r2 (lOf (zOf na xs)) (lOf (zOf nb ys)) _ S3.out S4.out (lOf_ok _) (lOf_ok _) (by rw [val_lOf]; have := H0.out; omega) (by have := S3.out.fit FA.out; omega) (by have := S4.out.fit FB.out; omega)).mono ?_); rintro e a3 ⟨Q, kq, rq, R, kr, rr, rfl, hs, ht, hb⟩; rw [val_lOf, val_lOf] at hs ht; have BB3 := Lib.hid (below_up BB2.out hb); have S3 := Lib.hid (S3.out.below hb); have S4 := Lib.hid (S4.out.below hb); have S5 := Lib.hid hs; clear hs; have S6 := Lib.hid ht; clear ht; have f0 : a3.cell? ⟨w.heap.size, 0, none⟩ = some (.bool na) := (X1.out.below BB3.out).c 0 rfl; have f1 : a3.cell? ⟨w.heap.size, 1, none⟩ = some (.slice A n c) := (X1.out.below BB3.out).c 1 rfl; have f2 : a3.cell? ⟨w.heap.size + 1, 0, none⟩ = some (.bool nb) := (X2.out.below BB3.out).c 0 rfl; have f3 : a3.cell? ⟨w.heap.size + 1, 1, none⟩ = some (.slice B m d) := (X2.out.below BB3.out).c 1 rfl; clear hb))
    clear e0 e1 e2 e3
    try clear f0 f1 f2 f3
    have S1 := Lib.hid (S1.out.below BB3.out)
    have S2 := Lib.hid (S2.out.below BB3.out)
    have BW := Lib.hid (below_on BW.out BB3.out)
    have X1 := Lib.hid (X1.out.below BB3.out)
    have X2 := Lib.hid (X2.out.below BB3.out)
    have X3 := Lib.hid (X3.out.below BB3.out)
    have X4 := Lib.hid (X4.out.below BB3.out)
    have LQ : Hid (kq ≤ 200) := by show kq ≤ 200; rw [← S5.out.len]; exact quot_len FA.out
    have LR : Hid (kr ≤ 200) := by
      show kr ≤ 200
      have h1 := rest_len (a := zOf na xs) H0.out
      have h2 := lOf_len FB.out
      rw [S6.out.len] at h1; omega
    have SMx := S3.out.len
    have LB : Hid (kr ≤ k2) := by
      show kr ≤ k2
      have h1 := rest_len (a := zOf na xs) H0.out
      rw [S6.out.len, S4.out.len] at h1; exact h1
    clear SMx
    clear S3
    obtain ⟨sa, hsa⟩ : ∃ sa, nOf (zOf na xs) = sa := ⟨_, rfl⟩
    obtain ⟨sb, hsb⟩ : ∃ sb, nOf (zOf nb ys) = sb := ⟨_, rfl⟩
    have HSA := Lib.hid hsa
    have HSB := Lib.hid hsb
    clear hsa hsb
    go_upto_region 4 with fail
    rcases Bool.eq_false_or_eq_true (sa != sb) with hg | hg
    · have hgb : (sa == sb) = false := by simpa using hg
      by_cases hz : kr = 0
      · have hz1 : ¬ (0 : Int) < (kr : Int) := by omega
        have HZ := Lib.hid (rest_zero (a := zOf na xs) (b := zOf nb ys) (by rw [S6.out.len]; exact hz))
        have HD := Lib.hid (div_same (a := zOf na xs) (b := zOf nb ys) H0.out (.inr HZ.out))
        rw [HSA.out, HSB.out, hg] at HD
        have HQ := Lib.hid HD.out.1
        have HR := Lib.hid HD.out.2
        clear hz HD HZ
        have e0 : a3.cell? ⟨w.heap.size, 0, none⟩ = some (.bool na) := X1.out.c 0 rfl
        have e1 : a3.cell? ⟨w.heap.size, 1, none⟩ = some (.slice A n c) := X1.out.c 1 rfl
        have e2 : a3.cell? ⟨w.heap.size + 1, 0, none⟩ = some (.bool nb) := X2.out.c 0 rfl
        have e3 : a3.cell? ⟨w.heap.size + 1, 1, none⟩ = some (.slice B m d) := X2.out.c 1 rfl
        go_region_held3 (fun w' => w'.cell? ⟨w.heap.size, 0, none⟩ = some (.bool na) ∧ w'.cell? ⟨w.heap.size, 1, none⟩ = some (.slice A n c) ∧ w'.cell? ⟨w.heap.size + 1, 0, none⟩ = some (.bool nb) ∧ w'.cell? ⟨w.heap.size + 1, 1, none⟩ = some (.slice B m d)) (go_keep)
          (first | (go_at_call 74; (with_reducible refine (rnegative_any na A n c xs _ (by first | exact S1.out | exact S1.out.drew)).mono ?_); rintro e b1 ⟨rfl, hb⟩; rw [HSA.out]; have BB1 := Lib.hid (show Below a3.heap.size a3 b1 from (by first | exact hb | exact (Below.refl _ _).drew.trans (hb.mono (Nat.le_refl _)))); have f0 : b1.cell? ⟨w.heap.size, 0, none⟩ = some (.bool na) := (X1.out.below BB1.out).c 0 rfl; have f1 : b1.cell? ⟨w.heap.size, 1, none⟩ = some (.slice A n c) := (X1.out.below BB1.out).c 1 rfl; have f2 : b1.cell? ⟨w.heap.size + 1, 0, none⟩ = some (.bool nb) := (X2.out.below BB1.out).c 0 rfl; have f3 : b1.cell? ⟨w.heap.size + 1, 1, none⟩ = some (.slice B m d) := (X2.out.below BB1.out).c 1 rfl; clear hb) | (go_at_call 74; (with_reducible refine (rnegative_any nb B m d ys _ (S2.out.below BB1.out)).mono ?_); rintro e b2 ⟨rfl, hb⟩; rw [HSB.out]; have BB2 := Lib.hid (below_up BB1.out hb); have f0 : b2.cell? ⟨w.heap.size, 0, none⟩ = some (.bool na) := (X1.out.below BB2.out).c 0 rfl; have f1 : b2.cell? ⟨w.heap.size, 1, none⟩ = some (.slice A n c) := (X1.out.below BB2.out).c 1 rfl; have f2 : b2.cell? ⟨w.heap.size + 1, 0, none⟩ = some (.bool nb) := (X2.out.below BB2.out).c 0 rfl; have f3 : b2.cell? ⟨w.heap.size + 1, 1, none⟩ = some (.slice B m d) := (X2.out.below BB2.out).c 1 rfl; clear hb))
        clear e0 e1 e2 e3
        try clear f0 f1 f2 f3
        have S1 := Lib.hid (S1.out.below BB2.out)
        have S2 := Lib.hid (S2.out.below BB2.out)
        have BW := Lib.hid (below_on BW.out BB2.out)
        have X1 := Lib.hid (X1.out.below BB2.out)
        have X2 := Lib.hid (X2.out.below BB2.out)
        have X3 := Lib.hid (X3.out.below BB2.out)
        have X4 := Lib.hid (X4.out.below BB2.out)
        have S4 := Lib.hid (S4.out.below BB2.out)
        have S5 := Lib.hid (S5.out.below BB2.out)
        have S6 := Lib.hid (S6.out.below BB2.out)
        have FQ : Hid (fitZ (sgn true ((((zOf na xs).natAbs : Int) / ((zOf nb ys).natAbs : Int)).toNat : Nat)) = qZ (zOf na xs) (zOf nb ys)) := by show fitZ _ = _; rw [HQ.out]; exact fitZ_of (fit_q2 H0.out FA.out)
        have FR : Hid (fitZ (sgn sb ((((zOf na xs).natAbs : Int) % ((zOf nb ys).natAbs : Int)).toNat : Nat)) = rZ (zOf na xs) (zOf nb ys)) := by show fitZ _ = _; rw [HR.out]; exact fitZ_of (fit_r2 H0.out FB.out)
        go_upto_region 7 with fail
        go_cut [9] (fun vp0 wx => ∃ (bp0 : Nat) (T7 : Option Addr) (k7 i7 : Nat), vp0 = .pointer (some ⟨bp0, 0, none⟩) ∧ b2.heap.size ≤ bp0 ∧ Bk 35 wx bp0 #[.bool (nOf (qZ (zOf na xs) (zOf nb ys))), .slice T7 k7 i7] ∧ Sl wx T7 k7 i7 (lOf (qZ (zOf na xs) (zOf nb ys))) ∧ Below b2.heap.size b2 wx)
        case first =>
          have e0 : b2.cell? ⟨w.heap.size, 0, none⟩ = some (.bool na) := X1.out.c 0 rfl
          have e1 : b2.cell? ⟨w.heap.size, 1, none⟩ = some (.slice A n c) := X1.out.c 1 rfl
          have e2 : b2.cell? ⟨w.heap.size + 1, 0, none⟩ = some (.bool nb) := X2.out.c 0 rfl
          have e3 : b2.cell? ⟨w.heap.size + 1, 1, none⟩ = some (.slice B m d) := X2.out.c 1 rfl
          have laX1 := X1.out.lt
          have xa0X1 : ¬ b2.heap.size = w.heap.size := by omega
          have ya0X1 : ¬ w.heap.size = b2.heap.size := by omega
          have laX2 := X2.out.lt
          have xa0X2 : ¬ b2.heap.size = w.heap.size + 1 := by omega
          have ya0X2 : ¬ w.heap.size + 1 = b2.heap.size := by omega
          have BB0 := Lib.hid (Below.refl b2.heap.size b2)
          go_region_held3 (fun w' => w'.cell? ⟨w.heap.size, 0, none⟩ = some (.bool na) ∧ w'.cell? ⟨w.heap.size, 1, none⟩ = some (.slice A n c) ∧ w'.cell? ⟨w.heap.size + 1, 0, none⟩ = some (.bool nb) ∧ w'.cell? ⟨w.heap.size + 1, 1, none⟩ = some (.slice B m d)) (go_keep)
            (first | (go_at_call 74; (with_reducible refine (rnegative_any na A n c xs _ (by first | exact S1.out.below BB0.out | exact (S1.out.below BB0.out).drew | exact (S1.out.below BB0.out).alloc _ | exact (S1.out.below BB0.out).drew.alloc _ | exact ((S1.out.below BB0.out).alloc _).drew)).mono ?_); rintro e p1 ⟨rfl, hb⟩; rw [HSA.out]; have BB1 := Lib.hid (show Below b2.heap.size b2 p1 from (by first | exact below_up BB0.out hb | exact below_up BB0.out.drew hb | exact below_up (BB0.out.alloc BB0.out.size _) hb | exact below_up (BB0.out.drew.alloc BB0.out.drew.size _) hb | exact below_up (BB0.out.alloc BB0.out.size _).drew hb)); (first | (have N1a := Lib.hid (show Bk 35 p1 b2.heap.size #[.bool false, .slice none 0 0] from Bk.below (Bk.new 35 b2 #[.bool false, .slice none 0 0]) hb)) | (have N1a := Lib.hid (show Bk 35 p1 b2.heap.size #[.bool false, .slice none 0 0] from Bk.below (Bk.new 35 b2.drew #[.bool false, .slice none 0 0]) hb)) | (have N1a := Lib.hid (show Bk 35 p1 b2.heap.size #[.bool false, .slice none 0 0] from Bk.below (Bk.new 35 b2 #[.bool false, .slice none 0 0]).drew hb)) | skip); (first | (have mN1a0 := N1a.out.c 0 (v := .bool false) rfl; have oN1a0 := N1a.out.fz 0; have mN1a1 := N1a.out.c 1 (v := .slice none 0 0) rfl; have oN1a1 := N1a.out.fz 1; have yN1a := N1a.out.lt; have yaN1a1 : ¬ b2.heap.size = p1.heap.size := (by omega); have ybN1a1 : ¬ p1.heap.size = b2.heap.size := (by omega); have ycN1a1 : ¬ b2.heap.size = p1.heap.size + 1 := (by omega); have ydN1a1 : ¬ p1.heap.size + 1 = b2.heap.size := (by omega)) | skip); have f0 : p1.cell? ⟨w.heap.size, 0, none⟩ = some (.bool na) := (X1.out.below BB1.out).c 0 rfl; have f1 : p1.cell? ⟨w.heap.size, 1, none⟩ = some (.slice A n c) := (X1.out.below BB1.out).c 1 rfl; have laX1 := (X1.out.below BB1.out).lt; have xa1X1 : ¬ p1.heap.size = w.heap.size := (by omega); have ya1X1 : ¬ w.heap.size = p1.heap.size := (by omega); have f2 : p1.cell? ⟨w.heap.size + 1, 0, none⟩ = some (.bool nb) := (X2.out.below BB1.out).c 0 rfl; have f3 : p1.cell? ⟨w.heap.size + 1, 1, none⟩ = some (.slice B m d) := (X2.out.below BB1.out).c 1 rfl; have laX2 := (X2.out.below BB1.out).lt; have xa1X2 : ¬ p1.heap.size = w.heap.size + 1 := (by omega); have ya1X2 : ¬ w.heap.size + 1 = p1.heap.size := (by omega); clear hb) | (go_at_call 74; (with_reducible refine (rnegative_any nb B m d ys _ (by first | exact S2.out.below BB1.out | exact (S2.out.below BB1.out).drew | exact (S2.out.below BB1.out).alloc _ | exact (S2.out.below BB1.out).drew.alloc _ | exact ((S2.out.below BB1.out).alloc _).drew)).mono ?_); rintro e p2 ⟨rfl, hb⟩; rw [HSB.out]; have BB2 := Lib.hid (show Below b2.heap.size b2 p2 from (by first | exact below_up BB1.out hb | exact below_up BB1.out.drew hb | exact below_up (BB1.out.alloc BB1.out.size _) hb | exact below_up (BB1.out.drew.alloc BB1.out.drew.size _) hb | exact below_up (BB1.out.alloc BB1.out.size _).drew hb)); (first | (have N1a := Lib.hid (N1a.out.below hb)) | (have N1a := Lib.hid (N1a.out.drew.below hb)) | (have N1a := Lib.hid ((N1a.out.alloc _).below hb)) | (have N1a := Lib.hid (((N1a.out.alloc _).drew).below hb)) | (have N1a := Lib.hid ((N1a.out.drew.alloc _).below hb)) | (have N1a := Lib.hid (((N1a.out.alloc _).alloc _).below hb)) | (have N1a := Lib.hid (((N1a.out.drew.alloc _).alloc _).below hb)) | skip); (first | (have N2a := Lib.hid (show Bk 35 p2 p1.heap.size #[.bool false, .slice none 0 0] from Bk.below (Bk.new 35 p1 #[.bool false, .slice none 0 0]) hb)) | (have N2a := Lib.hid (show Bk 35 p2 p1.heap.size #[.bool false, .slice none 0 0] from Bk.below (Bk.new 35 p1.drew #[.bool false, .slice none 0 0]) hb)) | (have N2a := Lib.hid (show Bk 35 p2 p1.heap.size #[.bool false, .slice none 0 0] from Bk.below (Bk.new 35 p1 #[.bool false, .slice none 0 0]).drew hb)) | skip); (first | (have mN1a0 := N1a.out.c 0 (v := .bool false) rfl; have oN1a0 := N1a.out.fz 0; have mN1a1 := N1a.out.c 1 (v := .slice none 0 0) rfl; have oN1a1 := N1a.out.fz 1; have yN1a := N1a.out.lt; have yaN1a2 : ¬ b2.heap.size = p2.heap.size := (by omega); have ybN1a2 : ¬ p2.heap.size = b2.heap.size := (by omega); have ycN1a2 : ¬ b2.heap.size = p2.heap.size + 1 := (by omega); have ydN1a2 : ¬ p2.heap.size + 1 = b2.heap.size := (by omega)) | skip); (first | (have mN2a0 := N2a.out.c 0 (v := .bool false) rfl; have oN2a0 := N2a.out.fz 0; have mN2a1 := N2a.out.c 1 (v := .slice none 0 0) rfl; have oN2a1 := N2a.out.fz 1; have yN2a := N2a.out.lt; have yaN2a2 : ¬ p1.heap.size = p2.heap.size := (by omega); have ybN2a2 : ¬ p2.heap.size = p1.heap.size := (by omega); have ycN2a2 : ¬ p1.heap.size = p2.heap.size + 1 := (by omega); have ydN2a2 : ¬ p2.heap.size + 1 = p1.heap.size := (by omega)) | skip); have f0 : p2.cell? ⟨w.heap.size, 0, none⟩ = some (.bool na) := (X1.out.below BB2.out).c 0 rfl; have f1 : p2.cell? ⟨w.heap.size, 1, none⟩ = some (.slice A n c) := (X1.out.below BB2.out).c 1 rfl; have laX1 := (X1.out.below BB2.out).lt; have xa2X1 : ¬ p2.heap.size = w.heap.size := (by omega); have ya2X1 : ¬ w.heap.size = p2.heap.size := (by omega); have f2 : p2.cell? ⟨w.heap.size + 1, 0, none⟩ = some (.bool nb) := (X2.out.below BB2.out).c 0 rfl; have f3 : p2.cell? ⟨w.heap.size + 1, 1, none⟩ = some (.slice B m d) := (X2.out.below BB2.out).c 1 rfl; have laX2 := (X2.out.below BB2.out).lt; have xa2X2 : ¬ p2.heap.size = w.heap.size + 1 := (by omega); have ya2X2 : ¬ w.heap.size + 1 = p2.heap.size := (by omega); clear hb) | (go_at_call 77; (with_reducible refine (number_any true Q kq rq (digs (((zOf na xs).natAbs : Int) / ((zOf nb ys).natAbs : Int)).toNat) (((zOf na xs).natAbs : Int) / ((zOf nb ys).natAbs : Int)).toNat _ (by first | exact S5.out.below BB2.out | exact (S5.out.below BB2.out).drew | exact (S5.out.below BB2.out).alloc _ | exact (S5.out.below BB2.out).drew.alloc _ | exact ((S5.out.below BB2.out).alloc _).drew) (by have := LQ.out; omega) (digs_ok _) (val_digs _)).mono ?_); rintro e p3 ⟨T7, k7, i7, rfl, hs, hb⟩; rw [FQ.out] at hs ⊢; have BB3 := Lib.hid (show Below b2.heap.size b2 p3 from (by first | exact below_up BB2.out hb | exact below_up BB2.out.drew hb | exact below_up (BB2.out.alloc BB2.out.size _) hb | exact below_up (BB2.out.drew.alloc BB2.out.drew.size _) hb | exact below_up (BB2.out.alloc BB2.out.size _).drew hb)); (first | (have N1a := Lib.hid (N1a.out.below hb)) | (have N1a := Lib.hid (N1a.out.drew.below hb)) | (have N1a := Lib.hid ((N1a.out.alloc _).below hb)) | (have N1a := Lib.hid (((N1a.out.alloc _).drew).below hb)) | (have N1a := Lib.hid ((N1a.out.drew.alloc _).below hb)) | (have N1a := Lib.hid (((N1a.out.alloc _).alloc _).below hb)) | (have N1a := Lib.hid (((N1a.out.drew.alloc _).alloc _).below hb)) | skip); (first | (have N2a := Lib.hid (N2a.out.below hb)) | (have N2a := Lib.hid (N2a.out.drew.below hb)) | (have N2a := Lib.hid ((N2a.out.alloc _).below hb)) | (have N2a := Lib.hid (((N2a.out.alloc _).drew).below hb)) | (have N2a := Lib.hid ((N2a.out.drew.alloc _).below hb)) | (have N2a := Lib.hid (((N2a.out.alloc _).alloc _).below hb)) | (have N2a := Lib.hid (((N2a.out.drew.alloc _).alloc _).below hb)) | skip); (first | (have N3a := Lib.hid (show Bk 35 p3 p2.heap.size #[.bool false, .slice none 0 0] from Bk.below (Bk.new 35 p2 #[.bool false, .slice none 0 0]) hb)) | (have N3a := Lib.hid (show Bk 35 p3 p2.heap.size #[.bool false, .slice none 0 0] from Bk.below (Bk.new 35 p2.drew #[.bool false, .slice none 0 0]) hb)) | (have N3a := Lib.hid (show Bk 35 p3 p2.heap.size #[.bool false, .slice none 0 0] from Bk.below (Bk.new 35 p2 #[.bool false, .slice none 0 0]).drew hb)) | skip); (first | (have mN1a0 := N1a.out.c 0 (v := .bool false) rfl; have oN1a0 := N1a.out.fz 0; have mN1a1 := N1a.out.c 1 (v := .slice none 0 0) rfl; have oN1a1 := N1a.out.fz 1; have yN1a := N1a.out.lt; have yaN1a3 : ¬ b2.heap.size = p3.heap.size := (by omega); have ybN1a3 : ¬ p3.heap.size = b2.heap.size := (by omega); have ycN1a3 : ¬ b2.heap.size = p3.heap.size + 1 := (by omega); have ydN1a3 : ¬ p3.heap.size + 1 = b2.heap.size := (by omega)) | skip); (first | (have mN2a0 := N2a.out.c 0 (v := .bool false) rfl; have oN2a0 := N2a.out.fz 0; have mN2a1 := N2a.out.c 1 (v := .slice none 0 0) rfl; have oN2a1 := N2a.out.fz 1; have yN2a := N2a.out.lt; have yaN2a3 : ¬ p1.heap.size = p3.heap.size := (by omega); have ybN2a3 : ¬ p3.heap.size = p1.heap.size := (by omega); have ycN2a3 : ¬ p1.heap.size = p3.heap.size + 1 := (by omega); have ydN2a3 : ¬ p3.heap.size + 1 = p1.heap.size := (by omega)) | skip); (first | (have mN3a0 := N3a.out.c 0 (v := .bool false) rfl; have oN3a0 := N3a.out.fz 0; have mN3a1 := N3a.out.c 1 (v := .slice none 0 0) rfl; have oN3a1 := N3a.out.fz 1; have yN3a := N3a.out.lt; have yaN3a3 : ¬ p2.heap.size = p3.heap.size := (by omega); have ybN3a3 : ¬ p3.heap.size = p2.heap.size := (by omega); have ycN3a3 : ¬ p2.heap.size = p3.heap.size + 1 := (by omega); have ydN3a3 : ¬ p3.heap.size + 1 = p2.heap.size := (by omega)) | skip); have S7 := Lib.hid hs; clear hs; have f0 : p3.cell? ⟨w.heap.size, 0, none⟩ = some (.bool na) := (X1.out.below BB3.out).c 0 rfl; have f1 : p3.cell? ⟨w.heap.size, 1, none⟩ = some (.slice A n c) := (X1.out.below BB3.out).c 1 rfl; have laX1 := (X1.out.below BB3.out).lt; have xa3X1 : ¬ p3.heap.size = w.heap.size := (by omega); have ya3X1 : ¬ w.heap.size = p3.heap.size := (by omega); have f2 : p3.cell? ⟨w.heap.size + 1, 0, none⟩ = some (.bool nb) := (X2.out.below BB3.out).c 0 rfl; have f3 : p3.cell? ⟨w.heap.size + 1, 1, none⟩ = some (.slice B m d) := (X2.out.below BB3.out).c 1 rfl; have laX2 := (X2.out.below BB3.out).lt; have xa3X2 : ¬ p3.heap.size = w.heap.size + 1 := (by omega); have ya3X2 : ¬ w.heap.size + 1 = p3.heap.size := (by omega); clear hb))
          all_goals (go_wp2_with fail; go_meet; (first | exact ⟨_, T7, k7, i7, rfl, (by first | exact Nat.le_refl _ | exact BB1.out.size | exact BB2.out.size | exact BB3.out.size), N1a.out.set2 _ _, S7.out.bk2 N1a.out _ _, below_set2 BB3.out (by first | exact Nat.le_refl _ | exact BB1.out.size | exact BB2.out.size | exact BB3.out.size) _ _⟩ | exact ⟨_, T7, k7, i7, rfl, (by first | exact Nat.le_refl _ | exact BB1.out.size | exact BB2.out.size | exact BB3.out.size), N2a.out.set2 _ _, S7.out.bk2 N2a.out _ _, below_set2 BB3.out (by first | exact Nat.le_refl _ | exact BB1.out.size | exact BB2.out.size | exact BB3.out.size) _ _⟩ | exact ⟨_, T7, k7, i7, rfl, (by first | exact Nat.le_refl _ | exact BB1.out.size | exact BB2.out.size | exact BB3.out.size), N3a.out.set2 _ _, S7.out.bk2 N3a.out _ _, below_set2 BB3.out (by first | exact Nat.le_refl _ | exact BB1.out.size | exact BB2.out.size | exact BB3.out.size) _ _⟩ | exact ⟨_, T7, k7, i7, rfl, (by first | exact Nat.le_refl _ | exact BB1.out.size | exact BB2.out.size | exact BB3.out.size), Bk.new _ _ _, S7.out.alloc _, BB3.out.alloc BB3.out.size _⟩))
        case rest =>
          obtain ⟨bp0, T7, k7, i7, rfl, hge, hx0, hs, hb⟩ := hcut
          have S1 := Lib.hid (S1.out.below hb)
          have S2 := Lib.hid (S2.out.below hb)
          have BW := Lib.hid (below_on BW.out hb)
          have X1 := Lib.hid (X1.out.below hb)
          have X2 := Lib.hid (X2.out.below hb)
          have X3 := Lib.hid (X3.out.below hb)
          have X4 := Lib.hid (X4.out.below hb)
          have S4 := Lib.hid (S4.out.below hb)
          have S5 := Lib.hid (S5.out.below hb)
          have S6 := Lib.hid (S6.out.below hb)
          clear hb
          have Y1 := Lib.hid hx0
          clear hx0
          have S7 := Lib.hid hs
          clear hs
          have szw := BW.out.size
          generalize wc = W7 at *
          have e0 : W7.cell? ⟨w.heap.size + 1, 0, none⟩ = some (.bool nb) := X2.out.c 0 rfl
          have e1 : W7.cell? ⟨w.heap.size + 1, 1, none⟩ = some (.slice B m d) := X2.out.c 1 rfl
          go_wp2_with fail
          ((with_reducible refine (rnegative_any nb B m d ys _ S2.out).mono ?_); rintro e w8 ⟨rfl, hb⟩)
          rw [HSB.out]
          clear e0 e1
          have S1 := Lib.hid (S1.out.below hb)
          have S2 := Lib.hid (S2.out.below hb)
          have BW := Lib.hid (below_on BW.out hb)
          have X1 := Lib.hid (X1.out.below hb)
          have X2 := Lib.hid (X2.out.below hb)
          have X3 := Lib.hid (X3.out.below hb)
          have X4 := Lib.hid (X4.out.below hb)
          have S4 := Lib.hid (S4.out.below hb)
          have S5 := Lib.hid (S5.out.below hb)
          have S6 := Lib.hid (S6.out.below hb)
          have Y1 := Lib.hid (Y1.out.below hb)
          have S7 := Lib.hid (S7.out.below hb)
          clear hb
          go_wp2_with fail
          ((with_reducible refine (number_any sb R kr rr (digs (((zOf na xs).natAbs : Int) % ((zOf nb ys).natAbs : Int)).toNat) (((zOf na xs).natAbs : Int) % ((zOf nb ys).natAbs : Int)).toNat _ S6.out (by have := LR.out; omega) (digs_ok _) (val_digs _)).mono ?_); rintro e w9 ⟨U, l, s, rfl, hs, hb⟩)
          rw [FR.out] at hs ⊢
          have S1 := Lib.hid (S1.out.below hb)
          have S2 := Lib.hid (S2.out.below hb)
          have BW := Lib.hid (below_on BW.out hb)
          have X1 := Lib.hid (X1.out.below hb)
          have X2 := Lib.hid (X2.out.below hb)
          have X3 := Lib.hid (X3.out.below hb)
          have X4 := Lib.hid (X4.out.below hb)
          have S4 := Lib.hid (S4.out.below hb)
          have S5 := Lib.hid (S5.out.below hb)
          have S6 := Lib.hid (S6.out.below hb)
          have Y1 := Lib.hid (Y1.out.below hb)
          have S7 := Lib.hid (S7.out.below hb)
          clear hb
          have S8 := Lib.hid hs
          clear hs
          go_upto_region 9 with fail
          have ln1 := X1.out.lt
          have ln2 := X2.out.lt
          have ln3 := X3.out.lt
          have ln4 := X4.out.lt
          have ln5 := Y1.out.lt
          have S1 := Lib.hid (S1.out.alloc (.cells #[.bool (nOf (rZ (zOf na xs) (zOf nb ys))), .slice U l s] 35))
          have S2 := Lib.hid (S2.out.alloc (.cells #[.bool (nOf (rZ (zOf na xs) (zOf nb ys))), .slice U l s] 35))
          have BW := Lib.hid (BW.out.alloc BW.out.size (.cells #[.bool (nOf (rZ (zOf na xs) (zOf nb ys))), .slice U l s] 35))
          have X1 := Lib.hid (X1.out.alloc (.cells #[.bool (nOf (rZ (zOf na xs) (zOf nb ys))), .slice U l s] 35))
          have X2 := Lib.hid (X2.out.alloc (.cells #[.bool (nOf (rZ (zOf na xs) (zOf nb ys))), .slice U l s] 35))
          have X3 := Lib.hid (X3.out.alloc (.cells #[.bool (nOf (rZ (zOf na xs) (zOf nb ys))), .slice U l s] 35))
          have X4 := Lib.hid (X4.out.alloc (.cells #[.bool (nOf (rZ (zOf na xs) (zOf nb ys))), .slice U l s] 35))
          have S4 := Lib.hid (S4.out.alloc (.cells #[.bool (nOf (rZ (zOf na xs) (zOf nb ys))), .slice U l s] 35))
          have S5 := Lib.hid (S5.out.alloc (.cells #[.bool (nOf (rZ (zOf na xs) (zOf nb ys))), .slice U l s] 35))
          have S6 := Lib.hid (S6.out.alloc (.cells #[.bool (nOf (rZ (zOf na xs) (zOf nb ys))), .slice U l s] 35))
          have Y1 := Lib.hid (Y1.out.alloc (.cells #[.bool (nOf (rZ (zOf na xs) (zOf nb ys))), .slice U l s] 35))
          have S7 := Lib.hid (S7.out.alloc (.cells #[.bool (nOf (rZ (zOf na xs) (zOf nb ys))), .slice U l s] 35))
          have S8 := Lib.hid (S8.out.alloc (.cells #[.bool (nOf (rZ (zOf na xs) (zOf nb ys))), .slice U l s] 35))
          have Y2 := Lib.hid (Bk.new 35 w9 #[.bool (nOf (rZ (zOf na xs) (zOf nb ys))), .slice U l s])
          generalize (w9.alloc (.cells #[.bool (nOf (rZ (zOf na xs) (zOf nb ys))), .slice U l s] 35)) = W9 at *
          have e0 : W9.cell? ⟨bp0, 0, none⟩ = some (.bool (nOf (qZ (zOf na xs) (zOf nb ys)))) := Y1.out.c 0 rfl
          have e1 : W9.cell? ⟨bp0, 1, none⟩ = some (.slice T7 k7 i7) := Y1.out.c 1 rfl
          have e2 : W9.cell? ⟨w9.heap.size, 0, none⟩ = some (.bool (nOf (rZ (zOf na xs) (zOf nb ys)))) := Y2.out.c 0 rfl
          have e3 : W9.cell? ⟨w9.heap.size, 1, none⟩ = some (.slice U l s) := Y2.out.c 1 rfl
          have e4 : W9.cell? ⟨w.heap.size + 1 + 1, 0, none⟩ = some (.bool false) := X3.out.c 0 rfl
          have e5 : W9.cell? ⟨w.heap.size + 1 + 1, 1, none⟩ = some (.slice none 0 0) := X3.out.c 1 rfl
          have e6 : W9.cell? ⟨w.heap.size + 1 + 1 + 1, 0, none⟩ = some (.bool false) := X4.out.c 0 rfl
          have e7 : W9.cell? ⟨w.heap.size + 1 + 1 + 1, 1, none⟩ = some (.slice none 0 0) := X4.out.c 1 rfl
          have z8 := X3.out.fz 0
          have z9 := X3.out.fz 1
          have z10 := X4.out.fz 0
          have z11 := X4.out.fz 1
          go_region
          all_goals
            go_wp2_with fail
            refine bodyPost_ret (v := .tuple #[.agg #[.bool (nOf (qZ (zOf na xs) (zOf nb ys))), .slice T7 k7 i7], .agg #[.bool (nOf (rZ (zOf na xs) (zOf nb ys))), .slice U l s], .bool true]) (by simp [results, Tryd.results34, go_sem, *]) rfl ⟨T7, k7, i7, U, l, s, by rw [NB.out], (by first | exact (S7.out.bk2 X3.out _ _).bk2 (X4.out.far2 (by omega) _ _) _ _ | exact (S7.out.bk2 X4.out _ _).bk2 (X3.out.far2 (by omega) _ _) _ _ | exact ((S7.out.bk2 X3.out _ _).bk2 (X4.out.far2 (by omega) _ _) _ _).drew | exact ((S7.out.bk2 X4.out _ _).bk2 (X3.out.far2 (by omega) _ _) _ _).drew), (by first | exact (S8.out.bk2 X3.out _ _).bk2 (X4.out.far2 (by omega) _ _) _ _ | exact (S8.out.bk2 X4.out _ _).bk2 (X3.out.far2 (by omega) _ _) _ _ | exact ((S8.out.bk2 X3.out _ _).bk2 (X4.out.far2 (by omega) _ _) _ _).drew | exact ((S8.out.bk2 X4.out _ _).bk2 (X3.out.far2 (by omega) _ _) _ _).drew), (by first | exact below_set2 (below_set2 BW.out (by omega) _ _) (by omega) _ _ | exact (below_set2 (below_set2 BW.out (by omega) _ _) (by omega) _ _).drew | exact below_set2 (below_set2 BW.out.drew (by omega) _ _) (by omega) _ _)⟩
      · have hz1 : (0 : Int) < (kr : Int) := by omega
        have HZ := Lib.hid (rest_pos (a := zOf na xs) (b := zOf nb ys) (by rw [S6.out.len]; omega))
        have HD := Lib.hid (div_diff (a := zOf na xs) (b := zOf nb ys) H0.out (by rw [HSA.out, HSB.out]; exact hg) HZ.out)
        rw [HSA.out, HSB.out, hg] at HD
        have HQ := Lib.hid HD.out.1
        have HR := Lib.hid HD.out.2
        clear hz HD
        have e0 : a3.cell? ⟨w.heap.size, 0, none⟩ = some (.bool na) := X1.out.c 0 rfl
        have e1 : a3.cell? ⟨w.heap.size, 1, none⟩ = some (.slice A n c) := X1.out.c 1 rfl
        have e2 : a3.cell? ⟨w.heap.size + 1, 0, none⟩ = some (.bool nb) := X2.out.c 0 rfl
        have e3 : a3.cell? ⟨w.heap.size + 1, 1, none⟩ = some (.slice B m d) := X2.out.c 1 rfl
        go_region_held3 (fun w' => w'.cell? ⟨w.heap.size, 0, none⟩ = some (.bool na) ∧ w'.cell? ⟨w.heap.size, 1, none⟩ = some (.slice A n c) ∧ w'.cell? ⟨w.heap.size + 1, 0, none⟩ = some (.bool nb) ∧ w'.cell? ⟨w.heap.size + 1, 1, none⟩ = some (.slice B m d)) (go_keep)
          (first | (go_at_call 74; (with_reducible refine (rnegative_any na A n c xs _ (by first | exact S1.out | exact S1.out.drew)).mono ?_); rintro e b1 ⟨rfl, hb⟩; rw [HSA.out]; have BB1 := Lib.hid (show Below a3.heap.size a3 b1 from (by first | exact hb | exact (Below.refl _ _).drew.trans (hb.mono (Nat.le_refl _)))); have f0 : b1.cell? ⟨w.heap.size, 0, none⟩ = some (.bool na) := (X1.out.below BB1.out).c 0 rfl; have f1 : b1.cell? ⟨w.heap.size, 1, none⟩ = some (.slice A n c) := (X1.out.below BB1.out).c 1 rfl; have f2 : b1.cell? ⟨w.heap.size + 1, 0, none⟩ = some (.bool nb) := (X2.out.below BB1.out).c 0 rfl; have f3 : b1.cell? ⟨w.heap.size + 1, 1, none⟩ = some (.slice B m d) := (X2.out.below BB1.out).c 1 rfl; clear hb) | (go_at_call 74; (with_reducible refine (rnegative_any nb B m d ys _ (S2.out.below BB1.out)).mono ?_); rintro e b2 ⟨rfl, hb⟩; rw [HSB.out]; have BB2 := Lib.hid (below_up BB1.out hb); have f0 : b2.cell? ⟨w.heap.size, 0, none⟩ = some (.bool na) := (X1.out.below BB2.out).c 0 rfl; have f1 : b2.cell? ⟨w.heap.size, 1, none⟩ = some (.slice A n c) := (X1.out.below BB2.out).c 1 rfl; have f2 : b2.cell? ⟨w.heap.size + 1, 0, none⟩ = some (.bool nb) := (X2.out.below BB2.out).c 0 rfl; have f3 : b2.cell? ⟨w.heap.size + 1, 1, none⟩ = some (.slice B m d) := (X2.out.below BB2.out).c 1 rfl; clear hb))
        clear e0 e1 e2 e3
        try clear f0 f1 f2 f3
        have S1 := Lib.hid (S1.out.below BB2.out)
        have S2 := Lib.hid (S2.out.below BB2.out)
        have BW := Lib.hid (below_on BW.out BB2.out)
        have X1 := Lib.hid (X1.out.below BB2.out)
        have X2 := Lib.hid (X2.out.below BB2.out)
        have X3 := Lib.hid (X3.out.below BB2.out)
        have X4 := Lib.hid (X4.out.below BB2.out)
        have S4 := Lib.hid (S4.out.below BB2.out)
        have S5 := Lib.hid (S5.out.below BB2.out)
        have S6 := Lib.hid (S6.out.below BB2.out)
        go_upto_region 5 with fail
        have HO1 := Lib.hid (show Sl (b2.alloc (.cells #[.int .i64 1] 3)) (some ⟨b2.heap.size, 0, none⟩) 1 1 [1] from (Own.new b2 [1]).all (n := 1) (c := 1) rfl (Nat.le_refl _) (by omega))
        have S1 := Lib.hid (S1.out.alloc (.cells #[.int .i64 1] 3))
        have S2 := Lib.hid (S2.out.alloc (.cells #[.int .i64 1] 3))
        have BW := Lib.hid (BW.out.alloc BW.out.size (.cells #[.int .i64 1] 3))
        have X1 := Lib.hid (X1.out.alloc (.cells #[.int .i64 1] 3))
        have X2 := Lib.hid (X2.out.alloc (.cells #[.int .i64 1] 3))
        have X3 := Lib.hid (X3.out.alloc (.cells #[.int .i64 1] 3))
        have X4 := Lib.hid (X4.out.alloc (.cells #[.int .i64 1] 3))
        have S4 := Lib.hid (S4.out.alloc (.cells #[.int .i64 1] 3))
        have S5 := Lib.hid (S5.out.alloc (.cells #[.int .i64 1] 3))
        have S6 := Lib.hid (S6.out.alloc (.cells #[.int .i64 1] 3))
        have HD1 : Hid (dOk [(1 : Int)]) := dOk_cons.2 ⟨⟨by omega, by omega⟩, dOk_nil⟩
        go_wp2_with fail
        (refine (plus_any Q _ kq rq 1 1 (digs (((zOf na xs).natAbs : Int) / ((zOf nb ys).natAbs : Int)).toNat) [1] _ S5.out HO1.out (digs_ok _) HD1.out (by have := LQ.out; omega) (by omega)).mono ?_; rintro e w5 ⟨P, kp, rp, rfl, hs, hb⟩)
        rw [val_digs, show val [(1 : Int)] = 1 by simp [val], show ((((zOf na xs).natAbs : Int) / ((zOf nb ys).natAbs : Int)).toNat : Int) + 1 = ((zOf na xs).natAbs : Int) / ((zOf nb ys).natAbs : Int) + 1 by have := (nat_div (zOf na xs) (zOf nb ys) H0.out).2.2.2; omega] at hs
        have S1 := Lib.hid (S1.out.below hb)
        have S2 := Lib.hid (S2.out.below hb)
        have BW := Lib.hid (below_on BW.out hb)
        have X1 := Lib.hid (X1.out.below hb)
        have X2 := Lib.hid (X2.out.below hb)
        have X3 := Lib.hid (X3.out.below hb)
        have X4 := Lib.hid (X4.out.below hb)
        have S4 := Lib.hid (S4.out.below hb)
        have S5 := Lib.hid (S5.out.below hb)
        have S6 := Lib.hid (S6.out.below hb)
        clear hb
        have S10 := Lib.hid hs
        clear hs
        clear S5
        go_upto_region 6 with fail
        have e0 : w5.cell? ⟨w.heap.size + 1, 0, none⟩ = some (.bool nb) := X2.out.c 0 rfl
        have e1 : w5.cell? ⟨w.heap.size + 1, 1, none⟩ = some (.slice B m d) := X2.out.c 1 rfl
        go_wp2_with fail
        ((with_reducible refine (rdigits_any nb B m d ys _ S2.out).mono ?_); rintro e w6 ⟨T6, k6, i6, rfl, hs, hb⟩)
        clear e0 e1
        have S1 := Lib.hid (S1.out.below hb)
        have S2 := Lib.hid (S2.out.below hb)
        have BW := Lib.hid (below_on BW.out hb)
        have X1 := Lib.hid (X1.out.below hb)
        have X2 := Lib.hid (X2.out.below hb)
        have X3 := Lib.hid (X3.out.below hb)
        have X4 := Lib.hid (X4.out.below hb)
        have S4 := Lib.hid (S4.out.below hb)
        have S6 := Lib.hid (S6.out.below hb)
        have S10 := Lib.hid (S10.out.below hb)
        clear hb
        have S9 := Lib.hid hs
        clear hs
        go_wp2_with fail
        (refine (minus_any T6 R k6 i6 kr rr (lOf (zOf nb ys)) (digs (((zOf na xs).natAbs : Int) % ((zOf nb ys).natAbs : Int)).toNat) _ S9.out S6.out (lOf_ok _) (digs_ok _) (by have := S9.out.fit FB.out; omega) (by have h1 := S9.out.len; have h2 := S4.out.len; have := LB.out; omega) (by rw [val_lOf, val_digs]; have := (nat_div (zOf na xs) (zOf nb ys) H0.out).2.2.1; have := (nat_div (zOf na xs) (zOf nb ys) H0.out).2.1; omega)).mono ?_; rintro e w7 ⟨V, kv, rv, rfl, hs, hb⟩)
        rw [val_lOf, val_digs, show (((zOf nb ys).natAbs : Int) - ((((zOf na xs).natAbs : Int) % ((zOf nb ys).natAbs : Int)).toNat : Int)) = ((zOf nb ys).natAbs : Int) - ((zOf na xs).natAbs : Int) % ((zOf nb ys).natAbs : Int) by have := (nat_div (zOf na xs) (zOf nb ys) H0.out).2.1; omega] at hs
        have S1 := Lib.hid (S1.out.below hb)
        have S2 := Lib.hid (S2.out.below hb)
        have BW := Lib.hid (below_on BW.out hb)
        have X1 := Lib.hid (X1.out.below hb)
        have X2 := Lib.hid (X2.out.below hb)
        have X3 := Lib.hid (X3.out.below hb)
        have X4 := Lib.hid (X4.out.below hb)
        have S4 := Lib.hid (S4.out.below hb)
        have S6 := Lib.hid (S6.out.below hb)
        have S10 := Lib.hid (S10.out.below hb)
        have S9 := Lib.hid (S9.out.below hb)
        clear hb
        have S11 := Lib.hid hs
        clear hs
        have LP : Hid (kp ≤ 300) := by
          show kp ≤ 300
          rw [← S10.out.len]
          have h1 := quot_len (a := zOf na xs) (b := zOf nb ys) FA.out
          have h2 := digs_len_lt h1
          refine Nat.le_trans (digs_len_le (k := 200 + 1) ?_) (by omega)
          have h3 := (nat_div (zOf na xs) (zOf nb ys) H0.out).2.2.2
          have h4 := pw_succ 200
          omega
        have LV : Hid (kv ≤ 300) := by
          show kv ≤ 300
          rw [← S11.out.len]
          have h1 := lOf_len FB.out
          have h2 := digs_len_lt (n := (zOf nb ys).natAbs) h1
          refine Nat.le_trans (digs_len_le (k := 200) ?_) (by omega)
          have h3 := (nat_div (zOf na xs) (zOf nb ys) H0.out).2.1
          omega
        clear S6 S9 S4
        have FQ : Hid (fitZ (sgn true ((((zOf na xs).natAbs : Int) / ((zOf nb ys).natAbs : Int) + 1).toNat : Nat)) = qZ (zOf na xs) (zOf nb ys)) := by show fitZ _ = _; rw [HQ.out]; exact fitZ_of (fit_q2 H0.out FA.out)
        have FR : Hid (fitZ (sgn sb ((((zOf nb ys).natAbs : Int) - ((zOf na xs).natAbs : Int) % ((zOf nb ys).natAbs : Int)).toNat : Nat)) = rZ (zOf na xs) (zOf nb ys)) := by show fitZ _ = _; rw [HR.out]; exact fitZ_of (fit_r2 H0.out FB.out)
        go_upto_region 7 with fail
        go_cut [9] (fun vp0 wx => ∃ (bp0 : Nat) (T7 : Option Addr) (k7 i7 : Nat), vp0 = .pointer (some ⟨bp0, 0, none⟩) ∧ w7.heap.size ≤ bp0 ∧ Bk 35 wx bp0 #[.bool (nOf (qZ (zOf na xs) (zOf nb ys))), .slice T7 k7 i7] ∧ Sl wx T7 k7 i7 (lOf (qZ (zOf na xs) (zOf nb ys))) ∧ Below w7.heap.size w7 wx)
        case first =>
          have e0 : w7.cell? ⟨w.heap.size, 0, none⟩ = some (.bool na) := X1.out.c 0 rfl
          have e1 : w7.cell? ⟨w.heap.size, 1, none⟩ = some (.slice A n c) := X1.out.c 1 rfl
          have e2 : w7.cell? ⟨w.heap.size + 1, 0, none⟩ = some (.bool nb) := X2.out.c 0 rfl
          have e3 : w7.cell? ⟨w.heap.size + 1, 1, none⟩ = some (.slice B m d) := X2.out.c 1 rfl
          have laX1 := X1.out.lt
          have xa0X1 : ¬ w7.heap.size = w.heap.size := by omega
          have ya0X1 : ¬ w.heap.size = w7.heap.size := by omega
          have laX2 := X2.out.lt
          have xa0X2 : ¬ w7.heap.size = w.heap.size + 1 := by omega
          have ya0X2 : ¬ w.heap.size + 1 = w7.heap.size := by omega
          have BB0 := Lib.hid (Below.refl w7.heap.size w7)
          go_region_held3 (fun w' => w'.cell? ⟨w.heap.size, 0, none⟩ = some (.bool na) ∧ w'.cell? ⟨w.heap.size, 1, none⟩ = some (.slice A n c) ∧ w'.cell? ⟨w.heap.size + 1, 0, none⟩ = some (.bool nb) ∧ w'.cell? ⟨w.heap.size + 1, 1, none⟩ = some (.slice B m d)) (go_keep)
            (first | (go_at_call 74; (with_reducible refine (rnegative_any na A n c xs _ (by first | exact S1.out.below BB0.out | exact (S1.out.below BB0.out).drew | exact (S1.out.below BB0.out).alloc _ | exact (S1.out.below BB0.out).drew.alloc _ | exact ((S1.out.below BB0.out).alloc _).drew)).mono ?_); rintro e p1 ⟨rfl, hb⟩; rw [HSA.out]; have BB1 := Lib.hid (show Below w7.heap.size w7 p1 from (by first | exact below_up BB0.out hb | exact below_up BB0.out.drew hb | exact below_up (BB0.out.alloc BB0.out.size _) hb | exact below_up (BB0.out.drew.alloc BB0.out.drew.size _) hb | exact below_up (BB0.out.alloc BB0.out.size _).drew hb)); (first | (have N1a := Lib.hid (show Bk 35 p1 w7.heap.size #[.bool false, .slice none 0 0] from Bk.below (Bk.new 35 w7 #[.bool false, .slice none 0 0]) hb)) | (have N1a := Lib.hid (show Bk 35 p1 w7.heap.size #[.bool false, .slice none 0 0] from Bk.below (Bk.new 35 w7.drew #[.bool false, .slice none 0 0]) hb)) | (have N1a := Lib.hid (show Bk 35 p1 w7.heap.size #[.bool false, .slice none 0 0] from Bk.below (Bk.new 35 w7 #[.bool false, .slice none 0 0]).drew hb)) | skip); (first | (have mN1a0 := N1a.out.c 0 (v := .bool false) rfl; have oN1a0 := N1a.out.fz 0; have mN1a1 := N1a.out.c 1 (v := .slice none 0 0) rfl; have oN1a1 := N1a.out.fz 1; have yN1a := N1a.out.lt; have yaN1a1 : ¬ w7.heap.size = p1.heap.size := (by omega); have ybN1a1 : ¬ p1.heap.size = w7.heap.size := (by omega); have ycN1a1 : ¬ w7.heap.size = p1.heap.size + 1 := (by omega); have ydN1a1 : ¬ p1.heap.size + 1 = w7.heap.size := (by omega)) | skip); have f0 : p1.cell? ⟨w.heap.size, 0, none⟩ = some (.bool na) := (X1.out.below BB1.out).c 0 rfl; have f1 : p1.cell? ⟨w.heap.size, 1, none⟩ = some (.slice A n c) := (X1.out.below BB1.out).c 1 rfl; have laX1 := (X1.out.below BB1.out).lt; have xa1X1 : ¬ p1.heap.size = w.heap.size := (by omega); have ya1X1 : ¬ w.heap.size = p1.heap.size := (by omega); have f2 : p1.cell? ⟨w.heap.size + 1, 0, none⟩ = some (.bool nb) := (X2.out.below BB1.out).c 0 rfl; have f3 : p1.cell? ⟨w.heap.size + 1, 1, none⟩ = some (.slice B m d) := (X2.out.below BB1.out).c 1 rfl; have laX2 := (X2.out.below BB1.out).lt; have xa1X2 : ¬ p1.heap.size = w.heap.size + 1 := (by omega); have ya1X2 : ¬ w.heap.size + 1 = p1.heap.size := (by omega); clear hb) | (go_at_call 74; (with_reducible refine (rnegative_any nb B m d ys _ (by first | exact S2.out.below BB1.out | exact (S2.out.below BB1.out).drew | exact (S2.out.below BB1.out).alloc _ | exact (S2.out.below BB1.out).drew.alloc _ | exact ((S2.out.below BB1.out).alloc _).drew)).mono ?_); rintro e p2 ⟨rfl, hb⟩; rw [HSB.out]; have BB2 := Lib.hid (show Below w7.heap.size w7 p2 from (by first | exact below_up BB1.out hb | exact below_up BB1.out.drew hb | exact below_up (BB1.out.alloc BB1.out.size _) hb | exact below_up (BB1.out.drew.alloc BB1.out.drew.size _) hb | exact below_up (BB1.out.alloc BB1.out.size _).drew hb)); (first | (have N1a := Lib.hid (N1a.out.below hb)) | (have N1a := Lib.hid (N1a.out.drew.below hb)) | (have N1a := Lib.hid ((N1a.out.alloc _).below hb)) | (have N1a := Lib.hid (((N1a.out.alloc _).drew).below hb)) | (have N1a := Lib.hid ((N1a.out.drew.alloc _).below hb)) | (have N1a := Lib.hid (((N1a.out.alloc _).alloc _).below hb)) | (have N1a := Lib.hid (((N1a.out.drew.alloc _).alloc _).below hb)) | skip); (first | (have N2a := Lib.hid (show Bk 35 p2 p1.heap.size #[.bool false, .slice none 0 0] from Bk.below (Bk.new 35 p1 #[.bool false, .slice none 0 0]) hb)) | (have N2a := Lib.hid (show Bk 35 p2 p1.heap.size #[.bool false, .slice none 0 0] from Bk.below (Bk.new 35 p1.drew #[.bool false, .slice none 0 0]) hb)) | (have N2a := Lib.hid (show Bk 35 p2 p1.heap.size #[.bool false, .slice none 0 0] from Bk.below (Bk.new 35 p1 #[.bool false, .slice none 0 0]).drew hb)) | skip); (first | (have mN1a0 := N1a.out.c 0 (v := .bool false) rfl; have oN1a0 := N1a.out.fz 0; have mN1a1 := N1a.out.c 1 (v := .slice none 0 0) rfl; have oN1a1 := N1a.out.fz 1; have yN1a := N1a.out.lt; have yaN1a2 : ¬ w7.heap.size = p2.heap.size := (by omega); have ybN1a2 : ¬ p2.heap.size = w7.heap.size := (by omega); have ycN1a2 : ¬ w7.heap.size = p2.heap.size + 1 := (by omega); have ydN1a2 : ¬ p2.heap.size + 1 = w7.heap.size := (by omega)) | skip); (first | (have mN2a0 := N2a.out.c 0 (v := .bool false) rfl; have oN2a0 := N2a.out.fz 0; have mN2a1 := N2a.out.c 1 (v := .slice none 0 0) rfl; have oN2a1 := N2a.out.fz 1; have yN2a := N2a.out.lt; have yaN2a2 : ¬ p1.heap.size = p2.heap.size := (by omega); have ybN2a2 : ¬ p2.heap.size = p1.heap.size := (by omega); have ycN2a2 : ¬ p1.heap.size = p2.heap.size + 1 := (by omega); have ydN2a2 : ¬ p2.heap.size + 1 = p1.heap.size := (by omega)) | skip); have f0 : p2.cell? ⟨w.heap.size, 0, none⟩ = some (.bool na) := (X1.out.below BB2.out).c 0 rfl; have f1 : p2.cell? ⟨w.heap.size, 1, none⟩ = some (.slice A n c) := (X1.out.below BB2.out).c 1 rfl; have laX1 := (X1.out.below BB2.out).lt; have xa2X1 : ¬ p2.heap.size = w.heap.size := (by omega); have ya2X1 : ¬ w.heap.size = p2.heap.size := (by omega); have f2 : p2.cell? ⟨w.heap.size + 1, 0, none⟩ = some (.bool nb) := (X2.out.below BB2.out).c 0 rfl; have f3 : p2.cell? ⟨w.heap.size + 1, 1, none⟩ = some (.slice B m d) := (X2.out.below BB2.out).c 1 rfl; have laX2 := (X2.out.below BB2.out).lt; have xa2X2 : ¬ p2.heap.size = w.heap.size + 1 := (by omega); have ya2X2 : ¬ w.heap.size + 1 = p2.heap.size := (by omega); clear hb) | (go_at_call 77; (with_reducible refine (number_any true P kp rp (digs (((zOf na xs).natAbs : Int) / ((zOf nb ys).natAbs : Int) + 1).toNat) (((zOf na xs).natAbs : Int) / ((zOf nb ys).natAbs : Int) + 1).toNat _ (by first | exact S10.out.below BB2.out | exact (S10.out.below BB2.out).drew | exact (S10.out.below BB2.out).alloc _ | exact (S10.out.below BB2.out).drew.alloc _ | exact ((S10.out.below BB2.out).alloc _).drew) (by have := LP.out; omega) (digs_ok _) (val_digs _)).mono ?_); rintro e p3 ⟨T7, k7, i7, rfl, hs, hb⟩; rw [FQ.out] at hs ⊢; have BB3 := Lib.hid (show Below w7.heap.size w7 p3 from (by first | exact below_up BB2.out hb | exact below_up BB2.out.drew hb | exact below_up (BB2.out.alloc BB2.out.size _) hb | exact below_up (BB2.out.drew.alloc BB2.out.drew.size _) hb | exact below_up (BB2.out.alloc BB2.out.size _).drew hb)); (first | (have N1a := Lib.hid (N1a.out.below hb)) | (have N1a := Lib.hid (N1a.out.drew.below hb)) | (have N1a := Lib.hid ((N1a.out.alloc _).below hb)) | (have N1a := Lib.hid (((N1a.out.alloc _).drew).below hb)) | (have N1a := Lib.hid ((N1a.out.drew.alloc _).below hb)) | (have N1a := Lib.hid (((N1a.out.alloc _).alloc _).below hb)) | (have N1a := Lib.hid (((N1a.out.drew.alloc _).alloc _).below hb)) | skip); (first | (have N2a := Lib.hid (N2a.out.below hb)) | (have N2a := Lib.hid (N2a.out.drew.below hb)) | (have N2a := Lib.hid ((N2a.out.alloc _).below hb)) | (have N2a := Lib.hid (((N2a.out.alloc _).drew).below hb)) | (have N2a := Lib.hid ((N2a.out.drew.alloc _).below hb)) | (have N2a := Lib.hid (((N2a.out.alloc _).alloc _).below hb)) | (have N2a := Lib.hid (((N2a.out.drew.alloc _).alloc _).below hb)) | skip); (first | (have N3a := Lib.hid (show Bk 35 p3 p2.heap.size #[.bool false, .slice none 0 0] from Bk.below (Bk.new 35 p2 #[.bool false, .slice none 0 0]) hb)) | (have N3a := Lib.hid (show Bk 35 p3 p2.heap.size #[.bool false, .slice none 0 0] from Bk.below (Bk.new 35 p2.drew #[.bool false, .slice none 0 0]) hb)) | (have N3a := Lib.hid (show Bk 35 p3 p2.heap.size #[.bool false, .slice none 0 0] from Bk.below (Bk.new 35 p2 #[.bool false, .slice none 0 0]).drew hb)) | skip); (first | (have mN1a0 := N1a.out.c 0 (v := .bool false) rfl; have oN1a0 := N1a.out.fz 0; have mN1a1 := N1a.out.c 1 (v := .slice none 0 0) rfl; have oN1a1 := N1a.out.fz 1; have yN1a := N1a.out.lt; have yaN1a3 : ¬ w7.heap.size = p3.heap.size := (by omega); have ybN1a3 : ¬ p3.heap.size = w7.heap.size := (by omega); have ycN1a3 : ¬ w7.heap.size = p3.heap.size + 1 := (by omega); have ydN1a3 : ¬ p3.heap.size + 1 = w7.heap.size := (by omega)) | skip); (first | (have mN2a0 := N2a.out.c 0 (v := .bool false) rfl; have oN2a0 := N2a.out.fz 0; have mN2a1 := N2a.out.c 1 (v := .slice none 0 0) rfl; have oN2a1 := N2a.out.fz 1; have yN2a := N2a.out.lt; have yaN2a3 : ¬ p1.heap.size = p3.heap.size := (by omega); have ybN2a3 : ¬ p3.heap.size = p1.heap.size := (by omega); have ycN2a3 : ¬ p1.heap.size = p3.heap.size + 1 := (by omega); have ydN2a3 : ¬ p3.heap.size + 1 = p1.heap.size := (by omega)) | skip); (first | (have mN3a0 := N3a.out.c 0 (v := .bool false) rfl; have oN3a0 := N3a.out.fz 0; have mN3a1 := N3a.out.c 1 (v := .slice none 0 0) rfl; have oN3a1 := N3a.out.fz 1; have yN3a := N3a.out.lt; have yaN3a3 : ¬ p2.heap.size = p3.heap.size := (by omega); have ybN3a3 : ¬ p3.heap.size = p2.heap.size := (by omega); have ycN3a3 : ¬ p2.heap.size = p3.heap.size + 1 := (by omega); have ydN3a3 : ¬ p3.heap.size + 1 = p2.heap.size := (by omega)) | skip); have S7 := Lib.hid hs; clear hs; have f0 : p3.cell? ⟨w.heap.size, 0, none⟩ = some (.bool na) := (X1.out.below BB3.out).c 0 rfl; have f1 : p3.cell? ⟨w.heap.size, 1, none⟩ = some (.slice A n c) := (X1.out.below BB3.out).c 1 rfl; have laX1 := (X1.out.below BB3.out).lt; have xa3X1 : ¬ p3.heap.size = w.heap.size := (by omega); have ya3X1 : ¬ w.heap.size = p3.heap.size := (by omega); have f2 : p3.cell? ⟨w.heap.size + 1, 0, none⟩ = some (.bool nb) := (X2.out.below BB3.out).c 0 rfl; have f3 : p3.cell? ⟨w.heap.size + 1, 1, none⟩ = some (.slice B m d) := (X2.out.below BB3.out).c 1 rfl; have laX2 := (X2.out.below BB3.out).lt; have xa3X2 : ¬ p3.heap.size = w.heap.size + 1 := (by omega); have ya3X2 : ¬ w.heap.size + 1 = p3.heap.size := (by omega); clear hb))
          all_goals (go_wp2_with fail; go_meet; (first | exact ⟨_, T7, k7, i7, rfl, (by first | exact Nat.le_refl _ | exact BB1.out.size | exact BB2.out.size | exact BB3.out.size), N1a.out.set2 _ _, S7.out.bk2 N1a.out _ _, below_set2 BB3.out (by first | exact Nat.le_refl _ | exact BB1.out.size | exact BB2.out.size | exact BB3.out.size) _ _⟩ | exact ⟨_, T7, k7, i7, rfl, (by first | exact Nat.le_refl _ | exact BB1.out.size | exact BB2.out.size | exact BB3.out.size), N2a.out.set2 _ _, S7.out.bk2 N2a.out _ _, below_set2 BB3.out (by first | exact Nat.le_refl _ | exact BB1.out.size | exact BB2.out.size | exact BB3.out.size) _ _⟩ | exact ⟨_, T7, k7, i7, rfl, (by first | exact Nat.le_refl _ | exact BB1.out.size | exact BB2.out.size | exact BB3.out.size), N3a.out.set2 _ _, S7.out.bk2 N3a.out _ _, below_set2 BB3.out (by first | exact Nat.le_refl _ | exact BB1.out.size | exact BB2.out.size | exact BB3.out.size) _ _⟩ | exact ⟨_, T7, k7, i7, rfl, (by first | exact Nat.le_refl _ | exact BB1.out.size | exact BB2.out.size | exact BB3.out.size), Bk.new _ _ _, S7.out.alloc _, BB3.out.alloc BB3.out.size _⟩))
        case rest =>
          obtain ⟨bp0, T7, k7, i7, rfl, hge, hx0, hs, hb⟩ := hcut
          have S1 := Lib.hid (S1.out.below hb)
          have S2 := Lib.hid (S2.out.below hb)
          have BW := Lib.hid (below_on BW.out hb)
          have X1 := Lib.hid (X1.out.below hb)
          have X2 := Lib.hid (X2.out.below hb)
          have X3 := Lib.hid (X3.out.below hb)
          have X4 := Lib.hid (X4.out.below hb)
          have S10 := Lib.hid (S10.out.below hb)
          have S11 := Lib.hid (S11.out.below hb)
          clear hb
          have Y1 := Lib.hid hx0
          clear hx0
          have S7 := Lib.hid hs
          clear hs
          have szw := BW.out.size
          generalize wc = W7 at *
          have e0 : W7.cell? ⟨w.heap.size + 1, 0, none⟩ = some (.bool nb) := X2.out.c 0 rfl
          have e1 : W7.cell? ⟨w.heap.size + 1, 1, none⟩ = some (.slice B m d) := X2.out.c 1 rfl
          go_wp2_with fail
          ((with_reducible refine (rnegative_any nb B m d ys _ S2.out).mono ?_); rintro e w8 ⟨rfl, hb⟩)
          rw [HSB.out]
          clear e0 e1
          have S1 := Lib.hid (S1.out.below hb)
          have S2 := Lib.hid (S2.out.below hb)
          have BW := Lib.hid (below_on BW.out hb)
          have X1 := Lib.hid (X1.out.below hb)
          have X2 := Lib.hid (X2.out.below hb)
          have X3 := Lib.hid (X3.out.below hb)
          have X4 := Lib.hid (X4.out.below hb)
          have S10 := Lib.hid (S10.out.below hb)
          have S11 := Lib.hid (S11.out.below hb)
          have Y1 := Lib.hid (Y1.out.below hb)
          have S7 := Lib.hid (S7.out.below hb)
          clear hb
          go_wp2_with fail
          ((with_reducible refine (number_any sb V kv rv (digs (((zOf nb ys).natAbs : Int) - ((zOf na xs).natAbs : Int) % ((zOf nb ys).natAbs : Int)).toNat) (((zOf nb ys).natAbs : Int) - ((zOf na xs).natAbs : Int) % ((zOf nb ys).natAbs : Int)).toNat _ S11.out (by have := LV.out; omega) (digs_ok _) (val_digs _)).mono ?_); rintro e w9 ⟨U, l, s, rfl, hs, hb⟩)
          rw [FR.out] at hs ⊢
          have S1 := Lib.hid (S1.out.below hb)
          have S2 := Lib.hid (S2.out.below hb)
          have BW := Lib.hid (below_on BW.out hb)
          have X1 := Lib.hid (X1.out.below hb)
          have X2 := Lib.hid (X2.out.below hb)
          have X3 := Lib.hid (X3.out.below hb)
          have X4 := Lib.hid (X4.out.below hb)
          have S10 := Lib.hid (S10.out.below hb)
          have S11 := Lib.hid (S11.out.below hb)
          have Y1 := Lib.hid (Y1.out.below hb)
          have S7 := Lib.hid (S7.out.below hb)
          clear hb
          have S8 := Lib.hid hs
          clear hs
          go_upto_region 9 with fail
          have ln1 := X1.out.lt
          have ln2 := X2.out.lt
          have ln3 := X3.out.lt
          have ln4 := X4.out.lt
          have ln5 := Y1.out.lt
          have S1 := Lib.hid (S1.out.alloc (.cells #[.bool (nOf (rZ (zOf na xs) (zOf nb ys))), .slice U l s] 35))
          have S2 := Lib.hid (S2.out.alloc (.cells #[.bool (nOf (rZ (zOf na xs) (zOf nb ys))), .slice U l s] 35))
          have BW := Lib.hid (BW.out.alloc BW.out.size (.cells #[.bool (nOf (rZ (zOf na xs) (zOf nb ys))), .slice U l s] 35))
          have X1 := Lib.hid (X1.out.alloc (.cells #[.bool (nOf (rZ (zOf na xs) (zOf nb ys))), .slice U l s] 35))
          have X2 := Lib.hid (X2.out.alloc (.cells #[.bool (nOf (rZ (zOf na xs) (zOf nb ys))), .slice U l s] 35))
          have X3 := Lib.hid (X3.out.alloc (.cells #[.bool (nOf (rZ (zOf na xs) (zOf nb ys))), .slice U l s] 35))
          have X4 := Lib.hid (X4.out.alloc (.cells #[.bool (nOf (rZ (zOf na xs) (zOf nb ys))), .slice U l s] 35))
          have S10 := Lib.hid (S10.out.alloc (.cells #[.bool (nOf (rZ (zOf na xs) (zOf nb ys))), .slice U l s] 35))
          have S11 := Lib.hid (S11.out.alloc (.cells #[.bool (nOf (rZ (zOf na xs) (zOf nb ys))), .slice U l s] 35))
          have Y1 := Lib.hid (Y1.out.alloc (.cells #[.bool (nOf (rZ (zOf na xs) (zOf nb ys))), .slice U l s] 35))
          have S7 := Lib.hid (S7.out.alloc (.cells #[.bool (nOf (rZ (zOf na xs) (zOf nb ys))), .slice U l s] 35))
          have S8 := Lib.hid (S8.out.alloc (.cells #[.bool (nOf (rZ (zOf na xs) (zOf nb ys))), .slice U l s] 35))
          have Y2 := Lib.hid (Bk.new 35 w9 #[.bool (nOf (rZ (zOf na xs) (zOf nb ys))), .slice U l s])
          generalize (w9.alloc (.cells #[.bool (nOf (rZ (zOf na xs) (zOf nb ys))), .slice U l s] 35)) = W9 at *
          have e0 : W9.cell? ⟨bp0, 0, none⟩ = some (.bool (nOf (qZ (zOf na xs) (zOf nb ys)))) := Y1.out.c 0 rfl
          have e1 : W9.cell? ⟨bp0, 1, none⟩ = some (.slice T7 k7 i7) := Y1.out.c 1 rfl
          have e2 : W9.cell? ⟨w9.heap.size, 0, none⟩ = some (.bool (nOf (rZ (zOf na xs) (zOf nb ys)))) := Y2.out.c 0 rfl
          have e3 : W9.cell? ⟨w9.heap.size, 1, none⟩ = some (.slice U l s) := Y2.out.c 1 rfl
          have e4 : W9.cell? ⟨w.heap.size + 1 + 1, 0, none⟩ = some (.bool false) := X3.out.c 0 rfl
          have e5 : W9.cell? ⟨w.heap.size + 1 + 1, 1, none⟩ = some (.slice none 0 0) := X3.out.c 1 rfl
          have e6 : W9.cell? ⟨w.heap.size + 1 + 1 + 1, 0, none⟩ = some (.bool false) := X4.out.c 0 rfl
          have e7 : W9.cell? ⟨w.heap.size + 1 + 1 + 1, 1, none⟩ = some (.slice none 0 0) := X4.out.c 1 rfl
          have z8 := X3.out.fz 0
          have z9 := X3.out.fz 1
          have z10 := X4.out.fz 0
          have z11 := X4.out.fz 1
          go_region
          all_goals
            go_wp2_with fail
            refine bodyPost_ret (v := .tuple #[.agg #[.bool (nOf (qZ (zOf na xs) (zOf nb ys))), .slice T7 k7 i7], .agg #[.bool (nOf (rZ (zOf na xs) (zOf nb ys))), .slice U l s], .bool true]) (by simp [results, Tryd.results34, go_sem, *]) rfl ⟨T7, k7, i7, U, l, s, by rw [NB.out], (by first | exact (S7.out.bk2 X3.out _ _).bk2 (X4.out.far2 (by omega) _ _) _ _ | exact (S7.out.bk2 X4.out _ _).bk2 (X3.out.far2 (by omega) _ _) _ _ | exact ((S7.out.bk2 X3.out _ _).bk2 (X4.out.far2 (by omega) _ _) _ _).drew | exact ((S7.out.bk2 X4.out _ _).bk2 (X3.out.far2 (by omega) _ _) _ _).drew), (by first | exact (S8.out.bk2 X3.out _ _).bk2 (X4.out.far2 (by omega) _ _) _ _ | exact (S8.out.bk2 X4.out _ _).bk2 (X3.out.far2 (by omega) _ _) _ _ | exact ((S8.out.bk2 X3.out _ _).bk2 (X4.out.far2 (by omega) _ _) _ _).drew | exact ((S8.out.bk2 X4.out _ _).bk2 (X3.out.far2 (by omega) _ _) _ _).drew), (by first | exact below_set2 (below_set2 BW.out (by omega) _ _) (by omega) _ _ | exact (below_set2 (below_set2 BW.out (by omega) _ _) (by omega) _ _).drew | exact below_set2 (below_set2 BW.out.drew (by omega) _ _) (by omega) _ _)⟩
    · have hgb : (sa == sb) = true := by simpa using hg
      have HD := Lib.hid (div_same (a := zOf na xs) (b := zOf nb ys) H0.out (.inl (by rw [HSA.out, HSB.out]; exact hg)))
      rw [HSA.out, HSB.out, hg] at HD
      have HQ := Lib.hid HD.out.1
      have HR := Lib.hid HD.out.2
      clear HD
      have e0 : a3.cell? ⟨w.heap.size, 0, none⟩ = some (.bool na) := X1.out.c 0 rfl
      have e1 : a3.cell? ⟨w.heap.size, 1, none⟩ = some (.slice A n c) := X1.out.c 1 rfl
      have e2 : a3.cell? ⟨w.heap.size + 1, 0, none⟩ = some (.bool nb) := X2.out.c 0 rfl
      have e3 : a3.cell? ⟨w.heap.size + 1, 1, none⟩ = some (.slice B m d) := X2.out.c 1 rfl
      refine wp_region_held_drew (S := fun w' => w'.cell? ⟨w.heap.size, 0, none⟩ = some (.bool na) ∧ w'.cell? ⟨w.heap.size, 1, none⟩ = some (.slice A n c) ∧ w'.cell? ⟨w.heap.size + 1, 0, none⟩ = some (.bool nb) ∧ w'.cell? ⟨w.heap.size + 1, 1, none⟩ = some (.slice B m d)) (by kernel_rfl) ?_ (fun hHeld => ?_)
      · (try dsimp only)
        go_keep
      refine wpAnyH_take (i := 0) (oi := { dst := some 27, op := Go.Op.load 35 (Go.Operand.tmp 2), type := 35, pos := "ref.go:221", after := #[], guard := none }) (v := .agg #[.bool na, .slice A n c]) rfl (by kernel_rfl) (by kernel_rfl) (by kernel_rfl) (fun _ _ _ h => h) (Or.inl ⟨by rfl, ?_⟩) (by assumption) ?_
      · intro w' hSw
        (try dsimp only at hSw)
        go_simp
        try (first | rfl | decide)
      simp only [Act.put, List.setIfInBounds_toArray, List.set_cons_zero, List.set_cons_succ]
      refine wpAnyH_take (i := 2) (oi := { dst := some 29, op := Go.Op.load 35 (Go.Operand.tmp 3), type := 35, pos := "ref.go:221", after := #[], guard := none }) (v := .agg #[.bool nb, .slice B m d]) rfl (by kernel_rfl) (by kernel_rfl) (by kernel_rfl) (fun _ _ _ h => h) (Or.inl ⟨by rfl, ?_⟩) (by assumption) ?_
      · intro w' hSw
        (try dsimp only at hSw)
        go_simp
        try (first | rfl | decide)
      simp only [Act.put, List.setIfInBounds_toArray, List.set_cons_zero, List.set_cons_succ]
      refine wpAnyH_ready (rs := [1]) (by kernel_rfl) (by simp) ?_
      refine AllReadyH.cons (o := { dst := some 28, op := Go.Op.call { callee := Go.Callee.value (Go.Operand.func 74), args := #[Go.Operand.tmp 27], argTypes := #[35] }, type := 4, pos := "ref.go:221", after := #[{ on := 0, ground := Go.Ground.data }], guard := none }) rfl (fun K hK => ?_) AllReadyH.nil
      go_simp
      ((with_reducible refine (rnegative_any na A n c xs _ (by first | exact S1.out | exact S1.out.drew)).mono ?_); rintro e b1 ⟨rfl, hb⟩)
      rw [HSA.out]
      have BB1 := Lib.hid (show Below a3.heap.size a3 b1 from (by first | exact hb | exact (Below.refl _ _).drew.trans (hb.mono (Nat.le_refl _))))
      have f0 : b1.cell? ⟨w.heap.size, 0, none⟩ = some (.bool na) := (X1.out.below BB1.out).c 0 rfl
      have f1 : b1.cell? ⟨w.heap.size, 1, none⟩ = some (.slice A n c) := (X1.out.below BB1.out).c 1 rfl
      have f2 : b1.cell? ⟨w.heap.size + 1, 0, none⟩ = some (.bool nb) := (X2.out.below BB1.out).c 0 rfl
      have f3 : b1.cell? ⟨w.heap.size + 1, 1, none⟩ = some (.slice B m d) := (X2.out.below BB1.out).c 1 rfl
      clear hb
      go_wp2_with fail
      refine hK.out _ _ ?_ (fun hHeld => ?_)
      · (try dsimp only)
        go_keep
      clear hK K
      try simp only [Act.put, List.setIfInBounds_toArray, List.set_cons_zero, List.set_cons_succ]
      refine wpAnyH_ready (rs := [3]) (by kernel_rfl) (by simp) ?_
      refine AllReadyH.cons (o := { dst := some 30, op := Go.Op.call { callee := Go.Callee.value (Go.Operand.func 74), args := #[Go.Operand.tmp 29], argTypes := #[35] }, type := 4, pos := "ref.go:221", after := #[{ on := 2, ground := Go.Ground.data }, { on := 1, ground := Go.Ground.chain }], guard := none }) rfl (fun K hK => ?_) AllReadyH.nil
      go_simp
      ((with_reducible refine (rnegative_any nb B m d ys _ (S2.out.below BB1.out)).mono ?_); rintro e b2 ⟨rfl, hb⟩)
      rw [HSB.out]
      have BB2 := Lib.hid (below_up BB1.out hb)
      have f0 : b2.cell? ⟨w.heap.size, 0, none⟩ = some (.bool na) := (X1.out.below BB2.out).c 0 rfl
      have f1 : b2.cell? ⟨w.heap.size, 1, none⟩ = some (.slice A n c) := (X1.out.below BB2.out).c 1 rfl
      have f2 : b2.cell? ⟨w.heap.size + 1, 0, none⟩ = some (.bool nb) := (X2.out.below BB2.out).c 0 rfl
      have f3 : b2.cell? ⟨w.heap.size + 1, 1, none⟩ = some (.slice B m d) := (X2.out.below BB2.out).c 1 rfl
      clear hb
      go_wp2_with fail
      refine hK.out _ _ ?_ (fun hHeld => ?_)
      · (try dsimp only)
        go_keep
      clear hK K
      try simp only [Act.put, List.setIfInBounds_toArray, List.set_cons_zero, List.set_cons_succ]
      refine wpAnyH_take (i := 4) (oi := { dst := some 31, op := Go.Op.binOp Go.BinOp.neq 4 (Go.Operand.tmp 28) (Go.Operand.tmp 30) 4, type := 4, pos := "ref.go:221", after := #[{ on := 1, ground := Go.Ground.data }, { on := 3, ground := Go.Ground.data }], guard := none }) (v := .bool false) rfl (by kernel_rfl) (by kernel_rfl) (by kernel_rfl) (fun _ _ _ h => h) (Or.inl ⟨by rfl, ?_⟩) (by assumption) ?_
      · intro w' hSw
        (try dsimp only at hSw)
        go_simp
        try (first | rfl | decide)
      simp only [Act.put, List.setIfInBounds_toArray, List.set_cons_zero, List.set_cons_succ]
      refine wpAnyH_take (i := 5) (oi := { dst := some 32, op := Go.Op.move (Go.Operand.tmp 31), type := 4, pos := "ref.go:221", after := #[{ on := 4, ground := Go.Ground.data }, { on := 3, ground := Go.Ground.chain }], guard := none }) (v := .bool false) rfl (by kernel_rfl) (by kernel_rfl) (by kernel_rfl) (fun _ _ _ h => h) (Or.inl ⟨by rfl, ?_⟩) (by assumption) ?_
      · intro w' hSw
        (try dsimp only at hSw)
        go_simp
        try (first | rfl | decide)
      simp only [Act.put, List.setIfInBounds_toArray, List.set_cons_zero, List.set_cons_succ]
      refine wpAnyH_take (i := 6) (oi := { dst := some 33, op := Go.Op.move (Go.Operand.tmp 8), type := 33, pos := "ref.go:221", after := #[{ on := 5, ground := Go.Ground.guard }], guard := some (5, true) }) (v := undef) rfl (by kernel_rfl) (by kernel_rfl) (by kernel_rfl) (fun _ _ _ h => h) (Or.inr ⟨by rfl, rfl⟩) (by assumption) ?_
      simp only [Act.put, List.setIfInBounds_toArray, List.set_cons_zero, List.set_cons_succ]
      refine wpAnyH_take (i := 7) (oi := { dst := some 34, op := Go.Op.call { callee := Go.Callee.builtin Go.Builtin.len, args := #[Go.Operand.tmp 33], argTypes := #[33] }, type := 3, pos := "ref.go:221", after := #[{ on := 6, ground := Go.Ground.data }, { on := 5, ground := Go.Ground.guard }], guard := some (5, true) }) (v := undef) rfl (by kernel_rfl) (by kernel_rfl) (by kernel_rfl) (fun _ _ _ h => h) (Or.inr ⟨by rfl, rfl⟩) (by assumption) ?_
      simp only [Act.put, List.setIfInBounds_toArray, List.set_cons_zero, List.set_cons_succ]
      refine wpAnyH_take (i := 8) (oi := { dst := some 35, op := Go.Op.binOp Go.BinOp.gtr 3 (Go.Operand.tmp 34) (Go.Operand.const (Go.Value.int Go.IntKind.i64 0)) 3, type := 4, pos := "ref.go:221", after := #[{ on := 7, ground := Go.Ground.data }, { on := 5, ground := Go.Ground.guard }], guard := some (5, true) }) (v := undef) rfl (by kernel_rfl) (by kernel_rfl) (by kernel_rfl) (fun _ _ _ h => h) (Or.inr ⟨by rfl, rfl⟩) (by assumption) ?_
      simp only [Act.put, List.setIfInBounds_toArray, List.set_cons_zero, List.set_cons_succ]
      refine wpAnyH_take (i := 9) (oi := { dst := some 36, op := Go.Op.pick (Go.Operand.tmp 32) (Go.Operand.tmp 35) (Go.Operand.const (Go.Value.bool false)), type := 4, pos := "ref.go:221", after := #[{ on := 5, ground := Go.Ground.data }, { on := 8, ground := Go.Ground.data }], guard := none }) (v := .bool false) rfl (by kernel_rfl) (by kernel_rfl) (by kernel_rfl) (fun _ _ _ h => h) (Or.inl ⟨by rfl, ?_⟩) (by assumption) ?_
      · intro w' hSw
        (try dsimp only at hSw)
        go_simp
        try (first | rfl | decide)
      simp only [Act.put, List.setIfInBounds_toArray, List.set_cons_zero, List.set_cons_succ]
      refine wpAnyH_done (by kernel_rfl) ?_ _
      clear e0 e1 e2 e3
      try clear f0 f1 f2 f3
      have S1 := Lib.hid (S1.out.below BB2.out)
      have S2 := Lib.hid (S2.out.below BB2.out)
      have BW := Lib.hid (below_on BW.out BB2.out)
      have X1 := Lib.hid (X1.out.below BB2.out)
      have X2 := Lib.hid (X2.out.below BB2.out)
      have X3 := Lib.hid (X3.out.below BB2.out)
      have X4 := Lib.hid (X4.out.below BB2.out)
      have S4 := Lib.hid (S4.out.below BB2.out)
      have S5 := Lib.hid (S5.out.below BB2.out)
      have S6 := Lib.hid (S6.out.below BB2.out)
      have FQ : Hid (fitZ (sgn false ((((zOf na xs).natAbs : Int) / ((zOf nb ys).natAbs : Int)).toNat : Nat)) = qZ (zOf na xs) (zOf nb ys)) := by show fitZ _ = _; rw [HQ.out]; exact fitZ_of (fit_q2 H0.out FA.out)
      have FR : Hid (fitZ (sgn sb ((((zOf na xs).natAbs : Int) % ((zOf nb ys).natAbs : Int)).toNat : Nat)) = rZ (zOf na xs) (zOf nb ys)) := by show fitZ _ = _; rw [HR.out]; exact fitZ_of (fit_r2 H0.out FB.out)
      go_upto_region 7 with fail
      go_cut [9] (fun vp0 wx => ∃ (bp0 : Nat) (T7 : Option Addr) (k7 i7 : Nat), vp0 = .pointer (some ⟨bp0, 0, none⟩) ∧ b2.heap.size ≤ bp0 ∧ Bk 35 wx bp0 #[.bool (nOf (qZ (zOf na xs) (zOf nb ys))), .slice T7 k7 i7] ∧ Sl wx T7 k7 i7 (lOf (qZ (zOf na xs) (zOf nb ys))) ∧ Below b2.heap.size b2 wx)
      case first =>
        have e0 : b2.cell? ⟨w.heap.size, 0, none⟩ = some (.bool na) := X1.out.c 0 rfl
        have e1 : b2.cell? ⟨w.heap.size, 1, none⟩ = some (.slice A n c) := X1.out.c 1 rfl
        have e2 : b2.cell? ⟨w.heap.size + 1, 0, none⟩ = some (.bool nb) := X2.out.c 0 rfl
        have e3 : b2.cell? ⟨w.heap.size + 1, 1, none⟩ = some (.slice B m d) := X2.out.c 1 rfl
        have laX1 := X1.out.lt
        have xa0X1 : ¬ b2.heap.size = w.heap.size := by omega
        have ya0X1 : ¬ w.heap.size = b2.heap.size := by omega
        have laX2 := X2.out.lt
        have xa0X2 : ¬ b2.heap.size = w.heap.size + 1 := by omega
        have ya0X2 : ¬ w.heap.size + 1 = b2.heap.size := by omega
        have BB0 := Lib.hid (Below.refl b2.heap.size b2)
        go_region_held3 (fun w' => w'.cell? ⟨w.heap.size, 0, none⟩ = some (.bool na) ∧ w'.cell? ⟨w.heap.size, 1, none⟩ = some (.slice A n c) ∧ w'.cell? ⟨w.heap.size + 1, 0, none⟩ = some (.bool nb) ∧ w'.cell? ⟨w.heap.size + 1, 1, none⟩ = some (.slice B m d)) (go_keep)
          (first | (go_at_call 74; (with_reducible refine (rnegative_any na A n c xs _ (by first | exact S1.out.below BB0.out | exact (S1.out.below BB0.out).drew | exact (S1.out.below BB0.out).alloc _ | exact (S1.out.below BB0.out).drew.alloc _ | exact ((S1.out.below BB0.out).alloc _).drew)).mono ?_); rintro e p1 ⟨rfl, hb⟩; rw [HSA.out]; have BB1 := Lib.hid (show Below b2.heap.size b2 p1 from (by first | exact below_up BB0.out hb | exact below_up BB0.out.drew hb | exact below_up (BB0.out.alloc BB0.out.size _) hb | exact below_up (BB0.out.drew.alloc BB0.out.drew.size _) hb | exact below_up (BB0.out.alloc BB0.out.size _).drew hb)); (first | (have N1a := Lib.hid (show Bk 35 p1 b2.heap.size #[.bool false, .slice none 0 0] from Bk.below (Bk.new 35 b2 #[.bool false, .slice none 0 0]) hb)) | (have N1a := Lib.hid (show Bk 35 p1 b2.heap.size #[.bool false, .slice none 0 0] from Bk.below (Bk.new 35 b2.drew #[.bool false, .slice none 0 0]) hb)) | (have N1a := Lib.hid (show Bk 35 p1 b2.heap.size #[.bool false, .slice none 0 0] from Bk.below (Bk.new 35 b2 #[.bool false, .slice none 0 0]).drew hb)) | skip); (first | (have mN1a0 := N1a.out.c 0 (v := .bool false) rfl; have oN1a0 := N1a.out.fz 0; have mN1a1 := N1a.out.c 1 (v := .slice none 0 0) rfl; have oN1a1 := N1a.out.fz 1; have yN1a := N1a.out.lt; have yaN1a1 : ¬ b2.heap.size = p1.heap.size := (by omega); have ybN1a1 : ¬ p1.heap.size = b2.heap.size := (by omega); have ycN1a1 : ¬ b2.heap.size = p1.heap.size + 1 := (by omega); have ydN1a1 : ¬ p1.heap.size + 1 = b2.heap.size := (by omega)) | skip); have f0 : p1.cell? ⟨w.heap.size, 0, none⟩ = some (.bool na) := (X1.out.below BB1.out).c 0 rfl; have f1 : p1.cell? ⟨w.heap.size, 1, none⟩ = some (.slice A n c) := (X1.out.below BB1.out).c 1 rfl; have laX1 := (X1.out.below BB1.out).lt; have xa1X1 : ¬ p1.heap.size = w.heap.size := (by omega); have ya1X1 : ¬ w.heap.size = p1.heap.size := (by omega); have f2 : p1.cell? ⟨w.heap.size + 1, 0, none⟩ = some (.bool nb) := (X2.out.below BB1.out).c 0 rfl; have f3 : p1.cell? ⟨w.heap.size + 1, 1, none⟩ = some (.slice B m d) := (X2.out.below BB1.out).c 1 rfl; have laX2 := (X2.out.below BB1.out).lt; have xa1X2 : ¬ p1.heap.size = w.heap.size + 1 := (by omega); have ya1X2 : ¬ w.heap.size + 1 = p1.heap.size := (by omega); clear hb) | (go_at_call 74; (with_reducible refine (rnegative_any nb B m d ys _ (by first | exact S2.out.below BB1.out | exact (S2.out.below BB1.out).drew | exact (S2.out.below BB1.out).alloc _ | exact (S2.out.below BB1.out).drew.alloc _ | exact ((S2.out.below BB1.out).alloc _).drew)).mono ?_); rintro e p2 ⟨rfl, hb⟩; rw [HSB.out]; have BB2 := Lib.hid (show Below b2.heap.size b2 p2 from (by first | exact below_up BB1.out hb | exact below_up BB1.out.drew hb | exact below_up (BB1.out.alloc BB1.out.size _) hb | exact below_up (BB1.out.drew.alloc BB1.out.drew.size _) hb | exact below_up (BB1.out.alloc BB1.out.size _).drew hb)); (first | (have N1a := Lib.hid (N1a.out.below hb)) | (have N1a := Lib.hid (N1a.out.drew.below hb)) | (have N1a := Lib.hid ((N1a.out.alloc _).below hb)) | (have N1a := Lib.hid (((N1a.out.alloc _).drew).below hb)) | (have N1a := Lib.hid ((N1a.out.drew.alloc _).below hb)) | (have N1a := Lib.hid (((N1a.out.alloc _).alloc _).below hb)) | (have N1a := Lib.hid (((N1a.out.drew.alloc _).alloc _).below hb)) | skip); (first | (have N2a := Lib.hid (show Bk 35 p2 p1.heap.size #[.bool false, .slice none 0 0] from Bk.below (Bk.new 35 p1 #[.bool false, .slice none 0 0]) hb)) | (have N2a := Lib.hid (show Bk 35 p2 p1.heap.size #[.bool false, .slice none 0 0] from Bk.below (Bk.new 35 p1.drew #[.bool false, .slice none 0 0]) hb)) | (have N2a := Lib.hid (show Bk 35 p2 p1.heap.size #[.bool false, .slice none 0 0] from Bk.below (Bk.new 35 p1 #[.bool false, .slice none 0 0]).drew hb)) | skip); (first | (have mN1a0 := N1a.out.c 0 (v := .bool false) rfl; have oN1a0 := N1a.out.fz 0; have mN1a1 := N1a.out.c 1 (v := .slice none 0 0) rfl; have oN1a1 := N1a.out.fz 1; have yN1a := N1a.out.lt; have yaN1a2 : ¬ b2.heap.size = p2.heap.size := (by omega); have ybN1a2 : ¬ p2.heap.size = b2.heap.size := (by omega); have ycN1a2 : ¬ b2.heap.size = p2.heap.size + 1 := (by omega); have ydN1a2 : ¬ p2.heap.size + 1 = b2.heap.size := (by omega)) | skip); (first | (have mN2a0 := N2a.out.c 0 (v := .bool false) rfl; have oN2a0 := N2a.out.fz 0; have mN2a1 := N2a.out.c 1 (v := .slice none 0 0) rfl; have oN2a1 := N2a.out.fz 1; have yN2a := N2a.out.lt; have yaN2a2 : ¬ p1.heap.size = p2.heap.size := (by omega); have ybN2a2 : ¬ p2.heap.size = p1.heap.size := (by omega); have ycN2a2 : ¬ p1.heap.size = p2.heap.size + 1 := (by omega); have ydN2a2 : ¬ p2.heap.size + 1 = p1.heap.size := (by omega)) | skip); have f0 : p2.cell? ⟨w.heap.size, 0, none⟩ = some (.bool na) := (X1.out.below BB2.out).c 0 rfl; have f1 : p2.cell? ⟨w.heap.size, 1, none⟩ = some (.slice A n c) := (X1.out.below BB2.out).c 1 rfl; have laX1 := (X1.out.below BB2.out).lt; have xa2X1 : ¬ p2.heap.size = w.heap.size := (by omega); have ya2X1 : ¬ w.heap.size = p2.heap.size := (by omega); have f2 : p2.cell? ⟨w.heap.size + 1, 0, none⟩ = some (.bool nb) := (X2.out.below BB2.out).c 0 rfl; have f3 : p2.cell? ⟨w.heap.size + 1, 1, none⟩ = some (.slice B m d) := (X2.out.below BB2.out).c 1 rfl; have laX2 := (X2.out.below BB2.out).lt; have xa2X2 : ¬ p2.heap.size = w.heap.size + 1 := (by omega); have ya2X2 : ¬ w.heap.size + 1 = p2.heap.size := (by omega); clear hb) | (go_at_call 77; (with_reducible refine (number_any false Q kq rq (digs (((zOf na xs).natAbs : Int) / ((zOf nb ys).natAbs : Int)).toNat) (((zOf na xs).natAbs : Int) / ((zOf nb ys).natAbs : Int)).toNat _ (by first | exact S5.out.below BB2.out | exact (S5.out.below BB2.out).drew | exact (S5.out.below BB2.out).alloc _ | exact (S5.out.below BB2.out).drew.alloc _ | exact ((S5.out.below BB2.out).alloc _).drew) (by have := LQ.out; omega) (digs_ok _) (val_digs _)).mono ?_); rintro e p3 ⟨T7, k7, i7, rfl, hs, hb⟩; rw [FQ.out] at hs ⊢; have BB3 := Lib.hid (show Below b2.heap.size b2 p3 from (by first | exact below_up BB2.out hb | exact below_up BB2.out.drew hb | exact below_up (BB2.out.alloc BB2.out.size _) hb | exact below_up (BB2.out.drew.alloc BB2.out.drew.size _) hb | exact below_up (BB2.out.alloc BB2.out.size _).drew hb)); (first | (have N1a := Lib.hid (N1a.out.below hb)) | (have N1a := Lib.hid (N1a.out.drew.below hb)) | (have N1a := Lib.hid ((N1a.out.alloc _).below hb)) | (have N1a := Lib.hid (((N1a.out.alloc _).drew).below hb)) | (have N1a := Lib.hid ((N1a.out.drew.alloc _).below hb)) | (have N1a := Lib.hid (((N1a.out.alloc _).alloc _).below hb)) | (have N1a := Lib.hid (((N1a.out.drew.alloc _).alloc _).below hb)) | skip); (first | (have N2a := Lib.hid (N2a.out.below hb)) | (have N2a := Lib.hid (N2a.out.drew.below hb)) | (have N2a := Lib.hid ((N2a.out.alloc _).below hb)) | (have N2a := Lib.hid (((N2a.out.alloc _).drew).below hb)) | (have N2a := Lib.hid ((N2a.out.drew.alloc _).below hb)) | (have N2a := Lib.hid (((N2a.out.alloc _).alloc _).below hb)) | (have N2a := Lib.hid (((N2a.out.drew.alloc _).alloc _).below hb)) | skip); (first | (have N3a := Lib.hid (show Bk 35 p3 p2.heap.size #[.bool false, .slice none 0 0] from Bk.below (Bk.new 35 p2 #[.bool false, .slice none 0 0]) hb)) | (have N3a := Lib.hid (show Bk 35 p3 p2.heap.size #[.bool false, .slice none 0 0] from Bk.below (Bk.new 35 p2.drew #[.bool false, .slice none 0 0]) hb)) | (have N3a := Lib.hid (show Bk 35 p3 p2.heap.size #[.bool false, .slice none 0 0] from Bk.below (Bk.new 35 p2 #[.bool false, .slice none 0 0]).drew hb)) | skip); (first | (have mN1a0 := N1a.out.c 0 (v := .bool false) rfl; have oN1a0 := N1a.out.fz 0; have mN1a1 := N1a.out.c 1 (v := .slice none 0 0) rfl; have oN1a1 := N1a.out.fz 1; have yN1a := N1a.out.lt; have yaN1a3 : ¬ b2.heap.size = p3.heap.size := (by omega); have ybN1a3 : ¬ p3.heap.size = b2.heap.size := (by omega); have ycN1a3 : ¬ b2.heap.size = p3.heap.size + 1 := (by omega); have ydN1a3 : ¬ p3.heap.size + 1 = b2.heap.size := (by omega)) | skip); (first | (have mN2a0 := N2a.out.c 0 (v := .bool false) rfl; have oN2a0 := N2a.out.fz 0; have mN2a1 := N2a.out.c 1 (v := .slice none 0 0) rfl; have oN2a1 := N2a.out.fz 1; have yN2a := N2a.out.lt; have yaN2a3 : ¬ p1.heap.size = p3.heap.size := (by omega); have ybN2a3 : ¬ p3.heap.size = p1.heap.size := (by omega); have ycN2a3 : ¬ p1.heap.size = p3.heap.size + 1 := (by omega); have ydN2a3 : ¬ p3.heap.size + 1 = p1.heap.size := (by omega)) | skip); (first | (have mN3a0 := N3a.out.c 0 (v := .bool false) rfl; have oN3a0 := N3a.out.fz 0; have mN3a1 := N3a.out.c 1 (v := .slice none 0 0) rfl; have oN3a1 := N3a.out.fz 1; have yN3a := N3a.out.lt; have yaN3a3 : ¬ p2.heap.size = p3.heap.size := (by omega); have ybN3a3 : ¬ p3.heap.size = p2.heap.size := (by omega); have ycN3a3 : ¬ p2.heap.size = p3.heap.size + 1 := (by omega); have ydN3a3 : ¬ p3.heap.size + 1 = p2.heap.size := (by omega)) | skip); have S7 := Lib.hid hs; clear hs; have f0 : p3.cell? ⟨w.heap.size, 0, none⟩ = some (.bool na) := (X1.out.below BB3.out).c 0 rfl; have f1 : p3.cell? ⟨w.heap.size, 1, none⟩ = some (.slice A n c) := (X1.out.below BB3.out).c 1 rfl; have laX1 := (X1.out.below BB3.out).lt; have xa3X1 : ¬ p3.heap.size = w.heap.size := (by omega); have ya3X1 : ¬ w.heap.size = p3.heap.size := (by omega); have f2 : p3.cell? ⟨w.heap.size + 1, 0, none⟩ = some (.bool nb) := (X2.out.below BB3.out).c 0 rfl; have f3 : p3.cell? ⟨w.heap.size + 1, 1, none⟩ = some (.slice B m d) := (X2.out.below BB3.out).c 1 rfl; have laX2 := (X2.out.below BB3.out).lt; have xa3X2 : ¬ p3.heap.size = w.heap.size + 1 := (by omega); have ya3X2 : ¬ w.heap.size + 1 = p3.heap.size := (by omega); clear hb))
        all_goals (go_wp2_with fail; go_meet; (first | exact ⟨_, T7, k7, i7, rfl, (by first | exact Nat.le_refl _ | exact BB1.out.size | exact BB2.out.size | exact BB3.out.size), N1a.out.set2 _ _, S7.out.bk2 N1a.out _ _, below_set2 BB3.out (by first | exact Nat.le_refl _ | exact BB1.out.size | exact BB2.out.size | exact BB3.out.size) _ _⟩ | exact ⟨_, T7, k7, i7, rfl, (by first | exact Nat.le_refl _ | exact BB1.out.size | exact BB2.out.size | exact BB3.out.size), N2a.out.set2 _ _, S7.out.bk2 N2a.out _ _, below_set2 BB3.out (by first | exact Nat.le_refl _ | exact BB1.out.size | exact BB2.out.size | exact BB3.out.size) _ _⟩ | exact ⟨_, T7, k7, i7, rfl, (by first | exact Nat.le_refl _ | exact BB1.out.size | exact BB2.out.size | exact BB3.out.size), N3a.out.set2 _ _, S7.out.bk2 N3a.out _ _, below_set2 BB3.out (by first | exact Nat.le_refl _ | exact BB1.out.size | exact BB2.out.size | exact BB3.out.size) _ _⟩ | exact ⟨_, T7, k7, i7, rfl, (by first | exact Nat.le_refl _ | exact BB1.out.size | exact BB2.out.size | exact BB3.out.size), Bk.new _ _ _, S7.out.alloc _, BB3.out.alloc BB3.out.size _⟩))
      case rest =>
        obtain ⟨bp0, T7, k7, i7, rfl, hge, hx0, hs, hb⟩ := hcut
        have S1 := Lib.hid (S1.out.below hb)
        have S2 := Lib.hid (S2.out.below hb)
        have BW := Lib.hid (below_on BW.out hb)
        have X1 := Lib.hid (X1.out.below hb)
        have X2 := Lib.hid (X2.out.below hb)
        have X3 := Lib.hid (X3.out.below hb)
        have X4 := Lib.hid (X4.out.below hb)
        have S4 := Lib.hid (S4.out.below hb)
        have S5 := Lib.hid (S5.out.below hb)
        have S6 := Lib.hid (S6.out.below hb)
        clear hb
        have Y1 := Lib.hid hx0
        clear hx0
        have S7 := Lib.hid hs
        clear hs
        have szw := BW.out.size
        generalize wc = W7 at *
        have e0 : W7.cell? ⟨w.heap.size + 1, 0, none⟩ = some (.bool nb) := X2.out.c 0 rfl
        have e1 : W7.cell? ⟨w.heap.size + 1, 1, none⟩ = some (.slice B m d) := X2.out.c 1 rfl
        go_wp2_with fail
        ((with_reducible refine (rnegative_any nb B m d ys _ S2.out).mono ?_); rintro e w8 ⟨rfl, hb⟩)
        rw [HSB.out]
        clear e0 e1
        have S1 := Lib.hid (S1.out.below hb)
        have S2 := Lib.hid (S2.out.below hb)
        have BW := Lib.hid (below_on BW.out hb)
        have X1 := Lib.hid (X1.out.below hb)
        have X2 := Lib.hid (X2.out.below hb)
        have X3 := Lib.hid (X3.out.below hb)
        have X4 := Lib.hid (X4.out.below hb)
        have S4 := Lib.hid (S4.out.below hb)
        have S5 := Lib.hid (S5.out.below hb)
        have S6 := Lib.hid (S6.out.below hb)
        have Y1 := Lib.hid (Y1.out.below hb)
        have S7 := Lib.hid (S7.out.below hb)
        clear hb
        go_wp2_with fail
        ((with_reducible refine (number_any sb R kr rr (digs (((zOf na xs).natAbs : Int) % ((zOf nb ys).natAbs : Int)).toNat) (((zOf na xs).natAbs : Int) % ((zOf nb ys).natAbs : Int)).toNat _ S6.out (by have := LR.out; omega) (digs_ok _) (val_digs _)).mono ?_); rintro e w9 ⟨U, l, s, rfl, hs, hb⟩)
        rw [FR.out] at hs ⊢
        have S1 := Lib.hid (S1.out.below hb)
        have S2 := Lib.hid (S2.out.below hb)
        have BW := Lib.hid (below_on BW.out hb)
        have X1 := Lib.hid (X1.out.below hb)
        have X2 := Lib.hid (X2.out.below hb)
        have X3 := Lib.hid (X3.out.below hb)
        have X4 := Lib.hid (X4.out.below hb)
        have S4 := Lib.hid (S4.out.below hb)
        have S5 := Lib.hid (S5.out.below hb)
        have S6 := Lib.hid (S6.out.below hb)
        have Y1 := Lib.hid (Y1.out.below hb)
        have S7 := Lib.hid (S7.out.below hb)
        clear hb
        have S8 := Lib.hid hs
        clear hs
        go_upto_region 9 with fail
        have ln1 := X1.out.lt
        have ln2 := X2.out.lt
        have ln3 := X3.out.lt
        have ln4 := X4.out.lt
        have ln5 := Y1.out.lt
        have S1 := Lib.hid (S1.out.alloc (.cells #[.bool (nOf (rZ (zOf na xs) (zOf nb ys))), .slice U l s] 35))
        have S2 := Lib.hid (S2.out.alloc (.cells #[.bool (nOf (rZ (zOf na xs) (zOf nb ys))), .slice U l s] 35))
        have BW := Lib.hid (BW.out.alloc BW.out.size (.cells #[.bool (nOf (rZ (zOf na xs) (zOf nb ys))), .slice U l s] 35))
        have X1 := Lib.hid (X1.out.alloc (.cells #[.bool (nOf (rZ (zOf na xs) (zOf nb ys))), .slice U l s] 35))
        have X2 := Lib.hid (X2.out.alloc (.cells #[.bool (nOf (rZ (zOf na xs) (zOf nb ys))), .slice U l s] 35))
        have X3 := Lib.hid (X3.out.alloc (.cells #[.bool (nOf (rZ (zOf na xs) (zOf nb ys))), .slice U l s] 35))
        have X4 := Lib.hid (X4.out.alloc (.cells #[.bool (nOf (rZ (zOf na xs) (zOf nb ys))), .slice U l s] 35))
        have S4 := Lib.hid (S4.out.alloc (.cells #[.bool (nOf (rZ (zOf na xs) (zOf nb ys))), .slice U l s] 35))
        have S5 := Lib.hid (S5.out.alloc (.cells #[.bool (nOf (rZ (zOf na xs) (zOf nb ys))), .slice U l s] 35))
        have S6 := Lib.hid (S6.out.alloc (.cells #[.bool (nOf (rZ (zOf na xs) (zOf nb ys))), .slice U l s] 35))
        have Y1 := Lib.hid (Y1.out.alloc (.cells #[.bool (nOf (rZ (zOf na xs) (zOf nb ys))), .slice U l s] 35))
        have S7 := Lib.hid (S7.out.alloc (.cells #[.bool (nOf (rZ (zOf na xs) (zOf nb ys))), .slice U l s] 35))
        have S8 := Lib.hid (S8.out.alloc (.cells #[.bool (nOf (rZ (zOf na xs) (zOf nb ys))), .slice U l s] 35))
        have Y2 := Lib.hid (Bk.new 35 w9 #[.bool (nOf (rZ (zOf na xs) (zOf nb ys))), .slice U l s])
        generalize (w9.alloc (.cells #[.bool (nOf (rZ (zOf na xs) (zOf nb ys))), .slice U l s] 35)) = W9 at *
        have e0 : W9.cell? ⟨bp0, 0, none⟩ = some (.bool (nOf (qZ (zOf na xs) (zOf nb ys)))) := Y1.out.c 0 rfl
        have e1 : W9.cell? ⟨bp0, 1, none⟩ = some (.slice T7 k7 i7) := Y1.out.c 1 rfl
        have e2 : W9.cell? ⟨w9.heap.size, 0, none⟩ = some (.bool (nOf (rZ (zOf na xs) (zOf nb ys)))) := Y2.out.c 0 rfl
        have e3 : W9.cell? ⟨w9.heap.size, 1, none⟩ = some (.slice U l s) := Y2.out.c 1 rfl
        have e4 : W9.cell? ⟨w.heap.size + 1 + 1, 0, none⟩ = some (.bool false) := X3.out.c 0 rfl
        have e5 : W9.cell? ⟨w.heap.size + 1 + 1, 1, none⟩ = some (.slice none 0 0) := X3.out.c 1 rfl
        have e6 : W9.cell? ⟨w.heap.size + 1 + 1 + 1, 0, none⟩ = some (.bool false) := X4.out.c 0 rfl
        have e7 : W9.cell? ⟨w.heap.size + 1 + 1 + 1, 1, none⟩ = some (.slice none 0 0) := X4.out.c 1 rfl
        have z8 := X3.out.fz 0
        have z9 := X3.out.fz 1
        have z10 := X4.out.fz 0
        have z11 := X4.out.fz 1
        go_region
        all_goals
          go_wp2_with fail
          refine bodyPost_ret (v := .tuple #[.agg #[.bool (nOf (qZ (zOf na xs) (zOf nb ys))), .slice T7 k7 i7], .agg #[.bool (nOf (rZ (zOf na xs) (zOf nb ys))), .slice U l s], .bool true]) (by simp [results, Tryd.results34, go_sem, *]) rfl ⟨T7, k7, i7, U, l, s, by rw [NB.out], (by first | exact (S7.out.bk2 X3.out _ _).bk2 (X4.out.far2 (by omega) _ _) _ _ | exact (S7.out.bk2 X4.out _ _).bk2 (X3.out.far2 (by omega) _ _) _ _ | exact ((S7.out.bk2 X3.out _ _).bk2 (X4.out.far2 (by omega) _ _) _ _).drew | exact ((S7.out.bk2 X4.out _ _).bk2 (X3.out.far2 (by omega) _ _) _ _).drew), (by first | exact (S8.out.bk2 X3.out _ _).bk2 (X4.out.far2 (by omega) _ _) _ _ | exact (S8.out.bk2 X4.out _ _).bk2 (X3.out.far2 (by omega) _ _) _ _ | exact ((S8.out.bk2 X3.out _ _).bk2 (X4.out.far2 (by omega) _ _) _ _).drew | exact ((S8.out.bk2 X4.out _ _).bk2 (X3.out.far2 (by omega) _ _) _ _).drew), (by first | exact below_set2 (below_set2 BW.out (by omega) _ _) (by omega) _ _ | exact (below_set2 (below_set2 BW.out (by omega) _ _) (by omega) _ _).drew | exact below_set2 (below_set2 BW.out.drew (by omega) _ _) (by omega) _ _)⟩
end Go.Proofs.YtfenmogbellhdaaDoor
