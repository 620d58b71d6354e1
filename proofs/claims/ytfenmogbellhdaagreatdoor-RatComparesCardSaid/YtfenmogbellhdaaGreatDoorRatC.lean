/-
  Contracts of rat's opposite and lowest.
-/
import Derived.Test.YtfenmogbellhdaaGreatDoorRatZ
namespace Go.Proofs.YtfenmogbellhdaaGreatDoor
open Go.RowKit

theorem opp_any (p q : Int) (A B : Option Addr) (n c m d : Nat) (w : World) (ha : Sl w A n c (lOf p)) (hb : Sl w B m d (lOf q)) (hp : fitB p = true) :
    Calls Tryz.prog 30 #[.agg #[.bool (nOf (p)), .slice A n c, .bool (nOf (q)), .slice B m d]] w fun e w' => ∃ T k r U l s, e = .returned (.agg #[.bool (nOf (-p)), .slice T k r, .bool (nOf (q)), .slice U l s]) ∧ Sl w' T k r (lOf (-p)) ∧ Sl w' U l s (lOf (q)) ∧ Below w.heap.size w w' := by
  have S1 := Lib.hid ha
  have S2 := Lib.hid hb
  have HP := Lib.hid hp
  clear ha hb hp
  have BW := Lib.hid (Below.refl w.heap.size w)
  go_enter Tryz.func30, Tryz.ntmps30
  go_upto_region 1 with fail
  have S1 := Lib.hid (S1.out.alloc (.cells #[.bool (nOf (p)), .slice A n c, .bool (nOf (q)), .slice B m d] 26))
  have S2 := Lib.hid (S2.out.alloc (.cells #[.bool (nOf (p)), .slice A n c, .bool (nOf (q)), .slice B m d] 26))
  have BW := Lib.hid (BW.out.alloc BW.out.size (.cells #[.bool (nOf (p)), .slice A n c, .bool (nOf (q)), .slice B m d] 26))
  have X1 := Lib.hid (Bk.new 26 w #[.bool (nOf (p)), .slice A n c, .bool (nOf (q)), .slice B m d])
  have S1 := Lib.hid (S1.out.alloc (.cells #[.bool false, .slice none 0 0, .bool false, .slice none 0 0] 26))
  have S2 := Lib.hid (S2.out.alloc (.cells #[.bool false, .slice none 0 0, .bool false, .slice none 0 0] 26))
  have BW := Lib.hid (BW.out.alloc BW.out.size (.cells #[.bool false, .slice none 0 0, .bool false, .slice none 0 0] 26))
  have X1 := Lib.hid (X1.out.alloc (.cells #[.bool false, .slice none 0 0, .bool false, .slice none 0 0] 26))
  have X2 := Lib.hid (Bk.new 26 (w.alloc (.cells #[.bool (nOf (p)), .slice A n c, .bool (nOf (q)), .slice B m d] 26)) #[.bool false, .slice none 0 0, .bool false, .slice none 0 0])
  rw [alloc_sz] at X2
  generalize ((w.alloc (.cells #[.bool (nOf (p)), .slice A n c, .bool (nOf (q)), .slice B m d] 26)).alloc (.cells #[.bool false, .slice none 0 0, .bool false, .slice none 0 0] 26)) = W0 at *
  have e0 : W0.cell? ⟨w.heap.size, 0, none⟩ = some (.bool (nOf (p))) := X1.out.c 0 rfl
  have e1 : W0.cell? ⟨w.heap.size, 1, none⟩ = some (.slice A n c) := X1.out.c 1 rfl
  have e2 : W0.cell? ⟨w.heap.size, 2, none⟩ = some (.bool (nOf (q))) := X1.out.c 2 rfl
  have e3 : W0.cell? ⟨w.heap.size, 3, none⟩ = some (.slice B m d) := X1.out.c 3 rfl
  have iq1 : ¬ w.heap.size + 1 = w.heap.size := by omega
  have ir1 : ¬ w.heap.size = w.heap.size + 1 := by omega
  go_region_held3 (fun w' => w'.cell? ⟨w.heap.size, 0, none⟩ = some (.bool (nOf (p))) ∧ w'.cell? ⟨w.heap.size, 1, none⟩ = some (.slice A n c) ∧ w'.cell? ⟨w.heap.size, 2, none⟩ = some (.bool (nOf (q))) ∧ w'.cell? ⟨w.heap.size, 3, none⟩ = some (.slice B m d)) (go_keep)
    (first | (go_at_call 41; (with_reducible refine (neg_z p A n c _ (by first | exact S1.out | exact S1.out.drew) HP.out).mono ?_); rintro e a1 ⟨T, k, r, rfl, hs, hb⟩; have BB1 := Lib.hid (show Below W0.heap.size W0 a1 from (by first | exact hb | exact (Below.refl _ _).drew.trans (hb.mono (Nat.le_refl _)))); have S3 := Lib.hid hs; clear hs; have f0 : a1.cell? ⟨w.heap.size, 0, none⟩ = some (.bool (nOf (p))) := (X1.out.below BB1.out).c 0 rfl; have f1 : a1.cell? ⟨w.heap.size, 1, none⟩ = some (.slice A n c) := (X1.out.below BB1.out).c 1 rfl; have f2 : a1.cell? ⟨w.heap.size, 2, none⟩ = some (.bool (nOf (q))) := (X1.out.below BB1.out).c 2 rfl; have f3 : a1.cell? ⟨w.heap.size, 3, none⟩ = some (.slice B m d) := (X1.out.below BB1.out).c 3 rfl; have g0 : a1.cell? ⟨w.heap.size + 1, 0, none⟩ = some (.bool false) := (X2.out.below BB1.out).c 0 rfl; have h0 := (X2.out.below BB1.out).fz 0; have g1 : a1.cell? ⟨w.heap.size + 1, 1, none⟩ = some (.slice none 0 0) := (X2.out.below BB1.out).c 1 rfl; have h1 := (X2.out.below BB1.out).fz 1; have g2 : a1.cell? ⟨w.heap.size + 1, 2, none⟩ = some (.bool false) := (X2.out.below BB1.out).c 2 rfl; have h2 := (X2.out.below BB1.out).fz 2; have g3 : a1.cell? ⟨w.heap.size + 1, 3, none⟩ = some (.slice none 0 0) := (X2.out.below BB1.out).c 3 rfl; have h3 := (X2.out.below BB1.out).fz 3; clear hb))
  clear e0 e1 e2 e3 iq1 ir1
  try clear f0 f1 f2 f3
  have S1 := Lib.hid (S1.out.below BB1.out)
  have S2 := Lib.hid (S2.out.below BB1.out)
  have BW := Lib.hid (below_on BW.out BB1.out)
  have X1 := Lib.hid (X1.out.below BB1.out)
  have X2 := Lib.hid (X2.out.below BB1.out)
  go_wp2_with fail
  refine bodyPost_ret (v := .agg #[.bool (nOf (-p)), .slice T k r, .bool (nOf (q)), .slice B m d]) (by simp [results, Tryz.results30, go_sem, *]) rfl ⟨T, k, r, B, m, d, rfl, S3.out.bk4 X2.out _ _ _ _, S2.out.bk4 X2.out _ _ _ _, below_set4 BW.out (by omega) _ _ _ _⟩

theorem low_any (p q : Int) (A B : Option Addr) (n c m d : Nat) (w : World) (ha : Sl w A n c (lOf p)) (hb : Sl w B m d (lOf q)) (hp : fitB p = true) (hq : fitB q = true) (h0 : q ≠ 0) :
    Calls Tryz.prog 46 #[.agg #[.bool (nOf (p)), .slice A n c], .agg #[.bool (nOf (q)), .slice B m d]] w fun e w' => ∃ T k r U l s, e = .returned (.agg #[.bool (nOf (loN p q)), .slice T k r, .bool (nOf (loD p q)), .slice U l s]) ∧ Sl w' T k r (lOf (loN p q)) ∧ Sl w' U l s (lOf (loD p q)) ∧ Below w.heap.size w w' := by
  have S1 := Lib.hid ha
  have S2 := Lib.hid hb
  have HP := Lib.hid hp
  have HQ := Lib.hid hq
  have H0 := Lib.hid h0
  have HG := Lib.hid (fit_gZ (p := p) h0 hq)
  have HS := Lib.hid (fit_gs (p := p) h0 hq)
  clear ha hb hp hq h0
  rcases Bool.eq_false_or_eq_true (nOf q) with hn | hn
  · have HN := Lib.hid hn
    have GE : Hid (-gZ p q = gs p q) := (gs_neg (nOf_true hn)).symm
    clear hn
    have BW := Lib.hid (Below.refl w.heap.size w)
    go_enter Tryz.func46, Tryz.ntmps46
    go_upto_region 1 with fail
    have S1 := Lib.hid (S1.out.alloc (.cells #[.bool (nOf (p)), .slice A n c] 24))
    have S2 := Lib.hid (S2.out.alloc (.cells #[.bool (nOf (p)), .slice A n c] 24))
    have BW := Lib.hid (BW.out.alloc BW.out.size (.cells #[.bool (nOf (p)), .slice A n c] 24))
    have X1 := Lib.hid (Bk.new 24 w #[.bool (nOf (p)), .slice A n c])
    have S1 := Lib.hid (S1.out.alloc (.cells #[.bool (nOf q), .slice B m d] 24))
    have S2 := Lib.hid (S2.out.alloc (.cells #[.bool (nOf q), .slice B m d] 24))
    have BW := Lib.hid (BW.out.alloc BW.out.size (.cells #[.bool (nOf q), .slice B m d] 24))
    have X1 := Lib.hid (X1.out.alloc (.cells #[.bool (nOf q), .slice B m d] 24))
    have X2 := Lib.hid (Bk.new 24 (w.alloc (.cells #[.bool (nOf (p)), .slice A n c] 24)) #[.bool (nOf q), .slice B m d])
    rw [alloc_sz] at X2
    have S1 := Lib.hid (S1.out.alloc (.cells #[.bool false, .slice none 0 0, .bool false, .slice none 0 0] 26))
    have S2 := Lib.hid (S2.out.alloc (.cells #[.bool false, .slice none 0 0, .bool false, .slice none 0 0] 26))
    have BW := Lib.hid (BW.out.alloc BW.out.size (.cells #[.bool false, .slice none 0 0, .bool false, .slice none 0 0] 26))
    have X1 := Lib.hid (X1.out.alloc (.cells #[.bool false, .slice none 0 0, .bool false, .slice none 0 0] 26))
    have X2 := Lib.hid (X2.out.alloc (.cells #[.bool false, .slice none 0 0, .bool false, .slice none 0 0] 26))
    have X3 := Lib.hid (Bk.new 26 ((w.alloc (.cells #[.bool (nOf (p)), .slice A n c] 24)).alloc (.cells #[.bool (nOf q), .slice B m d] 24)) #[.bool false, .slice none 0 0, .bool false, .slice none 0 0])
    rw [alloc_sz, alloc_sz] at X3
    generalize (((w.alloc (.cells #[.bool (nOf (p)), .slice A n c] 24)).alloc (.cells #[.bool (nOf q), .slice B m d] 24)).alloc (.cells #[.bool false, .slice none 0 0, .bool false, .slice none 0 0] 26)) = W0 at *
    have e0 : W0.cell? ⟨w.heap.size, 0, none⟩ = some (.bool (nOf (p))) := X1.out.c 0 rfl
    have e1 : W0.cell? ⟨w.heap.size, 1, none⟩ = some (.slice A n c) := X1.out.c 1 rfl
    have e2 : W0.cell? ⟨w.heap.size + 1, 0, none⟩ = some (.bool (nOf q)) := X2.out.c 0 rfl
    have e3 : W0.cell? ⟨w.heap.size + 1, 1, none⟩ = some (.slice B m d) := X2.out.c 1 rfl
    go_wp2_with fail
    ((with_reducible refine (gcd_z p q A B n c m d _ S1.out S2.out HP.out HQ.out).mono ?_); rintro e w1 ⟨T, k, r, rfl, hs, hb⟩)
    clear e0 e1 e2 e3
    have S1 := Lib.hid (S1.out.below hb)
    have S2 := Lib.hid (S2.out.below hb)
    have BW := Lib.hid (below_on BW.out hb)
    have X1 := Lib.hid (X1.out.below hb)
    have X2 := Lib.hid (X2.out.below hb)
    have X3 := Lib.hid (X3.out.below hb)
    clear hb
    have S3 := Lib.hid hs
    clear hs
    go_upto_region 2 with fail
    have ln1 := X1.out.lt
    have ln2 := X2.out.lt
    have ln3 := X3.out.lt
    have S1 := Lib.hid (S1.out.alloc (.cells #[.bool (nOf (gZ p q)), .slice T k r] 24))
    have S2 := Lib.hid (S2.out.alloc (.cells #[.bool (nOf (gZ p q)), .slice T k r] 24))
    have BW := Lib.hid (BW.out.alloc BW.out.size (.cells #[.bool (nOf (gZ p q)), .slice T k r] 24))
    have X1 := Lib.hid (X1.out.alloc (.cells #[.bool (nOf (gZ p q)), .slice T k r] 24))
    have X2 := Lib.hid (X2.out.alloc (.cells #[.bool (nOf (gZ p q)), .slice T k r] 24))
    have X3 := Lib.hid (X3.out.alloc (.cells #[.bool (nOf (gZ p q)), .slice T k r] 24))
    have S3 := Lib.hid (S3.out.alloc (.cells #[.bool (nOf (gZ p q)), .slice T k r] 24))
    have X4 := Lib.hid (Bk.new 24 w1 #[.bool (nOf (gZ p q)), .slice T k r])
    generalize (w1.alloc (.cells #[.bool (nOf (gZ p q)), .slice T k r] 24)) = W1 at *
    rw [HN.out] at X2
    have e0 : W1.cell? ⟨w.heap.size + 1, 0, none⟩ = some (.bool true) := X2.out.c 0 rfl
    have e1 : W1.cell? ⟨w.heap.size + 1, 1, none⟩ = some (.slice B m d) := X2.out.c 1 rfl
    go_upto_region 3 with fail
    clear e0 e1
    have e0 : W1.cell? ⟨w1.heap.size, 0, none⟩ = some (.bool (nOf (gZ p q))) := X4.out.c 0 rfl
    have e1 : W1.cell? ⟨w1.heap.size, 1, none⟩ = some (.slice T k r) := X4.out.c 1 rfl
    go_wp2_with fail
    ((with_reducible refine (neg_z (gZ p q) T k r _ S3.out HG.out).mono ?_); rintro e w2 ⟨T', k', r', rfl, hs, hb⟩)
    clear e0 e1
    have S1 := Lib.hid (S1.out.below hb)
    have S2 := Lib.hid (S2.out.below hb)
    have BW := Lib.hid (below_on BW.out hb)
    have X1 := Lib.hid (X1.out.below hb)
    have X2 := Lib.hid (X2.out.below hb)
    have X3 := Lib.hid (X3.out.below hb)
    have S3 := Lib.hid (S3.out.below hb)
    have X4 := Lib.hid (X4.out.below hb)
    clear hb
    have S4 := Lib.hid hs
    clear hs
    rw [GE.out] at S4 ⊢
    have e0 : w2.cell? ⟨w1.heap.size, 0, none⟩ = some (.bool (nOf (gZ p q))) := X4.out.c 0 rfl
    have e1 : w2.cell? ⟨w1.heap.size, 1, none⟩ = some (.slice T k r) := X4.out.c 1 rfl
    have z2 := X4.out.fz 0
    have z3 := X4.out.fz 1
    go_upto_region 4 with fail
    clear e0 e1 z2 z3
    have S1 := Lib.hid (S1.out.bk2 X4.out (.bool (nOf (gs p q))) (.slice T' k' r'))
    have S2 := Lib.hid (S2.out.bk2 X4.out (.bool (nOf (gs p q))) (.slice T' k' r'))
    have BW := Lib.hid (below_set2 BW.out (show w.heap.size ≤ w1.heap.size by omega) (.bool (nOf (gs p q))) (.slice T' k' r'))
    have X1 := Lib.hid (X1.out.far2 (show w.heap.size ≠ w1.heap.size by omega) (.bool (nOf (gs p q))) (.slice T' k' r'))
    have X2 := Lib.hid (X2.out.far2 (show w.heap.size + 1 ≠ w1.heap.size by omega) (.bool (nOf (gs p q))) (.slice T' k' r'))
    have X3 := Lib.hid (X3.out.far2 (show w.heap.size + 1 + 1 ≠ w1.heap.size by omega) (.bool (nOf (gs p q))) (.slice T' k' r'))
    have S3 := Lib.hid (S3.out.bk2 X4.out (.bool (nOf (gs p q))) (.slice T' k' r'))
    have S4 := Lib.hid (S4.out.bk2 X4.out (.bool (nOf (gs p q))) (.slice T' k' r'))
    have X4 := Lib.hid (X4.out.set2 (.bool (nOf (gs p q))) (.slice T' k' r'))
    generalize ((w2.setCell ⟨w1.heap.size, 0, none⟩ (.bool (nOf (gs p q)))).setCell ⟨w1.heap.size, 1, none⟩ (.slice T' k' r')) = W2 at *
    clear S3
    have e0 : W2.cell? ⟨w1.heap.size, 0, none⟩ = some (.bool (nOf (gs p q))) := X4.out.c 0 rfl
    have e1 : W2.cell? ⟨w1.heap.size, 1, none⟩ = some (.slice T' k' r') := X4.out.c 1 rfl
    go_upto_region 5 with fail
    clear e0 e1
    have ln4 := X1.out.lt
    have ln5 := X2.out.lt
    have ln6 := X3.out.lt
    have ln7 := X4.out.lt
    have S1 := Lib.hid (S1.out.alloc (.cells #[.bool (nOf (gs p q)), .slice T' k' r'] 45))
    have S2 := Lib.hid (S2.out.alloc (.cells #[.bool (nOf (gs p q)), .slice T' k' r'] 45))
    have BW := Lib.hid (BW.out.alloc BW.out.size (.cells #[.bool (nOf (gs p q)), .slice T' k' r'] 45))
    have X1 := Lib.hid (X1.out.alloc (.cells #[.bool (nOf (gs p q)), .slice T' k' r'] 45))
    have X2 := Lib.hid (X2.out.alloc (.cells #[.bool (nOf (gs p q)), .slice T' k' r'] 45))
    have X3 := Lib.hid (X3.out.alloc (.cells #[.bool (nOf (gs p q)), .slice T' k' r'] 45))
    have X4 := Lib.hid (X4.out.alloc (.cells #[.bool (nOf (gs p q)), .slice T' k' r'] 45))
    have S4 := Lib.hid (S4.out.alloc (.cells #[.bool (nOf (gs p q)), .slice T' k' r'] 45))
    have X5 := Lib.hid (Bk.new 45 W2 #[.bool (nOf (gs p q)), .slice T' k' r'])
    generalize (W2.alloc (.cells #[.bool (nOf (gs p q)), .slice T' k' r'] 45)) = W3 at *
    rw [← HN.out] at X2
    have e0 : W3.cell? ⟨W2.heap.size, 0, none⟩ = some (.bool (nOf (gs p q))) := X5.out.c 0 rfl
    have e1 : W3.cell? ⟨W2.heap.size, 1, none⟩ = some (.slice T' k' r') := X5.out.c 1 rfl
    have e2 : W3.cell? ⟨w.heap.size, 0, none⟩ = some (.bool (nOf (p))) := X1.out.c 0 rfl
    have e3 : W3.cell? ⟨w.heap.size, 1, none⟩ = some (.slice A n c) := X1.out.c 1 rfl
    have e4 : W3.cell? ⟨w.heap.size + 1, 0, none⟩ = some (.bool (nOf q)) := X2.out.c 0 rfl
    have e5 : W3.cell? ⟨w.heap.size + 1, 1, none⟩ = some (.slice B m d) := X2.out.c 1 rfl
    have iq1 : ¬ w.heap.size + 1 + 1 = W2.heap.size := by omega
    have ir1 : ¬ W2.heap.size = w.heap.size + 1 + 1 := by omega
    have iq2 : ¬ w.heap.size + 1 + 1 = w.heap.size := by omega
    have ir2 : ¬ w.heap.size = w.heap.size + 1 + 1 := by omega
    have iq3 : ¬ w.heap.size + 1 + 1 = w.heap.size + 1 := by omega
    have ir3 : ¬ w.heap.size + 1 = w.heap.size + 1 + 1 := by omega
    go_region_held3 (fun w' => w'.cell? ⟨W2.heap.size, 0, none⟩ = some (.bool (nOf (gs p q))) ∧ w'.cell? ⟨W2.heap.size, 1, none⟩ = some (.slice T' k' r') ∧ w'.cell? ⟨w.heap.size, 0, none⟩ = some (.bool (nOf (p))) ∧ w'.cell? ⟨w.heap.size, 1, none⟩ = some (.slice A n c) ∧ w'.cell? ⟨w.heap.size + 1, 0, none⟩ = some (.bool (nOf q)) ∧ w'.cell? ⟨w.heap.size + 1, 1, none⟩ = some (.slice B m d)) (go_keep)
      (first | (go_at_call 38; (with_reducible refine (quot_z (gs p q) p T' A k' r' n c _ (by first | exact S4.out | exact S4.out.drew) (by first | exact S1.out | exact S1.out.drew) HS.out HP.out).mono ?_); rintro e a1 ⟨U, l, s, rfl, hs, hb⟩; have BB1 := Lib.hid (show Below W3.heap.size W3 a1 from (by first | exact hb | exact (Below.refl _ _).drew.trans (hb.mono (Nat.le_refl _)))); have S5 := Lib.hid hs; clear hs; have f0 : a1.cell? ⟨W2.heap.size, 0, none⟩ = some (.bool (nOf (gs p q))) := (X5.out.below BB1.out).c 0 rfl; have f1 : a1.cell? ⟨W2.heap.size, 1, none⟩ = some (.slice T' k' r') := (X5.out.below BB1.out).c 1 rfl; have f2 : a1.cell? ⟨w.heap.size, 0, none⟩ = some (.bool (nOf (p))) := (X1.out.below BB1.out).c 0 rfl; have f3 : a1.cell? ⟨w.heap.size, 1, none⟩ = some (.slice A n c) := (X1.out.below BB1.out).c 1 rfl; have f4 : a1.cell? ⟨w.heap.size + 1, 0, none⟩ = some (.bool (nOf q)) := (X2.out.below BB1.out).c 0 rfl; have f5 : a1.cell? ⟨w.heap.size + 1, 1, none⟩ = some (.slice B m d) := (X2.out.below BB1.out).c 1 rfl; have g0 : a1.cell? ⟨w.heap.size + 1 + 1, 0, none⟩ = some (.bool false) := (X3.out.below BB1.out).c 0 rfl; have h0 := (X3.out.below BB1.out).fz 0; have g1 : a1.cell? ⟨w.heap.size + 1 + 1, 1, none⟩ = some (.slice none 0 0) := (X3.out.below BB1.out).c 1 rfl; have h1 := (X3.out.below BB1.out).fz 1; have g2 : a1.cell? ⟨w.heap.size + 1 + 1, 2, none⟩ = some (.bool false) := (X3.out.below BB1.out).c 2 rfl; have h2 := (X3.out.below BB1.out).fz 2; have g3 : a1.cell? ⟨w.heap.size + 1 + 1, 3, none⟩ = some (.slice none 0 0) := (X3.out.below BB1.out).c 3 rfl; have h3 := (X3.out.below BB1.out).fz 3; clear hb) | (go_at_call 38; (with_reducible refine (quot_z (gs p q) q T' B k' r' m d _ (S4.out.below BB1.out) (S2.out.below BB1.out) HS.out HQ.out).mono ?_); rintro e a2 ⟨V, i, j, rfl, hs, hb⟩; have BB2 := Lib.hid (below_up BB1.out hb); have S5 := Lib.hid (S5.out.below hb); have S6 := Lib.hid hs; clear hs; have f0 : a2.cell? ⟨W2.heap.size, 0, none⟩ = some (.bool (nOf (gs p q))) := (X5.out.below BB2.out).c 0 rfl; have f1 : a2.cell? ⟨W2.heap.size, 1, none⟩ = some (.slice T' k' r') := (X5.out.below BB2.out).c 1 rfl; have f2 : a2.cell? ⟨w.heap.size, 0, none⟩ = some (.bool (nOf (p))) := (X1.out.below BB2.out).c 0 rfl; have f3 : a2.cell? ⟨w.heap.size, 1, none⟩ = some (.slice A n c) := (X1.out.below BB2.out).c 1 rfl; have f4 : a2.cell? ⟨w.heap.size + 1, 0, none⟩ = some (.bool (nOf q)) := (X2.out.below BB2.out).c 0 rfl; have f5 : a2.cell? ⟨w.heap.size + 1, 1, none⟩ = some (.slice B m d) := (X2.out.below BB2.out).c 1 rfl; have g0 : a2.cell? ⟨w.heap.size + 1 + 1, 0, none⟩ = some (.bool false) := (X3.out.below BB2.out).c 0 rfl; have h0 := (X3.out.below BB2.out).fz 0; have g1 : a2.cell? ⟨w.heap.size + 1 + 1, 1, none⟩ = some (.slice none 0 0) := (X3.out.below BB2.out).c 1 rfl; have h1 := (X3.out.below BB2.out).fz 1; have g2 : a2.cell? ⟨w.heap.size + 1 + 1, 2, none⟩ = some (.bool false) := (X3.out.below BB2.out).c 2 rfl; have h2 := (X3.out.below BB2.out).fz 2; have g3 : a2.cell? ⟨w.heap.size + 1 + 1, 3, none⟩ = some (.slice none 0 0) := (X3.out.below BB2.out).c 3 rfl; have h3 := (X3.out.below BB2.out).fz 3; clear hb))
    clear e0 e1 e2 e3 e4 e5 iq1 ir1 iq2 ir2 iq3 ir3
    try clear f0 f1 f2 f3 f4 f5
    have S1 := Lib.hid (S1.out.below BB2.out)
    have S2 := Lib.hid (S2.out.below BB2.out)
    have BW := Lib.hid (below_on BW.out BB2.out)
    have X1 := Lib.hid (X1.out.below BB2.out)
    have X2 := Lib.hid (X2.out.below BB2.out)
    have X3 := Lib.hid (X3.out.below BB2.out)
    have X4 := Lib.hid (X4.out.below BB2.out)
    have S4 := Lib.hid (S4.out.below BB2.out)
    have X5 := Lib.hid (X5.out.below BB2.out)
    go_wp2_with fail
    refine bodyPost_ret (v := .agg #[.bool (nOf (qZ p (gs p q))), .slice U l s, .bool (nOf (qZ q (gs p q))), .slice V i j]) (by simp [results, Tryz.results46, go_sem, *]) rfl ⟨U, l, s, V, i, j, rfl, S5.out.bk4 X3.out _ _ _ _, S6.out.bk4 X3.out _ _ _ _, below_set4 BW.out (by omega) _ _ _ _⟩
  · have HN := Lib.hid hn
    have GE : Hid (gZ p q = gs p q) := (gs_pos (by have := nOf_false hn; omega)).symm
    clear hn
    have BW := Lib.hid (Below.refl w.heap.size w)
    go_enter Tryz.func46, Tryz.ntmps46
    go_upto_region 1 with fail
    have S1 := Lib.hid (S1.out.alloc (.cells #[.bool (nOf (p)), .slice A n c] 24))
    have S2 := Lib.hid (S2.out.alloc (.cells #[.bool (nOf (p)), .slice A n c] 24))
    have BW := Lib.hid (BW.out.alloc BW.out.size (.cells #[.bool (nOf (p)), .slice A n c] 24))
    have X1 := Lib.hid (Bk.new 24 w #[.bool (nOf (p)), .slice A n c])
    have S1 := Lib.hid (S1.out.alloc (.cells #[.bool (nOf q), .slice B m d] 24))
    have S2 := Lib.hid (S2.out.alloc (.cells #[.bool (nOf q), .slice B m d] 24))
    have BW := Lib.hid (BW.out.alloc BW.out.size (.cells #[.bool (nOf q), .slice B m d] 24))
    have X1 := Lib.hid (X1.out.alloc (.cells #[.bool (nOf q), .slice B m d] 24))
    have X2 := Lib.hid (Bk.new 24 (w.alloc (.cells #[.bool (nOf (p)), .slice A n c] 24)) #[.bool (nOf q), .slice B m d])
    rw [alloc_sz] at X2
    have S1 := Lib.hid (S1.out.alloc (.cells #[.bool false, .slice none 0 0, .bool false, .slice none 0 0] 26))
    have S2 := Lib.hid (S2.out.alloc (.cells #[.bool false, .slice none 0 0, .bool false, .slice none 0 0] 26))
    have BW := Lib.hid (BW.out.alloc BW.out.size (.cells #[.bool false, .slice none 0 0, .bool false, .slice none 0 0] 26))
    have X1 := Lib.hid (X1.out.alloc (.cells #[.bool false, .slice none 0 0, .bool false, .slice none 0 0] 26))
    have X2 := Lib.hid (X2.out.alloc (.cells #[.bool false, .slice none 0 0, .bool false, .slice none 0 0] 26))
    have X3 := Lib.hid (Bk.new 26 ((w.alloc (.cells #[.bool (nOf (p)), .slice A n c] 24)).alloc (.cells #[.bool (nOf q), .slice B m d] 24)) #[.bool false, .slice none 0 0, .bool false, .slice none 0 0])
    rw [alloc_sz, alloc_sz] at X3
    generalize (((w.alloc (.cells #[.bool (nOf (p)), .slice A n c] 24)).alloc (.cells #[.bool (nOf q), .slice B m d] 24)).alloc (.cells #[.bool false, .slice none 0 0, .bool false, .slice none 0 0] 26)) = W0 at *
    have e0 : W0.cell? ⟨w.heap.size, 0, none⟩ = some (.bool (nOf (p))) := X1.out.c 0 rfl
    have e1 : W0.cell? ⟨w.heap.size, 1, none⟩ = some (.slice A n c) := X1.out.c 1 rfl
    have e2 : W0.cell? ⟨w.heap.size + 1, 0, none⟩ = some (.bool (nOf q)) := X2.out.c 0 rfl
    have e3 : W0.cell? ⟨w.heap.size + 1, 1, none⟩ = some (.slice B m d) := X2.out.c 1 rfl
    go_wp2_with fail
    ((with_reducible refine (gcd_z p q A B n c m d _ S1.out S2.out HP.out HQ.out).mono ?_); rintro e w1 ⟨T, k, r, rfl, hs, hb⟩)
    clear e0 e1 e2 e3
    have S1 := Lib.hid (S1.out.below hb)
    have S2 := Lib.hid (S2.out.below hb)
    have BW := Lib.hid (below_on BW.out hb)
    have X1 := Lib.hid (X1.out.below hb)
    have X2 := Lib.hid (X2.out.below hb)
    have X3 := Lib.hid (X3.out.below hb)
    clear hb
    have S3 := Lib.hid hs
    clear hs
    go_upto_region 2 with fail
    have ln1 := X1.out.lt
    have ln2 := X2.out.lt
    have ln3 := X3.out.lt
    have S1 := Lib.hid (S1.out.alloc (.cells #[.bool (nOf (gZ p q)), .slice T k r] 24))
    have S2 := Lib.hid (S2.out.alloc (.cells #[.bool (nOf (gZ p q)), .slice T k r] 24))
    have BW := Lib.hid (BW.out.alloc BW.out.size (.cells #[.bool (nOf (gZ p q)), .slice T k r] 24))
    have X1 := Lib.hid (X1.out.alloc (.cells #[.bool (nOf (gZ p q)), .slice T k r] 24))
    have X2 := Lib.hid (X2.out.alloc (.cells #[.bool (nOf (gZ p q)), .slice T k r] 24))
    have X3 := Lib.hid (X3.out.alloc (.cells #[.bool (nOf (gZ p q)), .slice T k r] 24))
    have S3 := Lib.hid (S3.out.alloc (.cells #[.bool (nOf (gZ p q)), .slice T k r] 24))
    have X4 := Lib.hid (Bk.new 24 w1 #[.bool (nOf (gZ p q)), .slice T k r])
    generalize (w1.alloc (.cells #[.bool (nOf (gZ p q)), .slice T k r] 24)) = W1 at *
    rw [HN.out] at X2
    have e0 : W1.cell? ⟨w.heap.size + 1, 0, none⟩ = some (.bool false) := X2.out.c 0 rfl
    have e1 : W1.cell? ⟨w.heap.size + 1, 1, none⟩ = some (.slice B m d) := X2.out.c 1 rfl
    go_upto_region 4 with fail
    clear e0 e1
    rw [GE.out] at S3 X4
    have e0 : W1.cell? ⟨w1.heap.size, 0, none⟩ = some (.bool (nOf (gs p q))) := X4.out.c 0 rfl
    have e1 : W1.cell? ⟨w1.heap.size, 1, none⟩ = some (.slice T k r) := X4.out.c 1 rfl
    go_upto_region 5 with fail
    clear e0 e1
    have ln4 := X1.out.lt
    have ln5 := X2.out.lt
    have ln6 := X3.out.lt
    have ln7 := X4.out.lt
    have S1 := Lib.hid (S1.out.alloc (.cells #[.bool (nOf (gs p q)), .slice T k r] 45))
    have S2 := Lib.hid (S2.out.alloc (.cells #[.bool (nOf (gs p q)), .slice T k r] 45))
    have BW := Lib.hid (BW.out.alloc BW.out.size (.cells #[.bool (nOf (gs p q)), .slice T k r] 45))
    have X1 := Lib.hid (X1.out.alloc (.cells #[.bool (nOf (gs p q)), .slice T k r] 45))
    have X2 := Lib.hid (X2.out.alloc (.cells #[.bool (nOf (gs p q)), .slice T k r] 45))
    have X3 := Lib.hid (X3.out.alloc (.cells #[.bool (nOf (gs p q)), .slice T k r] 45))
    have S3 := Lib.hid (S3.out.alloc (.cells #[.bool (nOf (gs p q)), .slice T k r] 45))
    have X4 := Lib.hid (X4.out.alloc (.cells #[.bool (nOf (gs p q)), .slice T k r] 45))
    have X5 := Lib.hid (Bk.new 45 W1 #[.bool (nOf (gs p q)), .slice T k r])
    generalize (W1.alloc (.cells #[.bool (nOf (gs p q)), .slice T k r] 45)) = W3 at *
    rw [← HN.out] at X2
    have e0 : W3.cell? ⟨W1.heap.size, 0, none⟩ = some (.bool (nOf (gs p q))) := X5.out.c 0 rfl
    have e1 : W3.cell? ⟨W1.heap.size, 1, none⟩ = some (.slice T k r) := X5.out.c 1 rfl
    have e2 : W3.cell? ⟨w.heap.size, 0, none⟩ = some (.bool (nOf (p))) := X1.out.c 0 rfl
    have e3 : W3.cell? ⟨w.heap.size, 1, none⟩ = some (.slice A n c) := X1.out.c 1 rfl
    have e4 : W3.cell? ⟨w.heap.size + 1, 0, none⟩ = some (.bool (nOf q)) := X2.out.c 0 rfl
    have e5 : W3.cell? ⟨w.heap.size + 1, 1, none⟩ = some (.slice B m d) := X2.out.c 1 rfl
    have iq1 : ¬ w.heap.size + 1 + 1 = W1.heap.size := by omega
    have ir1 : ¬ W1.heap.size = w.heap.size + 1 + 1 := by omega
    have iq2 : ¬ w.heap.size + 1 + 1 = w.heap.size := by omega
    have ir2 : ¬ w.heap.size = w.heap.size + 1 + 1 := by omega
    have iq3 : ¬ w.heap.size + 1 + 1 = w.heap.size + 1 := by omega
    have ir3 : ¬ w.heap.size + 1 = w.heap.size + 1 + 1 := by omega
    go_region_held3 (fun w' => w'.cell? ⟨W1.heap.size, 0, none⟩ = some (.bool (nOf (gs p q))) ∧ w'.cell? ⟨W1.heap.size, 1, none⟩ = some (.slice T k r) ∧ w'.cell? ⟨w.heap.size, 0, none⟩ = some (.bool (nOf (p))) ∧ w'.cell? ⟨w.heap.size, 1, none⟩ = some (.slice A n c) ∧ w'.cell? ⟨w.heap.size + 1, 0, none⟩ = some (.bool (nOf q)) ∧ w'.cell? ⟨w.heap.size + 1, 1, none⟩ = some (.slice B m d)) (go_keep)
      (first | (go_at_call 38; (with_reducible refine (quot_z (gs p q) p T A k r n c _ (by first | exact S3.out | exact S3.out.drew) (by first | exact S1.out | exact S1.out.drew) HS.out HP.out).mono ?_); rintro e a1 ⟨U, l, s, rfl, hs, hb⟩; have BB1 := Lib.hid (show Below W3.heap.size W3 a1 from (by first | exact hb | exact (Below.refl _ _).drew.trans (hb.mono (Nat.le_refl _)))); have S5 := Lib.hid hs; clear hs; have f0 : a1.cell? ⟨W1.heap.size, 0, none⟩ = some (.bool (nOf (gs p q))) := (X5.out.below BB1.out).c 0 rfl; have f1 : a1.cell? ⟨W1.heap.size, 1, none⟩ = some (.slice T k r) := (X5.out.below BB1.out).c 1 rfl; have f2 : a1.cell? ⟨w.heap.size, 0, none⟩ = some (.bool (nOf (p))) := (X1.out.below BB1.out).c 0 rfl; have f3 : a1.cell? ⟨w.heap.size, 1, none⟩ = some (.slice A n c) := (X1.out.below BB1.out).c 1 rfl; have f4 : a1.cell? ⟨w.heap.size + 1, 0, none⟩ = some (.bool (nOf q)) := (X2.out.below BB1.out).c 0 rfl; have f5 : a1.cell? ⟨w.heap.size + 1, 1, none⟩ = some (.slice B m d) := (X2.out.below BB1.out).c 1 rfl; have g0 : a1.cell? ⟨w.heap.size + 1 + 1, 0, none⟩ = some (.bool false) := (X3.out.below BB1.out).c 0 rfl; have h0 := (X3.out.below BB1.out).fz 0; have g1 : a1.cell? ⟨w.heap.size + 1 + 1, 1, none⟩ = some (.slice none 0 0) := (X3.out.below BB1.out).c 1 rfl; have h1 := (X3.out.below BB1.out).fz 1; have g2 : a1.cell? ⟨w.heap.size + 1 + 1, 2, none⟩ = some (.bool false) := (X3.out.below BB1.out).c 2 rfl; have h2 := (X3.out.below BB1.out).fz 2; have g3 : a1.cell? ⟨w.heap.size + 1 + 1, 3, none⟩ = some (.slice none 0 0) := (X3.out.below BB1.out).c 3 rfl; have h3 := (X3.out.below BB1.out).fz 3; clear hb) | (go_at_call 38; (with_reducible refine (quot_z (gs p q) q T B k r m d _ (S3.out.below BB1.out) (S2.out.below BB1.out) HS.out HQ.out).mono ?_); rintro e a2 ⟨V, i, j, rfl, hs, hb⟩; have BB2 := Lib.hid (below_up BB1.out hb); have S5 := Lib.hid (S5.out.below hb); have S6 := Lib.hid hs; clear hs; have f0 : a2.cell? ⟨W1.heap.size, 0, none⟩ = some (.bool (nOf (gs p q))) := (X5.out.below BB2.out).c 0 rfl; have f1 : a2.cell? ⟨W1.heap.size, 1, none⟩ = some (.slice T k r) := (X5.out.below BB2.out).c 1 rfl; have f2 : a2.cell? ⟨w.heap.size, 0, none⟩ = some (.bool (nOf (p))) := (X1.out.below BB2.out).c 0 rfl; have f3 : a2.cell? ⟨w.heap.size, 1, none⟩ = some (.slice A n c) := (X1.out.below BB2.out).c 1 rfl; have f4 : a2.cell? ⟨w.heap.size + 1, 0, none⟩ = some (.bool (nOf q)) := (X2.out.below BB2.out).c 0 rfl; have f5 : a2.cell? ⟨w.heap.size + 1, 1, none⟩ = some (.slice B m d) := (X2.out.below BB2.out).c 1 rfl; have g0 : a2.cell? ⟨w.heap.size + 1 + 1, 0, none⟩ = some (.bool false) := (X3.out.below BB2.out).c 0 rfl; have h0 := (X3.out.below BB2.out).fz 0; have g1 : a2.cell? ⟨w.heap.size + 1 + 1, 1, none⟩ = some (.slice none 0 0) := (X3.out.below BB2.out).c 1 rfl; have h1 := (X3.out.below BB2.out).fz 1; have g2 : a2.cell? ⟨w.heap.size + 1 + 1, 2, none⟩ = some (.bool false) := (X3.out.below BB2.out).c 2 rfl; have h2 := (X3.out.below BB2.out).fz 2; have g3 : a2.cell? ⟨w.heap.size + 1 + 1, 3, none⟩ = some (.slice none 0 0) := (X3.out.below BB2.out).c 3 rfl; have h3 := (X3.out.below BB2.out).fz 3; clear hb))
    clear e0 e1 e2 e3 e4 e5 iq1 ir1 iq2 ir2 iq3 ir3
    try clear f0 f1 f2 f3 f4 f5
    have S1 := Lib.hid (S1.out.below BB2.out)
    have S2 := Lib.hid (S2.out.below BB2.out)
    have BW := Lib.hid (below_on BW.out BB2.out)
    have X1 := Lib.hid (X1.out.below BB2.out)
    have X2 := Lib.hid (X2.out.below BB2.out)
    have X3 := Lib.hid (X3.out.below BB2.out)
    have S3 := Lib.hid (S3.out.below BB2.out)
    have X4 := Lib.hid (X4.out.below BB2.out)
    have X5 := Lib.hid (X5.out.below BB2.out)
    go_wp2_with fail
    refine bodyPost_ret (v := .agg #[.bool (nOf (qZ p (gs p q))), .slice U l s, .bool (nOf (qZ q (gs p q))), .slice V i j]) (by simp [results, Tryz.results46, go_sem, *]) rfl ⟨U, l, s, V, i, j, rfl, S5.out.bk4 X3.out _ _ _ _, S6.out.bk4 X3.out _ _ _ _, below_set4 BW.out (by omega) _ _ _ _⟩
end Go.Proofs.YtfenmogbellhdaaGreatDoor
