/-
  Contracts of rat's Mul, Div, Floor and Ceil.
-/
import Derived.Test.YtfenmogbellhdaaGreatDoorRatE
import Derived.Test.YtfenmogbellhdaaGreatDoorRatMathB
namespace Go.Proofs.YtfenmogbellhdaaGreatDoor
open Go.RowKit

theorem res_both {P Q n d : Int} (hq : Q ≠ 0) (h : loN P Q = n ∧ loD P Q = d) : resN P Q = bothZ n n d ∧ resD P Q = bothZ d n d ∧ resB P Q = bothB n d := by
  have e : resB P Q = bothB n d := by
    unfold resB bothB
    rw [h.1, h.2, show (Q != 0) = true by simpa using hq]; rfl
  refine ⟨?_, ?_, e⟩
  · unfold resN bothZ; rw [e, h.1]
  · unfold resD bothZ; rw [e, h.2]
theorem fit_qZ {p q : Int} (h : Fr p q) : fitB (qZ p q) = true := by
  have hq : q ≠ 0 := by have := h.pos; omega
  refine fit_le h.fn ?_
  have := h.pos
  unfold qZ
  rw [if_neg hq, Int.fdiv_eq_ediv_of_nonneg _ (by omega)]
  exact Int.natAbs_ediv_le_natAbs _ _
set_option maxHeartbeats 1000000 in
theorem rdiv_any (s1 t1 s2 t2 : Bool) (A1 B1 A2 B2 : Option Addr) (n1 c1 m1 d1 n2 c2 m2 d2 : Nat) (x1 y1 x2 y2 : List Int) (w : World) (ha : Sl w A1 n1 c1 x1) (hb : Sl w B1 m1 d1 y1) (hc : Sl w A2 n2 c2 x2) (hd : Sl w B2 m2 d2 y2) :
    Calls Tryz.prog 25 #[.agg #[.bool s1, .slice A1 n1 c1, .bool t1, .slice B1 m1 d1], .agg #[.bool s2, .slice A2 n2 c2, .bool t2, .slice B2 m2 d2]] w fun e w' => ∃ T k r U l s, e = .returned (.tuple #[.agg #[.bool (nOf (resN (frN s1 x1 t1 y1 * frD s2 x2 t2 y2) (frD s1 x1 t1 y1 * frN s2 x2 t2 y2))), .slice T k r, .bool (nOf (resD (frN s1 x1 t1 y1 * frD s2 x2 t2 y2) (frD s1 x1 t1 y1 * frN s2 x2 t2 y2))), .slice U l s], .bool (resB (frN s1 x1 t1 y1 * frD s2 x2 t2 y2) (frD s1 x1 t1 y1 * frN s2 x2 t2 y2))]) ∧ Sl w' T k r (lOf (resN (frN s1 x1 t1 y1 * frD s2 x2 t2 y2) (frD s1 x1 t1 y1 * frN s2 x2 t2 y2))) ∧ Sl w' U l s (lOf (resD (frN s1 x1 t1 y1 * frD s2 x2 t2 y2) (frD s1 x1 t1 y1 * frN s2 x2 t2 y2))) ∧ Below w.heap.size w w' := by
  have S1 := Lib.hid ha
  have S2 := Lib.hid hb
  have S3 := Lib.hid hc
  have S4 := Lib.hid hd
  clear ha hb hc hd
  have BW := Lib.hid (Below.refl w.heap.size w)
  go_enter Tryz.func25, Tryz.ntmps25
  go_upto_region 1 with fail
  have S1 := Lib.hid (S1.out.alloc (.cells #[.bool s1, .slice A1 n1 c1, .bool t1, .slice B1 m1 d1] 26))
  have S2 := Lib.hid (S2.out.alloc (.cells #[.bool s1, .slice A1 n1 c1, .bool t1, .slice B1 m1 d1] 26))
  have S3 := Lib.hid (S3.out.alloc (.cells #[.bool s1, .slice A1 n1 c1, .bool t1, .slice B1 m1 d1] 26))
  have S4 := Lib.hid (S4.out.alloc (.cells #[.bool s1, .slice A1 n1 c1, .bool t1, .slice B1 m1 d1] 26))
  have BW := Lib.hid (BW.out.alloc BW.out.size (.cells #[.bool s1, .slice A1 n1 c1, .bool t1, .slice B1 m1 d1] 26))
  have X1 := Lib.hid (Bk.new 26 w #[.bool s1, .slice A1 n1 c1, .bool t1, .slice B1 m1 d1])
  have S1 := Lib.hid (S1.out.alloc (.cells #[.bool s2, .slice A2 n2 c2, .bool t2, .slice B2 m2 d2] 26))
  have S2 := Lib.hid (S2.out.alloc (.cells #[.bool s2, .slice A2 n2 c2, .bool t2, .slice B2 m2 d2] 26))
  have S3 := Lib.hid (S3.out.alloc (.cells #[.bool s2, .slice A2 n2 c2, .bool t2, .slice B2 m2 d2] 26))
  have S4 := Lib.hid (S4.out.alloc (.cells #[.bool s2, .slice A2 n2 c2, .bool t2, .slice B2 m2 d2] 26))
  have BW := Lib.hid (BW.out.alloc BW.out.size (.cells #[.bool s2, .slice A2 n2 c2, .bool t2, .slice B2 m2 d2] 26))
  have X1 := Lib.hid (X1.out.alloc (.cells #[.bool s2, .slice A2 n2 c2, .bool t2, .slice B2 m2 d2] 26))
  have X2 := Lib.hid (Bk.new 26 (w.alloc (.cells #[.bool s1, .slice A1 n1 c1, .bool t1, .slice B1 m1 d1] 26)) #[.bool s2, .slice A2 n2 c2, .bool t2, .slice B2 m2 d2])
  rw [alloc_sz] at X2
  have S1 := Lib.hid (S1.out.alloc (.cells #[.bool false, .slice none 0 0, .bool false, .slice none 0 0] 26))
  have S2 := Lib.hid (S2.out.alloc (.cells #[.bool false, .slice none 0 0, .bool false, .slice none 0 0] 26))
  have S3 := Lib.hid (S3.out.alloc (.cells #[.bool false, .slice none 0 0, .bool false, .slice none 0 0] 26))
  have S4 := Lib.hid (S4.out.alloc (.cells #[.bool false, .slice none 0 0, .bool false, .slice none 0 0] 26))
  have BW := Lib.hid (BW.out.alloc BW.out.size (.cells #[.bool false, .slice none 0 0, .bool false, .slice none 0 0] 26))
  have X1 := Lib.hid (X1.out.alloc (.cells #[.bool false, .slice none 0 0, .bool false, .slice none 0 0] 26))
  have X2 := Lib.hid (X2.out.alloc (.cells #[.bool false, .slice none 0 0, .bool false, .slice none 0 0] 26))
  have X3 := Lib.hid (Bk.new 26 ((w.alloc (.cells #[.bool s1, .slice A1 n1 c1, .bool t1, .slice B1 m1 d1] 26)).alloc (.cells #[.bool s2, .slice A2 n2 c2, .bool t2, .slice B2 m2 d2] 26)) #[.bool false, .slice none 0 0, .bool false, .slice none 0 0])
  rw [alloc_sz, alloc_sz] at X3
  generalize (((w.alloc (.cells #[.bool s1, .slice A1 n1 c1, .bool t1, .slice B1 m1 d1] 26)).alloc (.cells #[.bool s2, .slice A2 n2 c2, .bool t2, .slice B2 m2 d2] 26)).alloc (.cells #[.bool false, .slice none 0 0, .bool false, .slice none 0 0] 26)) = W0 at *
  go_cut [] (fun wx => PairR w w.heap.size (w.heap.size + 1) (frN s1 x1 t1 y1) (frD s1 x1 t1 y1) (frN s2 x2 t2 y2) (frD s2 x2 t2 y2) wx ∧ Bk 26 wx (w.heap.size + 1 + 1) #[.bool false, .slice none 0 0, .bool false, .slice none 0 0])
  case first =>
    have e0 : W0.cell? ⟨w.heap.size, 0, none⟩ = some (.bool s1) := X1.out.c 0 rfl
    have e1 : W0.cell? ⟨w.heap.size, 1, none⟩ = some (.slice A1 n1 c1) := X1.out.c 1 rfl
    have e2 : W0.cell? ⟨w.heap.size, 2, none⟩ = some (.bool t1) := X1.out.c 2 rfl
    have e3 : W0.cell? ⟨w.heap.size, 3, none⟩ = some (.slice B1 m1 d1) := X1.out.c 3 rfl
    have e4 : W0.cell? ⟨w.heap.size + 1, 0, none⟩ = some (.bool s2) := X2.out.c 0 rfl
    have e5 : W0.cell? ⟨w.heap.size + 1, 1, none⟩ = some (.slice A2 n2 c2) := X2.out.c 1 rfl
    have e6 : W0.cell? ⟨w.heap.size + 1, 2, none⟩ = some (.bool t2) := X2.out.c 2 rfl
    have e7 : W0.cell? ⟨w.heap.size + 1, 3, none⟩ = some (.slice B2 m2 d2) := X2.out.c 3 rfl
    go_region_with (first | (go_at_call 29; (with_reducible refine (frac_any s1 t1 A1 B1 n1 c1 m1 d1 x1 y1 _ (by first | exact S1.out | exact (S1.out).drew) (by first | exact S2.out | exact (S2.out).drew)).mono ?_); rintro e a1 ⟨T1, k1, r1, U1, l1, j1, rfl, hs, ht, hb⟩; have R1 := Lib.hid hs; have R2 := Lib.hid ht; have BB1 := Lib.hid (show Below W0.heap.size W0 a1 from (by first | exact hb | exact (Below.refl _ _).drew.trans (hb.mono (Nat.le_refl _)))); have f0 : a1.cell? ⟨w.heap.size, 0, none⟩ = some (.bool s1) := (X1.out.below BB1.out).c 0 rfl; have f1 : a1.cell? ⟨w.heap.size, 1, none⟩ = some (.slice A1 n1 c1) := (X1.out.below BB1.out).c 1 rfl; have f2 : a1.cell? ⟨w.heap.size, 2, none⟩ = some (.bool t1) := (X1.out.below BB1.out).c 2 rfl; have f3 : a1.cell? ⟨w.heap.size, 3, none⟩ = some (.slice B1 m1 d1) := (X1.out.below BB1.out).c 3 rfl; have f4 : a1.cell? ⟨w.heap.size + 1, 0, none⟩ = some (.bool s2) := (X2.out.below BB1.out).c 0 rfl; have f5 : a1.cell? ⟨w.heap.size + 1, 1, none⟩ = some (.slice A2 n2 c2) := (X2.out.below BB1.out).c 1 rfl; have f6 : a1.cell? ⟨w.heap.size + 1, 2, none⟩ = some (.bool t2) := (X2.out.below BB1.out).c 2 rfl; have f7 : a1.cell? ⟨w.heap.size + 1, 3, none⟩ = some (.slice B2 m2 d2) := (X2.out.below BB1.out).c 3 rfl; clear hs ht hb) | (go_at_call 29; (with_reducible refine (frac_any s2 t2 A2 B2 n2 c2 m2 d2 x2 y2 _ (by first | exact S3.out.below BB1.out | exact (S3.out.below BB1.out).drew) (by first | exact S4.out.below BB1.out | exact (S4.out.below BB1.out).drew)).mono ?_); rintro e a2 ⟨T2, k2, r2, U2, l2, j2, rfl, hs, ht, hb⟩; have R3 := Lib.hid hs; have R4 := Lib.hid ht; have R1 := Lib.hid (show Sl a2 _ _ _ _ from (by first | exact R1.out.below hb | exact Sl.below (w := a1.drew) R1.out.drew hb)); have R2 := Lib.hid (show Sl a2 _ _ _ _ from (by first | exact R2.out.below hb | exact Sl.below (w := a1.drew) R2.out.drew hb)); have BB2 := Lib.hid (show Below W0.heap.size W0 a2 from (by first | exact BB1.out.trans (hb.mono BB1.out.size) | exact BB1.out.drew.trans (hb.mono BB1.out.size))); have f0 : a2.cell? ⟨w.heap.size, 0, none⟩ = some (.bool s1) := (X1.out.below BB2.out).c 0 rfl; have h0 := (X1.out.below BB2.out).fz 0; have f1 : a2.cell? ⟨w.heap.size, 1, none⟩ = some (.slice A1 n1 c1) := (X1.out.below BB2.out).c 1 rfl; have h1 := (X1.out.below BB2.out).fz 1; have f2 : a2.cell? ⟨w.heap.size, 2, none⟩ = some (.bool t1) := (X1.out.below BB2.out).c 2 rfl; have h2 := (X1.out.below BB2.out).fz 2; have f3 : a2.cell? ⟨w.heap.size, 3, none⟩ = some (.slice B1 m1 d1) := (X1.out.below BB2.out).c 3 rfl; have h3 := (X1.out.below BB2.out).fz 3; have f4 : a2.cell? ⟨w.heap.size + 1, 0, none⟩ = some (.bool s2) := (X2.out.below BB2.out).c 0 rfl; have h4 := (X2.out.below BB2.out).fz 0; have f5 : a2.cell? ⟨w.heap.size + 1, 1, none⟩ = some (.slice A2 n2 c2) := (X2.out.below BB2.out).c 1 rfl; have h5 := (X2.out.below BB2.out).fz 1; have f6 : a2.cell? ⟨w.heap.size + 1, 2, none⟩ = some (.bool t2) := (X2.out.below BB2.out).c 2 rfl; have h6 := (X2.out.below BB2.out).fz 2; have f7 : a2.cell? ⟨w.heap.size + 1, 3, none⟩ = some (.slice B2 m2 d2) := (X2.out.below BB2.out).c 3 rfl; have h7 := (X2.out.below BB2.out).fz 3; clear hs ht hb))
    all_goals (go_wp2_with fail; go_meet; exact ⟨pairR_end BW.out BB2.out X1.out X2.out (by omega) (Nat.le_refl _) (by omega) R1.out R2.out R3.out R4.out, ((X3.out.below BB2.out).far4 (show w.heap.size + 1 + 1 ≠ w.heap.size by omega) _ _ _ _).far4 (show w.heap.size + 1 + 1 ≠ w.heap.size + 1 by omega) _ _ _ _⟩)
  case rest =>
    clear S1 S2 S3 S4 BW X1 X2 X3
    have FA := Lib.hid (fr_ok s1 x1 t1 y1)
    have FB := Lib.hid (fr_ok s2 x2 t2 y2)
    obtain ⟨⟨A1', n1', c1', B1', m1', d1', A2', n2', c2', B2', m2', d2', hx1, hx2, hs1, hs2, hs3, hs4, hbw⟩, hx3⟩ := hcut
    have X1 := Lib.hid hx1
    have X2 := Lib.hid hx2
    have S1 := Lib.hid hs1
    have S2 := Lib.hid hs2
    have S3 := Lib.hid hs3
    have S4 := Lib.hid hs4
    have BW := Lib.hid hbw
    have X3 := Lib.hid hx3
    clear hx1 hx2 hs1 hs2 hs3 hs4 hbw hx3
    generalize hP1 : frN s1 x1 t1 y1 = p at *
    generalize hQ1 : frD s1 x1 t1 y1 = q at *
    generalize hP2 : frN s2 x2 t2 y2 = p' at *
    generalize hQ2 : frD s2 x2 t2 y2 = q' at *
    have HP1 := Lib.hid hP1
    have HQ1 := Lib.hid hQ1
    have HP2 := Lib.hid hP2
    have HQ2 := Lib.hid hQ2
    clear hP1 hQ1 hP2 hQ2
    have HQ : Hid (q ≠ 0) := (by have := FA.out.pos; omega : q ≠ 0)
    by_cases h0 : p' = 0
    · have CZ := Lib.hid (cmpI_eq h0)
      have H0 := Lib.hid h0
      clear h0
      have e0 : wc.cell? ⟨w.heap.size + 1, 0, none⟩ = some (.bool (nOf (p'))) := X2.out.c 0 rfl
      have e1 : wc.cell? ⟨w.heap.size + 1, 1, none⟩ = some (.slice A2' n2' c2') := X2.out.c 1 rfl
      have e2 : wc.cell? ⟨w.heap.size + 1, 2, none⟩ = some (.bool (nOf (q'))) := X2.out.c 2 rfl
      have e3 : wc.cell? ⟨w.heap.size + 1, 3, none⟩ = some (.slice B2' m2' d2') := X2.out.c 3 rfl
      go_wp2_with fail
      ((with_reducible refine (sign_z p' A2' n2' c2' _ S3.out FB.out.fn).mono ?_); rintro e w3 ⟨rfl, hb⟩)
      rw [CZ.out]
      clear e0 e1 e2 e3
      have S1 := Lib.hid (S1.out.below hb)
      have S2 := Lib.hid (S2.out.below hb)
      have S3 := Lib.hid (S3.out.below hb)
      have S4 := Lib.hid (S4.out.below hb)
      have X1 := Lib.hid (X1.out.below hb)
      have X2 := Lib.hid (X2.out.below hb)
      have X3 := Lib.hid (X3.out.below hb)
      have BW := Lib.hid (below_on BW.out hb)
      clear hb
      have E := Lib.hid (res_no (res_zero (p * q')))
      have e0 : w3.cell? ⟨w.heap.size + 1 + 1, 0, none⟩ = some (.bool false) := X3.out.c 0 rfl
      have e1 : w3.cell? ⟨w.heap.size + 1 + 1, 1, none⟩ = some (.slice none 0 0) := X3.out.c 1 rfl
      have e2 : w3.cell? ⟨w.heap.size + 1 + 1, 2, none⟩ = some (.bool false) := X3.out.c 2 rfl
      have e3 : w3.cell? ⟨w.heap.size + 1 + 1, 3, none⟩ = some (.slice none 0 0) := X3.out.c 3 rfl
      have z4 := X3.out.fz 0
      have z5 := X3.out.fz 1
      have z6 := X3.out.fz 2
      have z7 := X3.out.fz 3
      go_wp2_with fail
      refine bodyPost_ret (v := .tuple #[.agg #[.bool false, .slice none 0 0, .bool false, .slice none 0 0], .bool false]) (by simp [results, Tryz.results25, go_sem, *]) rfl ⟨none, 0, 0, none, 0, 0, ?_, ?_, ?_, below_set4 BW.out (by omega) _ _ _ _⟩
      · rw [HP1.out, HQ1.out, HP2.out, HQ2.out]; rw [H0.out, Int.mul_zero, E.out.1, E.out.2, res_zero]; rfl
      · rw [HP1.out, HQ1.out, HP2.out, HQ2.out]; rw [H0.out, Int.mul_zero, E.out.1, lOf_zero]; exact Sl.nil _
      · rw [HP1.out, HQ1.out, HP2.out, HQ2.out]; rw [H0.out, Int.mul_zero, E.out.2, lOf_zero]; exact Sl.nil _
    · have CZ := cmp_zero h0
      have HX := Lib.hid h0
      clear h0
      generalize hcz : cmpI p' 0 = cz at *
      have HCZ := Lib.hid hcz
      clear hcz
      have E : Hid (resN (p * q') (q * p') = bothZ (loN p p' * (loN q' q)) (loN p p' * (loN q' q)) (loD p p' * (loD q' q)) ∧ resD (p * q') (q * p') = bothZ (loD p p' * (loD q' q)) (loN p p' * (loN q' q)) (loD p p' * (loD q' q)) ∧ resB (p * q') (q * p') = bothB (loN p p' * (loN q' q)) (loD p p' * (loD q' q))) := res_both (Int.mul_ne_zero HQ.out HX.out) (div_lo FA.out FB.out HX.out)
      have e0 : wc.cell? ⟨w.heap.size + 1, 0, none⟩ = some (.bool (nOf (p'))) := X2.out.c 0 rfl
      have e1 : wc.cell? ⟨w.heap.size + 1, 1, none⟩ = some (.slice A2' n2' c2') := X2.out.c 1 rfl
      have e2 : wc.cell? ⟨w.heap.size + 1, 2, none⟩ = some (.bool (nOf (q'))) := X2.out.c 2 rfl
      have e3 : wc.cell? ⟨w.heap.size + 1, 3, none⟩ = some (.slice B2' m2' d2') := X2.out.c 3 rfl
      go_wp2_with fail
      ((with_reducible refine (sign_z p' A2' n2' c2' _ S3.out FB.out.fn).mono ?_); rintro e w3 ⟨rfl, hb⟩)
      rw [HCZ.out]
      clear e0 e1 e2 e3
      have S1 := Lib.hid (S1.out.below hb)
      have S2 := Lib.hid (S2.out.below hb)
      have S3 := Lib.hid (S3.out.below hb)
      have S4 := Lib.hid (S4.out.below hb)
      have X1 := Lib.hid (X1.out.below hb)
      have X2 := Lib.hid (X2.out.below hb)
      have X3 := Lib.hid (X3.out.below hb)
      have BW := Lib.hid (below_on BW.out hb)
      clear hb
      go_upto_region 4 with fail
      have e0 : w3.cell? ⟨w.heap.size, 0, none⟩ = some (.bool (nOf (p))) := X1.out.c 0 rfl
      have e1 : w3.cell? ⟨w.heap.size, 1, none⟩ = some (.slice A1' n1' c1') := X1.out.c 1 rfl
      have e2 : w3.cell? ⟨w.heap.size, 2, none⟩ = some (.bool (nOf (q))) := X1.out.c 2 rfl
      have e3 : w3.cell? ⟨w.heap.size, 3, none⟩ = some (.slice B1' m1' d1') := X1.out.c 3 rfl
      have e4 : w3.cell? ⟨w.heap.size + 1, 0, none⟩ = some (.bool (nOf (p'))) := X2.out.c 0 rfl
      have e5 : w3.cell? ⟨w.heap.size + 1, 1, none⟩ = some (.slice A2' n2' c2') := X2.out.c 1 rfl
      have e6 : w3.cell? ⟨w.heap.size + 1, 2, none⟩ = some (.bool (nOf (q'))) := X2.out.c 2 rfl
      have e7 : w3.cell? ⟨w.heap.size + 1, 3, none⟩ = some (.slice B2' m2' d2') := X2.out.c 3 rfl
      have iq1 : ¬ w.heap.size + 1 + 1 = w.heap.size := by omega
      have ir1 : ¬ w.heap.size = w.heap.size + 1 + 1 := by omega
      have iq2 : ¬ w.heap.size + 1 + 1 = w.heap.size + 1 := by omega
      have ir2 : ¬ w.heap.size + 1 = w.heap.size + 1 + 1 := by omega
      go_region_held3 (fun w' => w'.cell? ⟨w.heap.size, 0, none⟩ = some (.bool (nOf (p))) ∧ w'.cell? ⟨w.heap.size, 1, none⟩ = some (.slice A1' n1' c1') ∧ w'.cell? ⟨w.heap.size, 2, none⟩ = some (.bool (nOf (q))) ∧ w'.cell? ⟨w.heap.size, 3, none⟩ = some (.slice B1' m1' d1') ∧ w'.cell? ⟨w.heap.size + 1, 0, none⟩ = some (.bool (nOf (p'))) ∧ w'.cell? ⟨w.heap.size + 1, 1, none⟩ = some (.slice A2' n2' c2') ∧ w'.cell? ⟨w.heap.size + 1, 2, none⟩ = some (.bool (nOf (q'))) ∧ w'.cell? ⟨w.heap.size + 1, 3, none⟩ = some (.slice B2' m2' d2')) (go_keep)
        (first | (go_at_call 46; (with_reducible refine (low_any p p' A1' A2' n1' c1' n2' c2' _ (by first | exact S1.out | exact S1.out.drew) (by first | exact S3.out | exact S3.out.drew) FA.out.fn FB.out.fn HX.out).mono ?_); rintro e a1 ⟨T1, k1, r1, U1, l1, j1, rfl, hs, ht, hb⟩; have BB1 := Lib.hid (show Below w3.heap.size w3 a1 from (by first | exact hb | exact (Below.refl _ _).drew.trans (hb.mono (Nat.le_refl _)))); have R1 := Lib.hid hs; clear hs; have R2 := Lib.hid ht; clear ht; have f0 : a1.cell? ⟨w.heap.size, 0, none⟩ = some (.bool (nOf (p))) := (X1.out.below BB1.out).c 0 rfl; have f1 : a1.cell? ⟨w.heap.size, 1, none⟩ = some (.slice A1' n1' c1') := (X1.out.below BB1.out).c 1 rfl; have f2 : a1.cell? ⟨w.heap.size, 2, none⟩ = some (.bool (nOf (q))) := (X1.out.below BB1.out).c 2 rfl; have f3 : a1.cell? ⟨w.heap.size, 3, none⟩ = some (.slice B1' m1' d1') := (X1.out.below BB1.out).c 3 rfl; have f4 : a1.cell? ⟨w.heap.size + 1, 0, none⟩ = some (.bool (nOf (p'))) := (X2.out.below BB1.out).c 0 rfl; have f5 : a1.cell? ⟨w.heap.size + 1, 1, none⟩ = some (.slice A2' n2' c2') := (X2.out.below BB1.out).c 1 rfl; have f6 : a1.cell? ⟨w.heap.size + 1, 2, none⟩ = some (.bool (nOf (q'))) := (X2.out.below BB1.out).c 2 rfl; have f7 : a1.cell? ⟨w.heap.size + 1, 3, none⟩ = some (.slice B2' m2' d2') := (X2.out.below BB1.out).c 3 rfl; have g0 : a1.cell? ⟨w.heap.size + 1 + 1, 0, none⟩ = some (.bool false) := (X3.out.below BB1.out).c 0 rfl; have h0 := (X3.out.below BB1.out).fz 0; have g1 : a1.cell? ⟨w.heap.size + 1 + 1, 1, none⟩ = some (.slice none 0 0) := (X3.out.below BB1.out).c 1 rfl; have h1 := (X3.out.below BB1.out).fz 1; have g2 : a1.cell? ⟨w.heap.size + 1 + 1, 2, none⟩ = some (.bool false) := (X3.out.below BB1.out).c 2 rfl; have h2 := (X3.out.below BB1.out).fz 2; have g3 : a1.cell? ⟨w.heap.size + 1 + 1, 3, none⟩ = some (.slice none 0 0) := (X3.out.below BB1.out).c 3 rfl; have h3 := (X3.out.below BB1.out).fz 3; clear hb) | (go_at_call 46; (with_reducible refine (low_any q' q B2' B1' m2' d2' m1' d1' _ (S4.out.below BB1.out) (S2.out.below BB1.out) FB.out.fd FA.out.fd HQ.out).mono ?_); rintro e a2 ⟨T2, k2, r2, U2, l2, j2, rfl, hs, ht, hb⟩; have BB2 := Lib.hid (below_up BB1.out hb); have R1 := Lib.hid (R1.out.below hb); have R2 := Lib.hid (R2.out.below hb); have R3 := Lib.hid hs; clear hs; have R4 := Lib.hid ht; clear ht; have f0 : a2.cell? ⟨w.heap.size, 0, none⟩ = some (.bool (nOf (p))) := (X1.out.below BB2.out).c 0 rfl; have f1 : a2.cell? ⟨w.heap.size, 1, none⟩ = some (.slice A1' n1' c1') := (X1.out.below BB2.out).c 1 rfl; have f2 : a2.cell? ⟨w.heap.size, 2, none⟩ = some (.bool (nOf (q))) := (X1.out.below BB2.out).c 2 rfl; have f3 : a2.cell? ⟨w.heap.size, 3, none⟩ = some (.slice B1' m1' d1') := (X1.out.below BB2.out).c 3 rfl; have f4 : a2.cell? ⟨w.heap.size + 1, 0, none⟩ = some (.bool (nOf (p'))) := (X2.out.below BB2.out).c 0 rfl; have f5 : a2.cell? ⟨w.heap.size + 1, 1, none⟩ = some (.slice A2' n2' c2') := (X2.out.below BB2.out).c 1 rfl; have f6 : a2.cell? ⟨w.heap.size + 1, 2, none⟩ = some (.bool (nOf (q'))) := (X2.out.below BB2.out).c 2 rfl; have f7 : a2.cell? ⟨w.heap.size + 1, 3, none⟩ = some (.slice B2' m2' d2') := (X2.out.below BB2.out).c 3 rfl; have g0 : a2.cell? ⟨w.heap.size + 1 + 1, 0, none⟩ = some (.bool false) := (X3.out.below BB2.out).c 0 rfl; have h0 := (X3.out.below BB2.out).fz 0; have g1 : a2.cell? ⟨w.heap.size + 1 + 1, 1, none⟩ = some (.slice none 0 0) := (X3.out.below BB2.out).c 1 rfl; have h1 := (X3.out.below BB2.out).fz 1; have g2 : a2.cell? ⟨w.heap.size + 1 + 1, 2, none⟩ = some (.bool false) := (X3.out.below BB2.out).c 2 rfl; have h2 := (X3.out.below BB2.out).fz 2; have g3 : a2.cell? ⟨w.heap.size + 1 + 1, 3, none⟩ = some (.slice none 0 0) := (X3.out.below BB2.out).c 3 rfl; have h3 := (X3.out.below BB2.out).fz 3; clear hb) | (go_at_call 49; (with_reducible refine (prod_any (loN p p') (loD p p') (loN q' q) (loD q' q) T1 U1 T2 U2 k1 r1 l1 j1 k2 r2 l2 j2 _ R1.out R2.out R3.out R4.out (fit_loN HX.out FA.out.fn) (fit_loD HX.out FB.out.fn) (fit_loN HQ.out FB.out.fd) (fit_loD HQ.out FA.out.fd)).mono ?_); rintro e a3 ⟨T3, k3, r3, U3, l3, j3, rfl, hs, ht, hb⟩; have BB3 := Lib.hid (below_up BB2.out hb); have R1 := Lib.hid (R1.out.below hb); have R2 := Lib.hid (R2.out.below hb); have R3 := Lib.hid (R3.out.below hb); have R4 := Lib.hid (R4.out.below hb); have R5 := Lib.hid hs; clear hs; have R6 := Lib.hid ht; clear ht; have f0 : a3.cell? ⟨w.heap.size, 0, none⟩ = some (.bool (nOf (p))) := (X1.out.below BB3.out).c 0 rfl; have f1 : a3.cell? ⟨w.heap.size, 1, none⟩ = some (.slice A1' n1' c1') := (X1.out.below BB3.out).c 1 rfl; have f2 : a3.cell? ⟨w.heap.size, 2, none⟩ = some (.bool (nOf (q))) := (X1.out.below BB3.out).c 2 rfl; have f3 : a3.cell? ⟨w.heap.size, 3, none⟩ = some (.slice B1' m1' d1') := (X1.out.below BB3.out).c 3 rfl; have f4 : a3.cell? ⟨w.heap.size + 1, 0, none⟩ = some (.bool (nOf (p'))) := (X2.out.below BB3.out).c 0 rfl; have f5 : a3.cell? ⟨w.heap.size + 1, 1, none⟩ = some (.slice A2' n2' c2') := (X2.out.below BB3.out).c 1 rfl; have f6 : a3.cell? ⟨w.heap.size + 1, 2, none⟩ = some (.bool (nOf (q'))) := (X2.out.below BB3.out).c 2 rfl; have f7 : a3.cell? ⟨w.heap.size + 1, 3, none⟩ = some (.slice B2' m2' d2') := (X2.out.below BB3.out).c 3 rfl; have g0 : a3.cell? ⟨w.heap.size + 1 + 1, 0, none⟩ = some (.bool false) := (X3.out.below BB3.out).c 0 rfl; have h0 := (X3.out.below BB3.out).fz 0; have g1 : a3.cell? ⟨w.heap.size + 1 + 1, 1, none⟩ = some (.slice none 0 0) := (X3.out.below BB3.out).c 1 rfl; have h1 := (X3.out.below BB3.out).fz 1; have g2 : a3.cell? ⟨w.heap.size + 1 + 1, 2, none⟩ = some (.bool false) := (X3.out.below BB3.out).c 2 rfl; have h2 := (X3.out.below BB3.out).fz 2; have g3 : a3.cell? ⟨w.heap.size + 1 + 1, 3, none⟩ = some (.slice none 0 0) := (X3.out.below BB3.out).c 3 rfl; have h3 := (X3.out.below BB3.out).fz 3; clear hb))
      clear e0 e1 e2 e3 e4 e5 e6 e7 iq1 ir1 iq2 ir2
      try clear f0 f1 f2 f3 f4 f5 f6 f7
      have S1 := Lib.hid (S1.out.below BB3.out)
      have S2 := Lib.hid (S2.out.below BB3.out)
      have S3 := Lib.hid (S3.out.below BB3.out)
      have S4 := Lib.hid (S4.out.below BB3.out)
      have X1 := Lib.hid (X1.out.below BB3.out)
      have X2 := Lib.hid (X2.out.below BB3.out)
      have X3 := Lib.hid (X3.out.below BB3.out)
      have BW := Lib.hid (below_on BW.out BB3.out)
      go_wp2_with fail
      refine bodyPost_ret (v := .tuple #[.agg #[.bool (nOf (bothZ (loN p p' * (loN q' q)) (loN p p' * (loN q' q)) (loD p p' * (loD q' q)))), .slice T3 k3 r3, .bool (nOf (bothZ (loD p p' * (loD q' q)) (loN p p' * (loN q' q)) (loD p p' * (loD q' q)))), .slice U3 l3 j3], .bool (bothB (loN p p' * (loN q' q)) (loD p p' * (loD q' q)))]) (by simp [results, Tryz.results25, go_sem, *]) rfl ⟨T3, k3, r3, U3, l3, j3, ?_, ?_, ?_, below_set4 BW.out (by omega) _ _ _ _⟩
      · rw [HP1.out, HQ1.out, HP2.out, HQ2.out]; rw [E.out.1, E.out.2.1, E.out.2.2]
      · rw [HP1.out, HQ1.out, HP2.out, HQ2.out]; rw [show lOf (resN (p * q') (q * p')) = lOf (bothZ (loN p p' * (loN q' q)) (loN p p' * (loN q' q)) (loD p p' * (loD q' q))) by rw [E.out.1]]; exact R5.out.bk4 X3.out _ _ _ _
      · rw [HP1.out, HQ1.out, HP2.out, HQ2.out]; rw [show lOf (resD (p * q') (q * p')) = lOf (bothZ (loD p p' * (loD q' q)) (loN p p' * (loN q' q)) (loD p p' * (loD q' q))) by rw [E.out.2.1]]; exact R6.out.bk4 X3.out _ _ _ _

theorem floor_any (na nb : Bool) (A B : Option Addr) (n c m d : Nat) (xs ys : List Int) (w : World) (ha : Sl w A n c xs) (hb : Sl w B m d ys) :
    Calls Tryz.prog 15 #[.agg #[.bool na, .slice A n c, .bool nb, .slice B m d]] w fun e w' => ∃ T k r, e = .returned (.agg #[.bool (nOf (qZ (frN na xs nb ys) (frD na xs nb ys))), .slice T k r]) ∧ Sl w' T k r (lOf (qZ (frN na xs nb ys) (frD na xs nb ys))) ∧ Below w.heap.size w w' := by
  have S1 := Lib.hid ha
  have S2 := Lib.hid hb
  clear ha hb
  have FA := Lib.hid (fr_ok na xs nb ys)
  have BW := Lib.hid (Below.refl w.heap.size w)
  go_enter Tryz.func15, Tryz.ntmps15
  go_upto_region 1 with fail
  have S1 := Lib.hid (S1.out.alloc (.cells #[.bool na, .slice A n c, .bool nb, .slice B m d] 26))
  have S2 := Lib.hid (S2.out.alloc (.cells #[.bool na, .slice A n c, .bool nb, .slice B m d] 26))
  have BW := Lib.hid (BW.out.alloc BW.out.size (.cells #[.bool na, .slice A n c, .bool nb, .slice B m d] 26))
  have X1 := Lib.hid (Bk.new 26 w #[.bool na, .slice A n c, .bool nb, .slice B m d])
  have S1 := Lib.hid (S1.out.alloc (.cells #[.bool false, .slice none 0 0] 24))
  have S2 := Lib.hid (S2.out.alloc (.cells #[.bool false, .slice none 0 0] 24))
  have BW := Lib.hid (BW.out.alloc BW.out.size (.cells #[.bool false, .slice none 0 0] 24))
  have X1 := Lib.hid (X1.out.alloc (.cells #[.bool false, .slice none 0 0] 24))
  have X2 := Lib.hid (Bk.new 24 (w.alloc (.cells #[.bool na, .slice A n c, .bool nb, .slice B m d] 26)) #[.bool false, .slice none 0 0])
  rw [alloc_sz] at X2
  generalize ((w.alloc (.cells #[.bool na, .slice A n c, .bool nb, .slice B m d] 26)).alloc (.cells #[.bool false, .slice none 0 0] 24)) = W0 at *
  have e0 : W0.cell? ⟨w.heap.size, 0, none⟩ = some (.bool na) := X1.out.c 0 rfl
  have e1 : W0.cell? ⟨w.heap.size, 1, none⟩ = some (.slice A n c) := X1.out.c 1 rfl
  have e2 : W0.cell? ⟨w.heap.size, 2, none⟩ = some (.bool nb) := X1.out.c 2 rfl
  have e3 : W0.cell? ⟨w.heap.size, 3, none⟩ = some (.slice B m d) := X1.out.c 3 rfl
  go_wp2_with fail
  ((with_reducible refine (frac_any na nb A B n c m d xs ys _ S1.out S2.out).mono ?_); rintro e w1 ⟨T1, k1, r1, U1, l1, j1, rfl, hs, ht, hb⟩)
  clear e0 e1 e2 e3
  have S1 := Lib.hid (S1.out.below hb)
  have S2 := Lib.hid (S2.out.below hb)
  have BW := Lib.hid (below_on BW.out hb)
  have X1 := Lib.hid (X1.out.below hb)
  have X2 := Lib.hid (X2.out.below hb)
  clear hb
  have S3 := Lib.hid hs
  have S4 := Lib.hid ht
  clear hs ht
  have e0 : w1.cell? ⟨w.heap.size, 0, none⟩ = some (.bool na) := X1.out.c 0 rfl
  have e1 : w1.cell? ⟨w.heap.size, 1, none⟩ = some (.slice A n c) := X1.out.c 1 rfl
  have e2 : w1.cell? ⟨w.heap.size, 2, none⟩ = some (.bool nb) := X1.out.c 2 rfl
  have e3 : w1.cell? ⟨w.heap.size, 3, none⟩ = some (.slice B m d) := X1.out.c 3 rfl
  have z4 := X1.out.fz 0
  have z5 := X1.out.fz 1
  have z6 := X1.out.fz 2
  have z7 := X1.out.fz 3
  go_upto_region 2 with fail
  clear e0 e1 e2 e3 z4 z5 z6 z7
  have S1 := Lib.hid (S1.out.bk4 X1.out (.bool (nOf (frN na xs nb ys))) (.slice T1 k1 r1) (.bool (nOf (frD na xs nb ys))) (.slice U1 l1 j1))
  have S2 := Lib.hid (S2.out.bk4 X1.out (.bool (nOf (frN na xs nb ys))) (.slice T1 k1 r1) (.bool (nOf (frD na xs nb ys))) (.slice U1 l1 j1))
  have BW := Lib.hid (below_set4 BW.out (show w.heap.size ≤ w.heap.size by omega) (.bool (nOf (frN na xs nb ys))) (.slice T1 k1 r1) (.bool (nOf (frD na xs nb ys))) (.slice U1 l1 j1))
  have X2 := Lib.hid (X2.out.far4 (show w.heap.size + 1 ≠ w.heap.size by omega) (.bool (nOf (frN na xs nb ys))) (.slice T1 k1 r1) (.bool (nOf (frD na xs nb ys))) (.slice U1 l1 j1))
  have S3 := Lib.hid (S3.out.bk4 X1.out (.bool (nOf (frN na xs nb ys))) (.slice T1 k1 r1) (.bool (nOf (frD na xs nb ys))) (.slice U1 l1 j1))
  have S4 := Lib.hid (S4.out.bk4 X1.out (.bool (nOf (frN na xs nb ys))) (.slice T1 k1 r1) (.bool (nOf (frD na xs nb ys))) (.slice U1 l1 j1))
  have X1 := Lib.hid (X1.out.set4 (.bool (nOf (frN na xs nb ys))) (.slice T1 k1 r1) (.bool (nOf (frD na xs nb ys))) (.slice U1 l1 j1))
  generalize ((((w1.setCell ⟨w.heap.size, 0, none⟩ (.bool (nOf (frN na xs nb ys)))).setCell ⟨w.heap.size, 1, none⟩ (.slice T1 k1 r1)).setCell ⟨w.heap.size, 2, none⟩ (.bool (nOf (frD na xs nb ys)))).setCell ⟨w.heap.size, 3, none⟩ (.slice U1 l1 j1)) = W1 at *
  have e0 : W1.cell? ⟨w.heap.size, 0, none⟩ = some (.bool (nOf (frN na xs nb ys))) := X1.out.c 0 rfl
  have e1 : W1.cell? ⟨w.heap.size, 1, none⟩ = some (.slice T1 k1 r1) := X1.out.c 1 rfl
  have e2 : W1.cell? ⟨w.heap.size, 2, none⟩ = some (.bool (nOf (frD na xs nb ys))) := X1.out.c 2 rfl
  have e3 : W1.cell? ⟨w.heap.size, 3, none⟩ = some (.slice U1 l1 j1) := X1.out.c 3 rfl
  go_wp2_with fail
  ((with_reducible refine (quot_z (frD na xs nb ys) (frN na xs nb ys) U1 T1 l1 j1 k1 r1 _ S4.out S3.out FA.out.fd FA.out.fn).mono ?_); rintro e w2 ⟨T, k, r, rfl, hs, hb⟩)
  clear e0 e1 e2 e3
  have S1 := Lib.hid (S1.out.below hb)
  have S2 := Lib.hid (S2.out.below hb)
  have BW := Lib.hid (below_on BW.out hb)
  have X1 := Lib.hid (X1.out.below hb)
  have X2 := Lib.hid (X2.out.below hb)
  have S3 := Lib.hid (S3.out.below hb)
  have S4 := Lib.hid (S4.out.below hb)
  clear hb
  have S5 := Lib.hid hs
  clear hs
  have e0 : w2.cell? ⟨w.heap.size + 1, 0, none⟩ = some (.bool false) := X2.out.c 0 rfl
  have e1 : w2.cell? ⟨w.heap.size + 1, 1, none⟩ = some (.slice none 0 0) := X2.out.c 1 rfl
  have z2 := X2.out.fz 0
  have z3 := X2.out.fz 1
  go_wp2_with fail
  refine bodyPost_ret (v := .agg #[.bool (nOf (qZ (frN na xs nb ys) (frD na xs nb ys))), .slice T k r]) (by simp [results, Tryz.results15, go_sem, *]) rfl ⟨T, k, r, rfl, S5.out.bk2 X2.out _ _, below_set2 BW.out (by omega) _ _⟩

theorem floor_z (p q : Int) (A B : Option Addr) (n c m d : Nat) (w : World) (ha : Sl w A n c (lOf p)) (hb : Sl w B m d (lOf q)) (h : Fr p q) :
    Calls Tryz.prog 15 #[.agg #[.bool (nOf p), .slice A n c, .bool (nOf q), .slice B m d]] w fun e w' => ∃ T k r, e = .returned (.agg #[.bool (nOf (qZ p q)), .slice T k r]) ∧ Sl w' T k r (lOf (qZ p q)) ∧ Below w.heap.size w w' := by
  have hc := floor_any (nOf p) (nOf q) A B n c m d (lOf p) (lOf q) w ha hb
  rw [(fr_of h).1, (fr_of h).2] at hc
  exact hc

theorem ceil_any (na nb : Bool) (A B : Option Addr) (n c m d : Nat) (xs ys : List Int) (w : World) (ha : Sl w A n c xs) (hb : Sl w B m d ys) :
    Calls Tryz.prog 17 #[.agg #[.bool na, .slice A n c, .bool nb, .slice B m d]] w fun e w' => ∃ T k r, e = .returned (.agg #[.bool (nOf (-qZ (-frN na xs nb ys) (frD na xs nb ys))), .slice T k r]) ∧ Sl w' T k r (lOf (-qZ (-frN na xs nb ys) (frD na xs nb ys))) ∧ Below w.heap.size w w' := by
  have S1 := Lib.hid ha
  have S2 := Lib.hid hb
  clear ha hb
  have FA := Lib.hid (fr_ok na xs nb ys)
  have BW := Lib.hid (Below.refl w.heap.size w)
  go_enter Tryz.func17, Tryz.ntmps17
  go_upto_region 1 with fail
  have S1 := Lib.hid (S1.out.alloc (.cells #[.bool na, .slice A n c, .bool nb, .slice B m d] 26))
  have S2 := Lib.hid (S2.out.alloc (.cells #[.bool na, .slice A n c, .bool nb, .slice B m d] 26))
  have BW := Lib.hid (BW.out.alloc BW.out.size (.cells #[.bool na, .slice A n c, .bool nb, .slice B m d] 26))
  have X1 := Lib.hid (Bk.new 26 w #[.bool na, .slice A n c, .bool nb, .slice B m d])
  have S1 := Lib.hid (S1.out.alloc (.cells #[.bool false, .slice none 0 0] 24))
  have S2 := Lib.hid (S2.out.alloc (.cells #[.bool false, .slice none 0 0] 24))
  have BW := Lib.hid (BW.out.alloc BW.out.size (.cells #[.bool false, .slice none 0 0] 24))
  have X1 := Lib.hid (X1.out.alloc (.cells #[.bool false, .slice none 0 0] 24))
  have X2 := Lib.hid (Bk.new 24 (w.alloc (.cells #[.bool na, .slice A n c, .bool nb, .slice B m d] 26)) #[.bool false, .slice none 0 0])
  rw [alloc_sz] at X2
  generalize ((w.alloc (.cells #[.bool na, .slice A n c, .bool nb, .slice B m d] 26)).alloc (.cells #[.bool false, .slice none 0 0] 24)) = W0 at *
  have e0 : W0.cell? ⟨w.heap.size, 0, none⟩ = some (.bool na) := X1.out.c 0 rfl
  have e1 : W0.cell? ⟨w.heap.size, 1, none⟩ = some (.slice A n c) := X1.out.c 1 rfl
  have e2 : W0.cell? ⟨w.heap.size, 2, none⟩ = some (.bool nb) := X1.out.c 2 rfl
  have e3 : W0.cell? ⟨w.heap.size, 3, none⟩ = some (.slice B m d) := X1.out.c 3 rfl
  go_wp2_with fail
  ((with_reducible refine (frac_any na nb A B n c m d xs ys _ S1.out S2.out).mono ?_); rintro e w1 ⟨T1, k1, r1, U1, l1, j1, rfl, hs, ht, hb⟩)
  clear e0 e1 e2 e3
  have S1 := Lib.hid (S1.out.below hb)
  have S2 := Lib.hid (S2.out.below hb)
  have BW := Lib.hid (below_on BW.out hb)
  have X1 := Lib.hid (X1.out.below hb)
  have X2 := Lib.hid (X2.out.below hb)
  clear hb
  have S3 := Lib.hid hs
  have S4 := Lib.hid ht
  clear hs ht
  have e0 : w1.cell? ⟨w.heap.size, 0, none⟩ = some (.bool na) := X1.out.c 0 rfl
  have e1 : w1.cell? ⟨w.heap.size, 1, none⟩ = some (.slice A n c) := X1.out.c 1 rfl
  have e2 : w1.cell? ⟨w.heap.size, 2, none⟩ = some (.bool nb) := X1.out.c 2 rfl
  have e3 : w1.cell? ⟨w.heap.size, 3, none⟩ = some (.slice B m d) := X1.out.c 3 rfl
  go_wp2_with fail
  ((with_reducible refine (opp_any (frN na xs nb ys) (frD na xs nb ys) T1 U1 k1 r1 l1 j1 _ S3.out S4.out FA.out.fn).mono ?_); rintro e w2 ⟨T2, k2, r2, U2, l2, j2, rfl, hs, ht, hb⟩)
  clear e0 e1 e2 e3
  have S1 := Lib.hid (S1.out.below hb)
  have S2 := Lib.hid (S2.out.below hb)
  have BW := Lib.hid (below_on BW.out hb)
  have X1 := Lib.hid (X1.out.below hb)
  have X2 := Lib.hid (X2.out.below hb)
  have S3 := Lib.hid (S3.out.below hb)
  have S4 := Lib.hid (S4.out.below hb)
  clear hb
  have S5 := Lib.hid hs
  have S6 := Lib.hid ht
  clear hs ht
  have e0 : w2.cell? ⟨w.heap.size, 0, none⟩ = some (.bool na) := X1.out.c 0 rfl
  have e1 : w2.cell? ⟨w.heap.size, 1, none⟩ = some (.slice A n c) := X1.out.c 1 rfl
  have e2 : w2.cell? ⟨w.heap.size, 2, none⟩ = some (.bool nb) := X1.out.c 2 rfl
  have e3 : w2.cell? ⟨w.heap.size, 3, none⟩ = some (.slice B m d) := X1.out.c 3 rfl
  go_wp2_with fail
  ((with_reducible refine (floor_z (-(frN na xs nb ys)) (frD na xs nb ys) T2 U2 k2 r2 l2 j2 _ S5.out S6.out FA.out.neg).mono ?_); rintro e w3 ⟨T3, k3, r3, rfl, hs, hb⟩)
  clear e0 e1 e2 e3
  have S1 := Lib.hid (S1.out.below hb)
  have S2 := Lib.hid (S2.out.below hb)
  have BW := Lib.hid (below_on BW.out hb)
  have X1 := Lib.hid (X1.out.below hb)
  have X2 := Lib.hid (X2.out.below hb)
  have S3 := Lib.hid (S3.out.below hb)
  have S4 := Lib.hid (S4.out.below hb)
  have S5 := Lib.hid (S5.out.below hb)
  have S6 := Lib.hid (S6.out.below hb)
  clear hb
  have S7 := Lib.hid hs
  clear hs
  have e0 : w3.cell? ⟨w.heap.size, 0, none⟩ = some (.bool na) := X1.out.c 0 rfl
  have e1 : w3.cell? ⟨w.heap.size, 1, none⟩ = some (.slice A n c) := X1.out.c 1 rfl
  have e2 : w3.cell? ⟨w.heap.size, 2, none⟩ = some (.bool nb) := X1.out.c 2 rfl
  have e3 : w3.cell? ⟨w.heap.size, 3, none⟩ = some (.slice B m d) := X1.out.c 3 rfl
  go_wp2_with fail
  ((with_reducible refine (neg_z (qZ (-(frN na xs nb ys)) (frD na xs nb ys)) T3 k3 r3 _ S7.out (fit_qZ FA.out.neg)).mono ?_); rintro e w4 ⟨T, k, r, rfl, hs, hb⟩)
  clear e0 e1 e2 e3
  have S1 := Lib.hid (S1.out.below hb)
  have S2 := Lib.hid (S2.out.below hb)
  have BW := Lib.hid (below_on BW.out hb)
  have X1 := Lib.hid (X1.out.below hb)
  have X2 := Lib.hid (X2.out.below hb)
  have S3 := Lib.hid (S3.out.below hb)
  have S4 := Lib.hid (S4.out.below hb)
  have S5 := Lib.hid (S5.out.below hb)
  have S6 := Lib.hid (S6.out.below hb)
  have S7 := Lib.hid (S7.out.below hb)
  clear hb
  have S8 := Lib.hid hs
  clear hs
  have e0 : w4.cell? ⟨w.heap.size + 1, 0, none⟩ = some (.bool false) := X2.out.c 0 rfl
  have e1 : w4.cell? ⟨w.heap.size + 1, 1, none⟩ = some (.slice none 0 0) := X2.out.c 1 rfl
  have z2 := X2.out.fz 0
  have z3 := X2.out.fz 1
  go_wp2_with fail
  refine bodyPost_ret (v := .agg #[.bool (nOf (-qZ (-frN na xs nb ys) (frD na xs nb ys))), .slice T k r]) (by simp [results, Tryz.results17, go_sem, *]) rfl ⟨T, k, r, rfl, S8.out.bk2 X2.out _ _, below_set2 BW.out (by omega) _ _⟩
end Go.Proofs.YtfenmogbellhdaaGreatDoor
