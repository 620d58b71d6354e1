/-
  Contracts of rat's Cmp and Text.
-/
import Derived.Test.YtfenmogbellhdaaGreatDoorRatG
import Derived.Test.YtfenmogbellhdaaGreatDoorBigY
import Derived.Laws.Concat
namespace Go.Proofs.YtfenmogbellhdaaGreatDoor
open Go.RowKit

set_option maxHeartbeats 2000000 in
theorem rcmp_any (s1 t1 s2 t2 : Bool) (A1 B1 A2 B2 : Option Addr) (n1 c1 m1 d1 n2 c2 m2 d2 : Nat) (x1 y1 x2 y2 : List Int) (w : World) (ha : Sl w A1 n1 c1 x1) (hb : Sl w B1 m1 d1 y1) (hc : Sl w A2 n2 c2 x2) (hd : Sl w B2 m2 d2 y2) :
    Calls Tryz.prog 12 #[.agg #[.bool s1, .slice A1 n1 c1, .bool t1, .slice B1 m1 d1], .agg #[.bool s2, .slice A2 n2 c2, .bool t2, .slice B2 m2 d2]] w fun e w' => e = .returned (.int .i64 (cmpI (frN s1 x1 t1 y1 * frD s2 x2 t2 y2) (frN s2 x2 t2 y2 * frD s1 x1 t1 y1))) ∧ Below w.heap.size w w' := by
  have S1 := Lib.hid ha
  have S2 := Lib.hid hb
  have S3 := Lib.hid hc
  have S4 := Lib.hid hd
  clear ha hb hc hd
  have BW := Lib.hid (Below.refl w.heap.size w)
  go_enter Tryz.func12, Tryz.ntmps12
  go_upto_region 1 with fail
  have S1 := Lib.hid (S1.out.alloc (.cells #[.bool s1, .slice A1 n1 c1, .bool t1, .slice B1 m1 d1] 26))
  have S2 := Lib.hid (S2.out.alloc (.cells #[.bool s1, .slice A1 n1 c1, .bool t1, .slice B1 m1 d1] 26))
  have S3 := Lib.hid (S3.out.alloc (.cells #[.bool s1, .slice A1 n1 c1, .bool t1, .slice B1 m1 d1] 26))
  have S4 := Lib.hid (S4.out.alloc (.cells #[.bool s1, .slice A1 n1 c1, .bool t1, .slice B1 m1 d1] 26))
  have BW := Lib.hid (BW.out.alloc BW.out.size (.cells #[.bool s1, .slice A1 n1 c1, .bool t1, .slice B1 m1 d1] 26))
  have X1 := Lib.hid (Bk.new 26 w #[.bool s1, .slice A1 n1 c1, .bool t1, .slice B1 m1 d1])
  have S1 := Lib.hid (S1.out.alloc (.cells #[.bool s2, .slice A2 n2 c2, .bool t2, .slice B2 m2 d2] 26))
  have S2 := Lib.hid (S2.out.alloc (.cells #[.bool s2, .slice A2 n2 c2, .bool t2, .slice B2 m2 d2] 26))
  have S3 := Lib.hid (S3.out.alloc (.cells #[.bool s2, .slice A2 n2 c2, .bool t2, .slice B2 m2 d2] 26))
  have S4 := Lib.hid (S4.out.alloc (.cells #[.bool s2, .slice A2 n2 c2, .bool t2, .slice B2 m2 d2] 26))
  have BW := Lib.hid (BW.out.alloc BW.out.size (.cells #[.bool s2, .slice A2 n2 c2, .bool t2, .slice B2 m2 d2] 26))
  have X1 := Lib.hid (X1.out.alloc (.cells #[.bool s2, .slice A2 n2 c2, .bool t2, .slice B2 m2 d2] 26))
  have X2 := Lib.hid (Bk.new 26 (w.alloc (.cells #[.bool s1, .slice A1 n1 c1, .bool t1, .slice B1 m1 d1] 26)) #[.bool s2, .slice A2 n2 c2, .bool t2, .slice B2 m2 d2])
  rw [alloc_sz] at X2
  generalize ((w.alloc (.cells #[.bool s1, .slice A1 n1 c1, .bool t1, .slice B1 m1 d1] 26)).alloc (.cells #[.bool s2, .slice A2 n2 c2, .bool t2, .slice B2 m2 d2] 26)) = W0 at *
  go_cut [] (fun wx => PairR w w.heap.size (w.heap.size + 1) (frN s1 x1 t1 y1) (frD s1 x1 t1 y1) (frN s2 x2 t2 y2) (frD s2 x2 t2 y2) wx)
  case first =>
    have e0 : W0.cell? ⟨w.heap.size, 0, none⟩ = some (.bool s1) := X1.out.c 0 rfl
    have e1 : W0.cell? ⟨w.heap.size, 1, none⟩ = some (.slice A1 n1 c1) := X1.out.c 1 rfl
    have e2 : W0.cell? ⟨w.heap.size, 2, none⟩ = some (.bool t1) := X1.out.c 2 rfl
    have e3 : W0.cell? ⟨w.heap.size, 3, none⟩ = some (.slice B1 m1 d1) := X1.out.c 3 rfl
    have e4 : W0.cell? ⟨w.heap.size + 1, 0, none⟩ = some (.bool s2) := X2.out.c 0 rfl
    have e5 : W0.cell? ⟨w.heap.size + 1, 1, none⟩ = some (.slice A2 n2 c2) := X2.out.c 1 rfl
    have e6 : W0.cell? ⟨w.heap.size + 1, 2, none⟩ = some (.bool t2) := X2.out.c 2 rfl
    have e7 : W0.cell? ⟨w.heap.size + 1, 3, none⟩ = some (.slice B2 m2 d2) := X2.out.c 3 rfl
    go_region_with (first | (go_at_call 29; (with_reducible refine (frac_any s1 t1 A1 B1 n1 c1 m1 d1 x1 y1 _ (by first | exact S1.out | exact (S1.out).drew) (by first | exact S2.out | exact (S2.out).drew)).mono ?_); rintro e a1 ⟨T1, k1, r1, U1, l1, j1, rfl, hs, ht, hb⟩; have R1 := Lib.hid hs; have R2 := Lib.hid ht; have BB1 := Lib.hid (show Below W0.heap.size W0 a1 from (by first | exact hb | exact (Below.refl _ _).drew.trans (hb.mono (Nat.le_refl _)))); have f0 : a1.cell? ⟨w.heap.size, 0, none⟩ = some (.bool s1) := (X1.out.below BB1.out).c 0 rfl; have f1 : a1.cell? ⟨w.heap.size, 1, none⟩ = some (.slice A1 n1 c1) := (X1.out.below BB1.out).c 1 rfl; have f2 : a1.cell? ⟨w.heap.size, 2, none⟩ = some (.bool t1) := (X1.out.below BB1.out).c 2 rfl; have f3 : a1.cell? ⟨w.heap.size, 3, none⟩ = some (.slice B1 m1 d1) := (X1.out.below BB1.out).c 3 rfl; have f4 : a1.cell? ⟨w.heap.size + 1, 0, none⟩ = some (.bool s2) := (X2.out.below BB1.out).c 0 rfl; have f5 : a1.cell? ⟨w.heap.size + 1, 1, none⟩ = some (.slice A2 n2 c2) := (X2.out.below BB1.out).c 1 rfl; have f6 : a1.cell? ⟨w.heap.size + 1, 2, none⟩ = some (.bool t2) := (X2.out.below BB1.out).c 2 rfl; have f7 : a1.cell? ⟨w.heap.size + 1, 3, none⟩ = some (.slice B2 m2 d2) := (X2.out.below BB1.out).c 3 rfl; clear hs ht hb) | (go_at_call 29; (with_reducible refine (frac_any s2 t2 A2 B2 n2 c2 m2 d2 x2 y2 _ (by first | exact S3.out.below BB1.out | exact (S3.out.below BB1.out).drew) (by first | exact S4.out.below BB1.out | exact (S4.out.below BB1.out).drew)).mono ?_); rintro e a2 ⟨T2, k2, r2, U2, l2, j2, rfl, hs, ht, hb⟩; have R3 := Lib.hid hs; have R4 := Lib.hid ht; have R1 := Lib.hid (show Sl a2 _ _ _ _ from (by first | exact R1.out.below hb | exact Sl.below (w := a1.drew) R1.out.drew hb)); have R2 := Lib.hid (show Sl a2 _ _ _ _ from (by first | exact R2.out.below hb | exact Sl.below (w := a1.drew) R2.out.drew hb)); have BB2 := Lib.hid (show Below W0.heap.size W0 a2 from (by first | exact BB1.out.trans (hb.mono BB1.out.size) | exact BB1.out.drew.trans (hb.mono BB1.out.size))); have f0 : a2.cell? ⟨w.heap.size, 0, none⟩ = some (.bool s1) := (X1.out.below BB2.out).c 0 rfl; have h0 := (X1.out.below BB2.out).fz 0; have f1 : a2.cell? ⟨w.heap.size, 1, none⟩ = some (.slice A1 n1 c1) := (X1.out.below BB2.out).c 1 rfl; have h1 := (X1.out.below BB2.out).fz 1; have f2 : a2.cell? ⟨w.heap.size, 2, none⟩ = some (.bool t1) := (X1.out.below BB2.out).c 2 rfl; have h2 := (X1.out.below BB2.out).fz 2; have f3 : a2.cell? ⟨w.heap.size, 3, none⟩ = some (.slice B1 m1 d1) := (X1.out.below BB2.out).c 3 rfl; have h3 := (X1.out.below BB2.out).fz 3; have f4 : a2.cell? ⟨w.heap.size + 1, 0, none⟩ = some (.bool s2) := (X2.out.below BB2.out).c 0 rfl; have h4 := (X2.out.below BB2.out).fz 0; have f5 : a2.cell? ⟨w.heap.size + 1, 1, none⟩ = some (.slice A2 n2 c2) := (X2.out.below BB2.out).c 1 rfl; have h5 := (X2.out.below BB2.out).fz 1; have f6 : a2.cell? ⟨w.heap.size + 1, 2, none⟩ = some (.bool t2) := (X2.out.below BB2.out).c 2 rfl; have h6 := (X2.out.below BB2.out).fz 2; have f7 : a2.cell? ⟨w.heap.size + 1, 3, none⟩ = some (.slice B2 m2 d2) := (X2.out.below BB2.out).c 3 rfl; have h7 := (X2.out.below BB2.out).fz 3; clear hs ht hb))
    all_goals (go_wp2_with fail; go_meet; exact pairR_end BW.out BB2.out X1.out X2.out (by omega) (Nat.le_refl _) (by omega) R1.out R2.out R3.out R4.out)
  case rest =>
    clear S1 S2 S3 S4 BW X1 X2
    have FA := Lib.hid (fr_ok s1 x1 t1 y1)
    have FB := Lib.hid (fr_ok s2 x2 t2 y2)
    obtain ⟨A1', n1', c1', B1', m1', d1', A2', n2', c2', B2', m2', d2', hx1, hx2, hs1, hs2, hs3, hs4, hbw⟩ := hcut
    have X1 := Lib.hid hx1
    have X2 := Lib.hid hx2
    have S1 := Lib.hid hs1
    have S2 := Lib.hid hs2
    have S3 := Lib.hid hs3
    have S4 := Lib.hid hs4
    have BW := Lib.hid hbw
    clear hx1 hx2 hs1 hs2 hs3 hs4 hbw
    generalize hP1 : frN s1 x1 t1 y1 = p at *
    generalize hQ1 : frD s1 x1 t1 y1 = q at *
    generalize hP2 : frN s2 x2 t2 y2 = p' at *
    generalize hQ2 : frD s2 x2 t2 y2 = q' at *
    have HP1 := Lib.hid hP1
    have HQ1 := Lib.hid hQ1
    have HP2 := Lib.hid hP2
    have HQ2 := Lib.hid hQ2
    clear hP1 hQ1 hP2 hQ2
    by_cases h1 : p = p'
    · have E1 := Lib.hid (decide_eq_true h1)
      have H1 := Lib.hid h1
      clear h1
      have e0 : wc.cell? ⟨w.heap.size, 0, none⟩ = some (.bool (nOf (p))) := X1.out.c 0 rfl
      have e1 : wc.cell? ⟨w.heap.size, 1, none⟩ = some (.slice A1' n1' c1') := X1.out.c 1 rfl
      have e2 : wc.cell? ⟨w.heap.size, 2, none⟩ = some (.bool (nOf (q))) := X1.out.c 2 rfl
      have e3 : wc.cell? ⟨w.heap.size, 3, none⟩ = some (.slice B1' m1' d1') := X1.out.c 3 rfl
      have e4 : wc.cell? ⟨w.heap.size + 1, 0, none⟩ = some (.bool (nOf (p'))) := X2.out.c 0 rfl
      have e5 : wc.cell? ⟨w.heap.size + 1, 1, none⟩ = some (.slice A2' n2' c2') := X2.out.c 1 rfl
      have e6 : wc.cell? ⟨w.heap.size + 1, 2, none⟩ = some (.bool (nOf (q'))) := X2.out.c 2 rfl
      have e7 : wc.cell? ⟨w.heap.size + 1, 3, none⟩ = some (.slice B2' m2' d2') := X2.out.c 3 rfl
      go_wp2_with fail
      ((with_reducible refine (same_z p p' A1' A2' n1' c1' n2' c2' _ S1.out S3.out).mono ?_); rintro e w3 ⟨rfl, hb⟩)
      rw [E1.out]
      clear e0 e1 e2 e3 e4 e5 e6 e7
      have S1 := Lib.hid (S1.out.below hb)
      have S2 := Lib.hid (S2.out.below hb)
      have S3 := Lib.hid (S3.out.below hb)
      have S4 := Lib.hid (S4.out.below hb)
      have X1 := Lib.hid (X1.out.below hb)
      have X2 := Lib.hid (X2.out.below hb)
      have BW := Lib.hid (below_on BW.out hb)
      clear hb
      by_cases h2 : q = q'
      · have E2 := Lib.hid (decide_eq_true h2)
        have H2 := Lib.hid h2
        clear h2
        have e0 : w3.cell? ⟨w.heap.size, 0, none⟩ = some (.bool (nOf (p))) := X1.out.c 0 rfl
        have e1 : w3.cell? ⟨w.heap.size, 1, none⟩ = some (.slice A1' n1' c1') := X1.out.c 1 rfl
        have e2 : w3.cell? ⟨w.heap.size, 2, none⟩ = some (.bool (nOf (q))) := X1.out.c 2 rfl
        have e3 : w3.cell? ⟨w.heap.size, 3, none⟩ = some (.slice B1' m1' d1') := X1.out.c 3 rfl
        have e4 : w3.cell? ⟨w.heap.size + 1, 0, none⟩ = some (.bool (nOf (p'))) := X2.out.c 0 rfl
        have e5 : w3.cell? ⟨w.heap.size + 1, 1, none⟩ = some (.slice A2' n2' c2') := X2.out.c 1 rfl
        have e6 : w3.cell? ⟨w.heap.size + 1, 2, none⟩ = some (.bool (nOf (q'))) := X2.out.c 2 rfl
        have e7 : w3.cell? ⟨w.heap.size + 1, 3, none⟩ = some (.slice B2' m2' d2') := X2.out.c 3 rfl
        go_wp2_with fail
        ((with_reducible refine (same_z q q' B1' B2' m1' d1' m2' d2' _ S2.out S4.out).mono ?_); rintro e w4 ⟨rfl, hb⟩)
        rw [E2.out]
        clear e0 e1 e2 e3 e4 e5 e6 e7
        have S1 := Lib.hid (S1.out.below hb)
        have S2 := Lib.hid (S2.out.below hb)
        have S3 := Lib.hid (S3.out.below hb)
        have S4 := Lib.hid (S4.out.below hb)
        have X1 := Lib.hid (X1.out.below hb)
        have X2 := Lib.hid (X2.out.below hb)
        have BW := Lib.hid (below_on BW.out hb)
        clear hb
        have e0 : w4.cell? ⟨w.heap.size, 0, none⟩ = some (.bool (nOf (p))) := X1.out.c 0 rfl
        have e1 : w4.cell? ⟨w.heap.size, 1, none⟩ = some (.slice A1' n1' c1') := X1.out.c 1 rfl
        have e2 : w4.cell? ⟨w.heap.size, 2, none⟩ = some (.bool (nOf (q))) := X1.out.c 2 rfl
        have e3 : w4.cell? ⟨w.heap.size, 3, none⟩ = some (.slice B1' m1' d1') := X1.out.c 3 rfl
        have e4 : w4.cell? ⟨w.heap.size + 1, 0, none⟩ = some (.bool (nOf (p'))) := X2.out.c 0 rfl
        have e5 : w4.cell? ⟨w.heap.size + 1, 1, none⟩ = some (.slice A2' n2' c2') := X2.out.c 1 rfl
        have e6 : w4.cell? ⟨w.heap.size + 1, 2, none⟩ = some (.bool (nOf (q'))) := X2.out.c 2 rfl
        have e7 : w4.cell? ⟨w.heap.size + 1, 3, none⟩ = some (.slice B2' m2' d2') := X2.out.c 3 rfl
        go_wp2_with fail
        go_ret
        exact ⟨ret_int (by rw [HP1.out, HQ1.out, HP2.out, HQ2.out]; rw [H1.out, H2.out]; exact (cmpI_eq rfl).symm), BW.out⟩
      · have E2 := Lib.hid (decide_eq_false h2)
        clear h2
        have e0 : w3.cell? ⟨w.heap.size, 0, none⟩ = some (.bool (nOf (p))) := X1.out.c 0 rfl
        have e1 : w3.cell? ⟨w.heap.size, 1, none⟩ = some (.slice A1' n1' c1') := X1.out.c 1 rfl
        have e2 : w3.cell? ⟨w.heap.size, 2, none⟩ = some (.bool (nOf (q))) := X1.out.c 2 rfl
        have e3 : w3.cell? ⟨w.heap.size, 3, none⟩ = some (.slice B1' m1' d1') := X1.out.c 3 rfl
        have e4 : w3.cell? ⟨w.heap.size + 1, 0, none⟩ = some (.bool (nOf (p'))) := X2.out.c 0 rfl
        have e5 : w3.cell? ⟨w.heap.size + 1, 1, none⟩ = some (.slice A2' n2' c2') := X2.out.c 1 rfl
        have e6 : w3.cell? ⟨w.heap.size + 1, 2, none⟩ = some (.bool (nOf (q'))) := X2.out.c 2 rfl
        have e7 : w3.cell? ⟨w.heap.size + 1, 3, none⟩ = some (.slice B2' m2' d2') := X2.out.c 3 rfl
        go_wp2_with fail
        ((with_reducible refine (same_z q q' B1' B2' m1' d1' m2' d2' _ S2.out S4.out).mono ?_); rintro e w4 ⟨rfl, hb⟩)
        rw [E2.out]
        clear e0 e1 e2 e3 e4 e5 e6 e7
        have S1 := Lib.hid (S1.out.below hb)
        have S2 := Lib.hid (S2.out.below hb)
        have S3 := Lib.hid (S3.out.below hb)
        have S4 := Lib.hid (S4.out.below hb)
        have X1 := Lib.hid (X1.out.below hb)
        have X2 := Lib.hid (X2.out.below hb)
        have BW := Lib.hid (below_on BW.out hb)
        clear hb
        have HQ := Lib.hid FA.out.pos
        have HR := Lib.hid FB.out.pos
        have e0 : w4.cell? ⟨w.heap.size, 0, none⟩ = some (.bool (nOf (p))) := X1.out.c 0 rfl
        have e1 : w4.cell? ⟨w.heap.size, 1, none⟩ = some (.slice A1' n1' c1') := X1.out.c 1 rfl
        have e2 : w4.cell? ⟨w.heap.size, 2, none⟩ = some (.bool (nOf (q))) := X1.out.c 2 rfl
        have e3 : w4.cell? ⟨w.heap.size, 3, none⟩ = some (.slice B1' m1' d1') := X1.out.c 3 rfl
        have e4 : w4.cell? ⟨w.heap.size + 1, 0, none⟩ = some (.bool (nOf (p'))) := X2.out.c 0 rfl
        have e5 : w4.cell? ⟨w.heap.size + 1, 1, none⟩ = some (.slice A2' n2' c2') := X2.out.c 1 rfl
        have e6 : w4.cell? ⟨w.heap.size + 1, 2, none⟩ = some (.bool (nOf (q'))) := X2.out.c 2 rfl
        have e7 : w4.cell? ⟨w.heap.size + 1, 3, none⟩ = some (.slice B2' m2' d2') := X2.out.c 3 rfl
        go_wp2_with fail
        ((with_reducible refine (comp_any p q p' q' A1' B1' A2' B2' n1' c1' m1' d1' n2' c2' m2' d2' _ S1.out S2.out S3.out S4.out FA.out.fn FA.out.fd FB.out.fn FB.out.fd HQ.out HR.out).mono ?_); rintro e w5 ⟨rfl, hb⟩)
        clear e0 e1 e2 e3 e4 e5 e6 e7
        have S1 := Lib.hid (S1.out.below hb)
        have S2 := Lib.hid (S2.out.below hb)
        have S3 := Lib.hid (S3.out.below hb)
        have S4 := Lib.hid (S4.out.below hb)
        have X1 := Lib.hid (X1.out.below hb)
        have X2 := Lib.hid (X2.out.below hb)
        have BW := Lib.hid (below_on BW.out hb)
        clear hb
        go_wp2_with fail
        go_ret
        exact ⟨ret_int (by rw [HP1.out, HQ1.out, HP2.out, HQ2.out]), BW.out⟩
    · have E1 := Lib.hid (decide_eq_false h1)
      clear h1
      have e0 : wc.cell? ⟨w.heap.size, 0, none⟩ = some (.bool (nOf (p))) := X1.out.c 0 rfl
      have e1 : wc.cell? ⟨w.heap.size, 1, none⟩ = some (.slice A1' n1' c1') := X1.out.c 1 rfl
      have e2 : wc.cell? ⟨w.heap.size, 2, none⟩ = some (.bool (nOf (q))) := X1.out.c 2 rfl
      have e3 : wc.cell? ⟨w.heap.size, 3, none⟩ = some (.slice B1' m1' d1') := X1.out.c 3 rfl
      have e4 : wc.cell? ⟨w.heap.size + 1, 0, none⟩ = some (.bool (nOf (p'))) := X2.out.c 0 rfl
      have e5 : wc.cell? ⟨w.heap.size + 1, 1, none⟩ = some (.slice A2' n2' c2') := X2.out.c 1 rfl
      have e6 : wc.cell? ⟨w.heap.size + 1, 2, none⟩ = some (.bool (nOf (q'))) := X2.out.c 2 rfl
      have e7 : wc.cell? ⟨w.heap.size + 1, 3, none⟩ = some (.slice B2' m2' d2') := X2.out.c 3 rfl
      go_wp2_with fail
      ((with_reducible refine (same_z p p' A1' A2' n1' c1' n2' c2' _ S1.out S3.out).mono ?_); rintro e w3 ⟨rfl, hb⟩)
      rw [E1.out]
      clear e0 e1 e2 e3 e4 e5 e6 e7
      have S1 := Lib.hid (S1.out.below hb)
      have S2 := Lib.hid (S2.out.below hb)
      have S3 := Lib.hid (S3.out.below hb)
      have S4 := Lib.hid (S4.out.below hb)
      have X1 := Lib.hid (X1.out.below hb)
      have X2 := Lib.hid (X2.out.below hb)
      have BW := Lib.hid (below_on BW.out hb)
      clear hb
      have HQ := Lib.hid FA.out.pos
      have HR := Lib.hid FB.out.pos
      have e0 : w3.cell? ⟨w.heap.size, 0, none⟩ = some (.bool (nOf (p))) := X1.out.c 0 rfl
      have e1 : w3.cell? ⟨w.heap.size, 1, none⟩ = some (.slice A1' n1' c1') := X1.out.c 1 rfl
      have e2 : w3.cell? ⟨w.heap.size, 2, none⟩ = some (.bool (nOf (q))) := X1.out.c 2 rfl
      have e3 : w3.cell? ⟨w.heap.size, 3, none⟩ = some (.slice B1' m1' d1') := X1.out.c 3 rfl
      have e4 : w3.cell? ⟨w.heap.size + 1, 0, none⟩ = some (.bool (nOf (p'))) := X2.out.c 0 rfl
      have e5 : w3.cell? ⟨w.heap.size + 1, 1, none⟩ = some (.slice A2' n2' c2') := X2.out.c 1 rfl
      have e6 : w3.cell? ⟨w.heap.size + 1, 2, none⟩ = some (.bool (nOf (q'))) := X2.out.c 2 rfl
      have e7 : w3.cell? ⟨w.heap.size + 1, 3, none⟩ = some (.slice B2' m2' d2') := X2.out.c 3 rfl
      go_wp2_with fail
      ((with_reducible refine (comp_any p q p' q' A1' B1' A2' B2' n1' c1' m1' d1' n2' c2' m2' d2' _ S1.out S2.out S3.out S4.out FA.out.fn FA.out.fd FB.out.fn FB.out.fd HQ.out HR.out).mono ?_); rintro e w5 ⟨rfl, hb⟩)
      clear e0 e1 e2 e3 e4 e5 e6 e7
      have S1 := Lib.hid (S1.out.below hb)
      have S2 := Lib.hid (S2.out.below hb)
      have S3 := Lib.hid (S3.out.below hb)
      have S4 := Lib.hid (S4.out.below hb)
      have X1 := Lib.hid (X1.out.below hb)
      have X2 := Lib.hid (X2.out.below hb)
      have BW := Lib.hid (below_on BW.out hb)
      clear hb
      go_wp2_with fail
      go_ret
      exact ⟨ret_int (by rw [HP1.out, HQ1.out, HP2.out, HQ2.out]), BW.out⟩

/-- The text of a fraction. -/
def rtext (p q : Int) : List UInt8 := if q = 1 then Lib.itoa p else Lib.itoa p ++ [47] ++ Lib.itoa q
theorem itoa_fit {z : Int} (h : fitB z = true) : (Lib.itoa z).length ≤ 1001 := by
  by_cases h0 : z = 0
  · subst h0
    rw [itoa_form, if_neg (by decide), dec_small (by decide)]; decide
  · rw [← text_end h0, List.length_append]
    have h1 := drop_digs (lOf_ok z) (lOf_len h) 0
    have h2 : (pre z).length ≤ 1 := by unfold pre; split <;> simp
    omega
set_option maxHeartbeats 1000000 in
theorem rtext_any (na nb : Bool) (A B : Option Addr) (n c m d : Nat) (xs ys : List Int) (w : World) (ha : Sl w A n c xs) (hb : Sl w B m d ys) (htab : Tab w) :
    Calls Tryz.prog 19 #[.agg #[.bool na, .slice A n c, .bool nb, .slice B m d]] w fun e w' => e = .returned (.string ⟨(rtext (frN na xs nb ys) (frD na xs nb ys)).toArray⟩) ∧ Below w.heap.size w w' := by
  have S1 := Lib.hid ha
  have S2 := Lib.hid hb
  have TB := Lib.hid htab
  have TB0 := Lib.hid htab
  clear ha hb htab
  have FA := Lib.hid (fr_ok na xs nb ys)
  have BW := Lib.hid (Below.refl w.heap.size w)
  go_enter Tryz.func19, Tryz.ntmps19
  go_upto_region 1 with fail
  have S1 := Lib.hid (S1.out.alloc (.cells #[.bool na, .slice A n c, .bool nb, .slice B m d] 26))
  have S2 := Lib.hid (S2.out.alloc (.cells #[.bool na, .slice A n c, .bool nb, .slice B m d] 26))
  have TB := Lib.hid (tab_on TB.out ((Below.refl _ _).alloc (Nat.le_refl _) (.cells #[.bool na, .slice A n c, .bool nb, .slice B m d] 26)))
  have BW := Lib.hid (BW.out.alloc BW.out.size (.cells #[.bool na, .slice A n c, .bool nb, .slice B m d] 26))
  have X1 := Lib.hid (Bk.new 26 w #[.bool na, .slice A n c, .bool nb, .slice B m d])
  generalize (w.alloc (.cells #[.bool na, .slice A n c, .bool nb, .slice B m d] 26)) = W0 at *
  have e0 : W0.cell? ⟨w.heap.size, 0, none⟩ = some (.bool na) := X1.out.c 0 rfl
  have e1 : W0.cell? ⟨w.heap.size, 1, none⟩ = some (.slice A n c) := X1.out.c 1 rfl
  have e2 : W0.cell? ⟨w.heap.size, 2, none⟩ = some (.bool nb) := X1.out.c 2 rfl
  have e3 : W0.cell? ⟨w.heap.size, 3, none⟩ = some (.slice B m d) := X1.out.c 3 rfl
  go_wp2_with fail
  ((with_reducible refine (frac_any na nb A B n c m d xs ys _ S1.out S2.out).mono ?_); rintro e w1 ⟨T1, k1, r1, U1, l1, j1, rfl, hs, ht, hb⟩)
  clear e0 e1 e2 e3
  have S1 := Lib.hid (S1.out.below hb)
  have S2 := Lib.hid (S2.out.below hb)
  have TB := Lib.hid (tab_on TB.out hb)
  have BW := Lib.hid (below_on BW.out hb)
  have X1 := Lib.hid (X1.out.below hb)
  clear hb
  have S3 := Lib.hid hs
  have S4 := Lib.hid ht
  clear hs ht
  have e0 : w1.cell? ⟨w.heap.size, 0, none⟩ = some (.bool na) := X1.out.c 0 rfl
  have e1 : w1.cell? ⟨w.heap.size, 1, none⟩ = some (.slice A n c) := X1.out.c 1 rfl
  have e2 : w1.cell? ⟨w.heap.size, 2, none⟩ = some (.bool nb) := X1.out.c 2 rfl
  have e3 : w1.cell? ⟨w.heap.size, 3, none⟩ = some (.slice B m d) := X1.out.c 3 rfl
  have z4 := X1.out.fz 0
  have z5 := X1.out.fz 1
  have z6 := X1.out.fz 2
  have z7 := X1.out.fz 3
  go_upto_region 2 with fail
  clear e0 e1 e2 e3 z4 z5 z6 z7
  have S1 := Lib.hid (S1.out.bk4 X1.out (.bool (nOf (frN na xs nb ys))) (.slice T1 k1 r1) (.bool (nOf (frD na xs nb ys))) (.slice U1 l1 j1))
  have S2 := Lib.hid (S2.out.bk4 X1.out (.bool (nOf (frN na xs nb ys))) (.slice T1 k1 r1) (.bool (nOf (frD na xs nb ys))) (.slice U1 l1 j1))
  have BW := Lib.hid (below_set4 BW.out (show w.heap.size ≤ w.heap.size by omega) (.bool (nOf (frN na xs nb ys))) (.slice T1 k1 r1) (.bool (nOf (frD na xs nb ys))) (.slice U1 l1 j1))
  have S3 := Lib.hid (S3.out.bk4 X1.out (.bool (nOf (frN na xs nb ys))) (.slice T1 k1 r1) (.bool (nOf (frD na xs nb ys))) (.slice U1 l1 j1))
  have S4 := Lib.hid (S4.out.bk4 X1.out (.bool (nOf (frN na xs nb ys))) (.slice T1 k1 r1) (.bool (nOf (frD na xs nb ys))) (.slice U1 l1 j1))
  have X1 := Lib.hid (X1.out.set4 (.bool (nOf (frN na xs nb ys))) (.slice T1 k1 r1) (.bool (nOf (frD na xs nb ys))) (.slice U1 l1 j1))
  have TB := Lib.hid (tab_on TB0.out BW.out)
  generalize ((((w1.setCell ⟨w.heap.size, 0, none⟩ (.bool (nOf (frN na xs nb ys)))).setCell ⟨w.heap.size, 1, none⟩ (.slice T1 k1 r1)).setCell ⟨w.heap.size, 2, none⟩ (.bool (nOf (frD na xs nb ys)))).setCell ⟨w.heap.size, 3, none⟩ (.slice U1 l1 j1)) = W1 at *
  by_cases h1 : frD na xs nb ys = 1
  · have E1 := Lib.hid (decide_eq_true h1)
    have H1 := Lib.hid h1
    clear h1
    have e0 : W1.cell? ⟨w.heap.size, 0, none⟩ = some (.bool (nOf (frN na xs nb ys))) := X1.out.c 0 rfl
    have e1 : W1.cell? ⟨w.heap.size, 1, none⟩ = some (.slice T1 k1 r1) := X1.out.c 1 rfl
    have e2 : W1.cell? ⟨w.heap.size, 2, none⟩ = some (.bool (nOf (frD na xs nb ys))) := X1.out.c 2 rfl
    have e3 : W1.cell? ⟨w.heap.size, 3, none⟩ = some (.slice U1 l1 j1) := X1.out.c 3 rfl
    go_region_held3 (fun w' => w'.cell? ⟨w.heap.size, 0, none⟩ = some (.bool (nOf (frN na xs nb ys))) ∧ w'.cell? ⟨w.heap.size, 1, none⟩ = some (.slice T1 k1 r1) ∧ w'.cell? ⟨w.heap.size, 2, none⟩ = some (.bool (nOf (frD na xs nb ys))) ∧ w'.cell? ⟨w.heap.size, 3, none⟩ = some (.slice U1 l1 j1)) (go_keep)
      (first | (go_at_call 23; (with_reducible refine (of_any 1 _ (by omega) (by omega)).mono ?_); rintro e a1 ⟨T2, k2, r2, rfl, hs, hb⟩; have BB1 := Lib.hid (show Below W1.heap.size W1 a1 from (by first | exact hb | exact (Below.refl _ _).drew.trans (hb.mono (Nat.le_refl _)))); have S5 := Lib.hid hs; clear hs; have f0 : a1.cell? ⟨w.heap.size, 0, none⟩ = some (.bool (nOf (frN na xs nb ys))) := (X1.out.below BB1.out).c 0 rfl; have f1 : a1.cell? ⟨w.heap.size, 1, none⟩ = some (.slice T1 k1 r1) := (X1.out.below BB1.out).c 1 rfl; have f2 : a1.cell? ⟨w.heap.size, 2, none⟩ = some (.bool (nOf (frD na xs nb ys))) := (X1.out.below BB1.out).c 2 rfl; have f3 : a1.cell? ⟨w.heap.size, 3, none⟩ = some (.slice U1 l1 j1) := (X1.out.below BB1.out).c 3 rfl; clear hb) | (go_at_call 36; (with_reducible refine (same_z (frD na xs nb ys) 1 U1 T2 l1 j1 k2 r2 _ (S4.out.below BB1.out) S5.out).mono ?_); rintro e a2 ⟨rfl, hb⟩; rw [E1.out]; have BB2 := Lib.hid (below_up BB1.out hb); have S5 := Lib.hid (S5.out.below hb); have f0 : a2.cell? ⟨w.heap.size, 0, none⟩ = some (.bool (nOf (frN na xs nb ys))) := (X1.out.below BB2.out).c 0 rfl; have f1 : a2.cell? ⟨w.heap.size, 1, none⟩ = some (.slice T1 k1 r1) := (X1.out.below BB2.out).c 1 rfl; have f2 : a2.cell? ⟨w.heap.size, 2, none⟩ = some (.bool (nOf (frD na xs nb ys))) := (X1.out.below BB2.out).c 2 rfl; have f3 : a2.cell? ⟨w.heap.size, 3, none⟩ = some (.slice U1 l1 j1) := (X1.out.below BB2.out).c 3 rfl; clear hb))
    clear e0 e1 e2 e3
    try clear f0 f1 f2 f3
    have S1 := Lib.hid (S1.out.below BB2.out)
    have S2 := Lib.hid (S2.out.below BB2.out)
    have TB := Lib.hid (tab_on TB.out BB2.out)
    have BW := Lib.hid (below_on BW.out BB2.out)
    have X1 := Lib.hid (X1.out.below BB2.out)
    have S3 := Lib.hid (S3.out.below BB2.out)
    have S4 := Lib.hid (S4.out.below BB2.out)
    have e0 : a2.cell? ⟨w.heap.size, 0, none⟩ = some (.bool (nOf (frN na xs nb ys))) := X1.out.c 0 rfl
    have e1 : a2.cell? ⟨w.heap.size, 1, none⟩ = some (.slice T1 k1 r1) := X1.out.c 1 rfl
    have e2 : a2.cell? ⟨w.heap.size, 2, none⟩ = some (.bool (nOf (frD na xs nb ys))) := X1.out.c 2 rfl
    have e3 : a2.cell? ⟨w.heap.size, 3, none⟩ = some (.slice U1 l1 j1) := X1.out.c 3 rfl
    go_wp2_with fail
    ((with_reducible refine (text_lit _ T1 k1 r1 _ (frN na xs nb ys) (Lib.itoa (frN na xs nb ys)) _ S3.out TB.out (zOf_lOf FA.out.fn) rfl).mono ?_); rintro e w3 ⟨rfl, hb⟩)
    clear e0 e1 e2 e3
    have S1 := Lib.hid (S1.out.below hb)
    have S2 := Lib.hid (S2.out.below hb)
    have TB := Lib.hid (tab_on TB.out hb)
    have BW := Lib.hid (below_on BW.out hb)
    have X1 := Lib.hid (X1.out.below hb)
    have S3 := Lib.hid (S3.out.below hb)
    have S4 := Lib.hid (S4.out.below hb)
    have S5 := Lib.hid (S5.out.below hb)
    clear hb
    go_wp2_with fail
    go_ret
    exact ⟨ret_str (by unfold rtext; rw [if_pos H1.out]), BW.out⟩
  · have E1 := Lib.hid (decide_eq_false h1)
    have H1 := Lib.hid h1
    clear h1
    have e0 : W1.cell? ⟨w.heap.size, 0, none⟩ = some (.bool (nOf (frN na xs nb ys))) := X1.out.c 0 rfl
    have e1 : W1.cell? ⟨w.heap.size, 1, none⟩ = some (.slice T1 k1 r1) := X1.out.c 1 rfl
    have e2 : W1.cell? ⟨w.heap.size, 2, none⟩ = some (.bool (nOf (frD na xs nb ys))) := X1.out.c 2 rfl
    have e3 : W1.cell? ⟨w.heap.size, 3, none⟩ = some (.slice U1 l1 j1) := X1.out.c 3 rfl
    go_region_held3 (fun w' => w'.cell? ⟨w.heap.size, 0, none⟩ = some (.bool (nOf (frN na xs nb ys))) ∧ w'.cell? ⟨w.heap.size, 1, none⟩ = some (.slice T1 k1 r1) ∧ w'.cell? ⟨w.heap.size, 2, none⟩ = some (.bool (nOf (frD na xs nb ys))) ∧ w'.cell? ⟨w.heap.size, 3, none⟩ = some (.slice U1 l1 j1)) (go_keep)
      (first | (go_at_call 23; (with_reducible refine (of_any 1 _ (by omega) (by omega)).mono ?_); rintro e a1 ⟨T2, k2, r2, rfl, hs, hb⟩; have BB1 := Lib.hid (show Below W1.heap.size W1 a1 from (by first | exact hb | exact (Below.refl _ _).drew.trans (hb.mono (Nat.le_refl _)))); have S5 := Lib.hid hs; clear hs; have f0 : a1.cell? ⟨w.heap.size, 0, none⟩ = some (.bool (nOf (frN na xs nb ys))) := (X1.out.below BB1.out).c 0 rfl; have f1 : a1.cell? ⟨w.heap.size, 1, none⟩ = some (.slice T1 k1 r1) := (X1.out.below BB1.out).c 1 rfl; have f2 : a1.cell? ⟨w.heap.size, 2, none⟩ = some (.bool (nOf (frD na xs nb ys))) := (X1.out.below BB1.out).c 2 rfl; have f3 : a1.cell? ⟨w.heap.size, 3, none⟩ = some (.slice U1 l1 j1) := (X1.out.below BB1.out).c 3 rfl; clear hb) | (go_at_call 36; (with_reducible refine (same_z (frD na xs nb ys) 1 U1 T2 l1 j1 k2 r2 _ (S4.out.below BB1.out) S5.out).mono ?_); rintro e a2 ⟨rfl, hb⟩; rw [E1.out]; have BB2 := Lib.hid (below_up BB1.out hb); have S5 := Lib.hid (S5.out.below hb); have f0 : a2.cell? ⟨w.heap.size, 0, none⟩ = some (.bool (nOf (frN na xs nb ys))) := (X1.out.below BB2.out).c 0 rfl; have f1 : a2.cell? ⟨w.heap.size, 1, none⟩ = some (.slice T1 k1 r1) := (X1.out.below BB2.out).c 1 rfl; have f2 : a2.cell? ⟨w.heap.size, 2, none⟩ = some (.bool (nOf (frD na xs nb ys))) := (X1.out.below BB2.out).c 2 rfl; have f3 : a2.cell? ⟨w.heap.size, 3, none⟩ = some (.slice U1 l1 j1) := (X1.out.below BB2.out).c 3 rfl; clear hb))
    clear e0 e1 e2 e3
    try clear f0 f1 f2 f3
    have S1 := Lib.hid (S1.out.below BB2.out)
    have S2 := Lib.hid (S2.out.below BB2.out)
    have TB := Lib.hid (tab_on TB.out BB2.out)
    have BW := Lib.hid (below_on BW.out BB2.out)
    have X1 := Lib.hid (X1.out.below BB2.out)
    have S3 := Lib.hid (S3.out.below BB2.out)
    have S4 := Lib.hid (S4.out.below BB2.out)
    have e0 : a2.cell? ⟨w.heap.size, 0, none⟩ = some (.bool (nOf (frN na xs nb ys))) := X1.out.c 0 rfl
    have e1 : a2.cell? ⟨w.heap.size, 1, none⟩ = some (.slice T1 k1 r1) := X1.out.c 1 rfl
    have e2 : a2.cell? ⟨w.heap.size, 2, none⟩ = some (.bool (nOf (frD na xs nb ys))) := X1.out.c 2 rfl
    have e3 : a2.cell? ⟨w.heap.size, 3, none⟩ = some (.slice U1 l1 j1) := X1.out.c 3 rfl
    go_upto_region 4 with fail
    clear e0 e1 e2 e3
    have tl1 := itoa_fit FA.out.fn
    have tl2 := itoa_fit FA.out.fd
    have HT1 : Hid (∃ l, Lib.itoa (frN na xs nb ys) = l) := ⟨_, rfl⟩
    have HT2 : Hid (∃ l, Lib.itoa (frD na xs nb ys) = l) := ⟨_, rfl⟩
    obtain ⟨lp, hlp⟩ := HT1.out
    obtain ⟨lq, hlq⟩ := HT2.out
    rw [hlp] at tl1
    rw [hlq] at tl2
    have LP := Lib.hid hlp
    have LQ := Lib.hid hlq
    clear hlp hlq HT1 HT2
    have ra1 : ∀ W : World, (Op.stringOp .add ⟨lp.toArray⟩ ⟨#[47]⟩).run Tryz.prog W = .ok (.string ⟨(lp ++ [47]).toArray⟩) W := fun W => run_string_add_lists W lp [47] (by omega) (by decide)
    have ra2 : ∀ W : World, (Op.stringOp .add ⟨(lp ++ [47]).toArray⟩ ⟨lq.toArray⟩).run Tryz.prog W = .ok (.string ⟨(lp ++ [47] ++ lq).toArray⟩) W := fun W => run_string_add_lists W (lp ++ [47]) lq (by rw [List.length_append]; simp; omega) (by omega)
    clear tl1 tl2
    have e0 : a2.cell? ⟨w.heap.size, 0, none⟩ = some (.bool (nOf (frN na xs nb ys))) := X1.out.c 0 rfl
    have e1 : a2.cell? ⟨w.heap.size, 1, none⟩ = some (.slice T1 k1 r1) := X1.out.c 1 rfl
    have e2 : a2.cell? ⟨w.heap.size, 2, none⟩ = some (.bool (nOf (frD na xs nb ys))) := X1.out.c 2 rfl
    have e3 : a2.cell? ⟨w.heap.size, 3, none⟩ = some (.slice U1 l1 j1) := X1.out.c 3 rfl
    go_region_held3 (fun w' => w'.cell? ⟨w.heap.size, 0, none⟩ = some (.bool (nOf (frN na xs nb ys))) ∧ w'.cell? ⟨w.heap.size, 1, none⟩ = some (.slice T1 k1 r1) ∧ w'.cell? ⟨w.heap.size, 2, none⟩ = some (.bool (nOf (frD na xs nb ys))) ∧ w'.cell? ⟨w.heap.size, 3, none⟩ = some (.slice U1 l1 j1)) (go_keep)
      (first | (go_at_call 42; (with_reducible refine (text_lit _ T1 k1 r1 _ (frN na xs nb ys) lp _ (by first | exact S3.out | exact S3.out.drew) (by first | exact TB.out | exact tab_on TB.out (Below.refl _ _).drew) (zOf_lOf FA.out.fn) LP.out).mono ?_); rintro e b1 ⟨rfl, hb⟩; have BB1 := Lib.hid (show Below a2.heap.size a2 b1 from (by first | exact hb | exact (Below.refl _ _).drew.trans (hb.mono (Nat.le_refl _)))); have f0 : b1.cell? ⟨w.heap.size, 0, none⟩ = some (.bool (nOf (frN na xs nb ys))) := (X1.out.below BB1.out).c 0 rfl; have f1 : b1.cell? ⟨w.heap.size, 1, none⟩ = some (.slice T1 k1 r1) := (X1.out.below BB1.out).c 1 rfl; have f2 : b1.cell? ⟨w.heap.size, 2, none⟩ = some (.bool (nOf (frD na xs nb ys))) := (X1.out.below BB1.out).c 2 rfl; have f3 : b1.cell? ⟨w.heap.size, 3, none⟩ = some (.slice U1 l1 j1) := (X1.out.below BB1.out).c 3 rfl; clear hb) | (go_at_call 42; (with_reducible refine (text_lit _ U1 l1 j1 _ (frD na xs nb ys) lq _ (S4.out.below BB1.out) (tab_on TB.out BB1.out) (zOf_lOf FA.out.fd) LQ.out).mono ?_); rintro e b2 ⟨rfl, hb⟩; have BB2 := Lib.hid (below_up BB1.out hb); have f0 : b2.cell? ⟨w.heap.size, 0, none⟩ = some (.bool (nOf (frN na xs nb ys))) := (X1.out.below BB2.out).c 0 rfl; have f1 : b2.cell? ⟨w.heap.size, 1, none⟩ = some (.slice T1 k1 r1) := (X1.out.below BB2.out).c 1 rfl; have f2 : b2.cell? ⟨w.heap.size, 2, none⟩ = some (.bool (nOf (frD na xs nb ys))) := (X1.out.below BB2.out).c 2 rfl; have f3 : b2.cell? ⟨w.heap.size, 3, none⟩ = some (.slice U1 l1 j1) := (X1.out.below BB2.out).c 3 rfl; clear hb))
    clear e0 e1 e2 e3
    try clear f0 f1 f2 f3
    have S1 := Lib.hid (S1.out.below BB2.out)
    have S2 := Lib.hid (S2.out.below BB2.out)
    have TB := Lib.hid (tab_on TB.out BB2.out)
    have BW := Lib.hid (below_on BW.out BB2.out)
    have X1 := Lib.hid (X1.out.below BB2.out)
    have S3 := Lib.hid (S3.out.below BB2.out)
    have S4 := Lib.hid (S4.out.below BB2.out)
    have S5 := Lib.hid (S5.out.below BB2.out)
    go_wp2_with fail
    go_ret
    exact ⟨ret_str (by rw [bytes_eq]; simp [rtext, if_neg H1.out, LP.out, LQ.out]), BW.out⟩
end Go.Proofs.YtfenmogbellhdaaGreatDoor
