/-
  THE STATEMENT RatWhole IS PROVED: for every fraction (the listed library tables holding what the program's text lays, tied by the card), the law returns true and its argument reads as before.
-/
import Derived.Test.YtamlkmmhbejgfaaDoorCards
import Derived.Test.YtamlkmmhbejgfaaDoorTie
import Derived.Test.YtamlkmmhbejgfaaDoorRatLaid
import Derived.Test.YtamlkmmhbejgfaaDoorRatN
import Derived.Test.YtamlkmmhbejgfaaDoorRatLaid
import Derived.Test.YtamlkmmhbejgfaaDoorBigZ
namespace Go.Proofs.YtamlkmmhbejgfaaDoor.ratWhole
open Go.ChangeShapes Go.WideShapes Go.ChangeAt Go.RowKit
open Go.ChangeMaps (open_string shut_string)


theorem whole_facts {p q : Int} (h : Fr p q) (hn : (lOf p).length ≤ 199) :
    fitB (qZ p q) = true ∧ fitB (qZ p q + 1) = true ∧ cmpI (qZ p q * q) (p * 1) ≤ 0 ∧ cmpI (p * 1) ((qZ p q + 1) * q) = -1 ∧ fitB (-qZ (-p) q) = true := by
  have hq : q ≠ 0 := by have := h.pos; omega
  have f1 := fit_q hq h.fn
  have e := qr_facts p q hq
  have e2 := e.2.1 h.pos
  have ep : qZ p q * q ≤ p := by have := e.1; rw [Int.mul_comm]; omega
  have en : p < (qZ p q + 1) * q := by have := e.1; rw [Int.add_mul, Int.mul_comm (qZ p q)]; omega
  refine ⟨f1, ?_, ?_, ?_, ?_⟩
  · have h1 : (p.natAbs : Int) < pw 199 := digs_len_lt hn
    have h2 := q_abs p q hq
    have h3 : pw 200 = 10000 * pw 199 := pw_succ 199
    rw [fitB_iff]
    have h4 := pw_pos 199
    omega
  · rw [Int.mul_one]
    rcases (by omega : qZ p q * q < p ∨ qZ p q * q = p) with g | g
    · rw [cmpI_lt g]; omega
    · rw [cmpI_eq g]; omega
  · rw [Int.mul_one]; exact cmpI_lt en
  · rw [fitB_neg]; exact fit_q hq h.neg.fn
set_option maxRecDepth 100000 in
set_option maxHeartbeats 8000000 in
theorem walk (s1 t1 : Bool) (A1 B1 : Option Addr) (n1 c1 m1 d1 : Nat) (x1 y1 : List Int) (w : World) (h1 : Sl w A1 n1 c1 x1) (h2 : Sl w B1 m1 d1 y1) (htab : Tab w) :
    Calls Tryd.prog 9 #[.agg #[.bool s1, .slice A1 n1 c1, .bool t1, .slice B1 m1 d1]] w fun e w' => e = .returned (.bool true) ∧ Below w.heap.size w w' := by
  have S1 := Lib.hid h1
  have S2 := Lib.hid h2
  have TB := Lib.hid htab
  have TB0 := Lib.hid htab
  clear h1 h2 htab
  by_cases h1 : 199 < n1
  · have b1 : (199 : Int) < (n1 : Int) := by omega
    clear h1
    have BW := Lib.hid (Below.refl w.heap.size w)
    go_enter Tryd.func9, Tryd.ntmps9
    go_upto_region 1 with fail
    have S1 := Lib.hid (S1.out.alloc (.cells #[.bool s1, .slice A1 n1 c1, .bool t1, .slice B1 m1 d1] 37))
    have S2 := Lib.hid (S2.out.alloc (.cells #[.bool s1, .slice A1 n1 c1, .bool t1, .slice B1 m1 d1] 37))
    have TB := Lib.hid (tab_on TB.out ((Below.refl _ _).alloc (Nat.le_refl _) (.cells #[.bool s1, .slice A1 n1 c1, .bool t1, .slice B1 m1 d1] 37)))
    have BW := Lib.hid (BW.out.alloc BW.out.size (.cells #[.bool s1, .slice A1 n1 c1, .bool t1, .slice B1 m1 d1] 37))
    have X1 := Lib.hid (Bk.new 37 w #[.bool s1, .slice A1 n1 c1, .bool t1, .slice B1 m1 d1])
    generalize (w.alloc (.cells #[.bool s1, .slice A1 n1 c1, .bool t1, .slice B1 m1 d1] 37)) = W0 at *
    have e0 : W0.cell? ⟨w.heap.size, 0, none⟩ = some (.bool s1) := X1.out.c 0 rfl
    have e1 : W0.cell? ⟨w.heap.size, 1, none⟩ = some (.slice A1 n1 c1) := X1.out.c 1 rfl
    have e2 : W0.cell? ⟨w.heap.size, 2, none⟩ = some (.bool t1) := X1.out.c 2 rfl
    have e3 : W0.cell? ⟨w.heap.size, 3, none⟩ = some (.slice B1 m1 d1) := X1.out.c 3 rfl
    go_wp2_with fail
    ((with_reducible refine (awake3_any _ TB.out).mono ?_); rintro e w9 ⟨rfl, hb⟩)
    clear e0 e1 e2 e3
    have S1 := Lib.hid (S1.out.below hb)
    have S2 := Lib.hid (S2.out.below hb)
    have TB := Lib.hid (tab_on TB.out hb)
    have BW := Lib.hid (below_on BW.out hb)
    have X1 := Lib.hid (X1.out.below hb)
    clear hb
    go_wp2_with fail
    go_ret
    exact ⟨rfl, BW.out⟩
  · by_cases h2 : 199 < m1
    · have b1 : ¬ (199 : Int) < (n1 : Int) := by omega
      have b2 : (199 : Int) < (m1 : Int) := by omega
      clear h1 h2
      have BW := Lib.hid (Below.refl w.heap.size w)
      go_enter Tryd.func9, Tryd.ntmps9
      go_upto_region 1 with fail
      have S1 := Lib.hid (S1.out.alloc (.cells #[.bool s1, .slice A1 n1 c1, .bool t1, .slice B1 m1 d1] 37))
      have S2 := Lib.hid (S2.out.alloc (.cells #[.bool s1, .slice A1 n1 c1, .bool t1, .slice B1 m1 d1] 37))
      have TB := Lib.hid (tab_on TB.out ((Below.refl _ _).alloc (Nat.le_refl _) (.cells #[.bool s1, .slice A1 n1 c1, .bool t1, .slice B1 m1 d1] 37)))
      have BW := Lib.hid (BW.out.alloc BW.out.size (.cells #[.bool s1, .slice A1 n1 c1, .bool t1, .slice B1 m1 d1] 37))
      have X1 := Lib.hid (Bk.new 37 w #[.bool s1, .slice A1 n1 c1, .bool t1, .slice B1 m1 d1])
      generalize (w.alloc (.cells #[.bool s1, .slice A1 n1 c1, .bool t1, .slice B1 m1 d1] 37)) = W0 at *
      have e0 : W0.cell? ⟨w.heap.size, 0, none⟩ = some (.bool s1) := X1.out.c 0 rfl
      have e1 : W0.cell? ⟨w.heap.size, 1, none⟩ = some (.slice A1 n1 c1) := X1.out.c 1 rfl
      have e2 : W0.cell? ⟨w.heap.size, 2, none⟩ = some (.bool t1) := X1.out.c 2 rfl
      have e3 : W0.cell? ⟨w.heap.size, 3, none⟩ = some (.slice B1 m1 d1) := X1.out.c 3 rfl
      go_wp2_with fail
      ((with_reducible refine (awake3_any _ TB.out).mono ?_); rintro e w9 ⟨rfl, hb⟩)
      clear e0 e1 e2 e3
      have S1 := Lib.hid (S1.out.below hb)
      have S2 := Lib.hid (S2.out.below hb)
      have TB := Lib.hid (tab_on TB.out hb)
      have BW := Lib.hid (below_on BW.out hb)
      have X1 := Lib.hid (X1.out.below hb)
      clear hb
      go_wp2_with fail
      go_ret
      exact ⟨rfl, BW.out⟩
    · rcases Bool.eq_false_or_eq_true (validR s1 x1 t1 y1) with h3 | h3
      · have b1 : ¬ (199 : Int) < (n1 : Int) := by omega
        have b2 : ¬ (199 : Int) < (m1 : Int) := by omega
        clear h2
        have hn : x1.length ≤ 199 := by rw [S1.out.len]; omega
        obtain ⟨-, -, q1, q2, q3, q4⟩ := fr_valid h3
        have FA := Lib.hid (fr_ok s1 x1 t1 y1)
        generalize hP : frN s1 x1 t1 y1 = p at *
        generalize hQ : frD s1 x1 t1 y1 = q at *
        clear hP hQ h1
        subst q1; subst q2; subst q3; subst q4
        have HV := Lib.hid h3
        obtain ⟨w1, w2, w3, w4, w5⟩ := whole_facts FA.out hn
        have FF := Lib.hid w1
        have FN := Lib.hid w2
        generalize hv1 : cmpI (qZ p q * q) (p * 1) = v1 at *
        have C1 := Lib.hid hv1
        have C2 := Lib.hid w4
        have FC := Lib.hid w5
        have HQ : Hid (q ≠ 0) := (by have := FA.out.pos; omega : q ≠ 0)
        clear h3 hn w1 w2 w4 w5 hv1
        have BW := Lib.hid (Below.refl w.heap.size w)
        go_enter Tryd.func9, Tryd.ntmps9
        go_upto_region 1 with fail
        have S1 := Lib.hid (S1.out.alloc (.cells #[.bool (nOf (p)), .slice A1 n1 c1, .bool (nOf (q)), .slice B1 m1 d1] 37))
        have S2 := Lib.hid (S2.out.alloc (.cells #[.bool (nOf (p)), .slice A1 n1 c1, .bool (nOf (q)), .slice B1 m1 d1] 37))
        have TB := Lib.hid (tab_on TB.out ((Below.refl _ _).alloc (Nat.le_refl _) (.cells #[.bool (nOf (p)), .slice A1 n1 c1, .bool (nOf (q)), .slice B1 m1 d1] 37)))
        have BW := Lib.hid (BW.out.alloc BW.out.size (.cells #[.bool (nOf (p)), .slice A1 n1 c1, .bool (nOf (q)), .slice B1 m1 d1] 37))
        have X1 := Lib.hid (Bk.new 37 w #[.bool (nOf (p)), .slice A1 n1 c1, .bool (nOf (q)), .slice B1 m1 d1])
        generalize (w.alloc (.cells #[.bool (nOf (p)), .slice A1 n1 c1, .bool (nOf (q)), .slice B1 m1 d1] 37)) = W0 at *
        have e0 : W0.cell? ⟨w.heap.size, 0, none⟩ = some (.bool (nOf (p))) := X1.out.c 0 rfl
        have e1 : W0.cell? ⟨w.heap.size, 1, none⟩ = some (.slice A1 n1 c1) := X1.out.c 1 rfl
        have e2 : W0.cell? ⟨w.heap.size, 2, none⟩ = some (.bool (nOf (q))) := X1.out.c 2 rfl
        have e3 : W0.cell? ⟨w.heap.size, 3, none⟩ = some (.slice B1 m1 d1) := X1.out.c 3 rfl
        go_wp2_with fail
        ((with_reducible refine (rvalid_ok true p q A1 B1 n1 c1 m1 d1 _ S1.out S2.out FA.out.valid).mono ?_); rintro e w1 ⟨rfl, hb⟩)
        clear e0 e1 e2 e3
        have S1 := Lib.hid (S1.out.below hb)
        have S2 := Lib.hid (S2.out.below hb)
        have TB := Lib.hid (tab_on TB.out hb)
        have BW := Lib.hid (below_on BW.out hb)
        have X1 := Lib.hid (X1.out.below hb)
        clear hb
        have e0 : w1.cell? ⟨w.heap.size, 0, none⟩ = some (.bool (nOf (p))) := X1.out.c 0 rfl
        have e1 : w1.cell? ⟨w.heap.size, 1, none⟩ = some (.slice A1 n1 c1) := X1.out.c 1 rfl
        have e2 : w1.cell? ⟨w.heap.size, 2, none⟩ = some (.bool (nOf (q))) := X1.out.c 2 rfl
        have e3 : w1.cell? ⟨w.heap.size, 3, none⟩ = some (.slice B1 m1 d1) := X1.out.c 3 rfl
        go_wp2_with fail
        ((with_reducible refine (of_any 1 _ (by omega) (by omega)).mono ?_); rintro e w2 ⟨T, k, r, rfl, hs, hb⟩)
        clear e0 e1 e2 e3
        have S1 := Lib.hid (S1.out.below hb)
        have S2 := Lib.hid (S2.out.below hb)
        have TB := Lib.hid (tab_on TB.out hb)
        have BW := Lib.hid (below_on BW.out hb)
        have X1 := Lib.hid (X1.out.below hb)
        clear hb
        have S3 := Lib.hid hs
        clear hs
        go_upto_region 4 with fail
        have ln1 := X1.out.lt
        have S1 := Lib.hid (S1.out.alloc (.cells #[.bool (nOf (1)), .slice T k r] 24))
        have S2 := Lib.hid (S2.out.alloc (.cells #[.bool (nOf (1)), .slice T k r] 24))
        have TB := Lib.hid (tab_on TB.out ((Below.refl _ _).alloc (Nat.le_refl _) (.cells #[.bool (nOf (1)), .slice T k r] 24)))
        have BW := Lib.hid (BW.out.alloc BW.out.size (.cells #[.bool (nOf (1)), .slice T k r] 24))
        have X1 := Lib.hid (X1.out.alloc (.cells #[.bool (nOf (1)), .slice T k r] 24))
        have S3 := Lib.hid (S3.out.alloc (.cells #[.bool (nOf (1)), .slice T k r] 24))
        have XO := Lib.hid (Bk.new 24 w2 #[.bool (nOf (1)), .slice T k r])
        generalize (w2.alloc (.cells #[.bool (nOf (1)), .slice T k r] 24)) = W1 at *
        go_cut [4, 5] (fun vp0 vp1 wx => TwoAt W1 (qZ p q) (-qZ (-p) q) vp0 vp1 wx)
        case first =>
          have e0 : W1.cell? ⟨w.heap.size, 0, none⟩ = some (.bool (nOf (p))) := X1.out.c 0 rfl
          have e1 : W1.cell? ⟨w.heap.size, 1, none⟩ = some (.slice A1 n1 c1) := X1.out.c 1 rfl
          have e2 : W1.cell? ⟨w.heap.size, 2, none⟩ = some (.bool (nOf (q))) := X1.out.c 2 rfl
          have e3 : W1.cell? ⟨w.heap.size, 3, none⟩ = some (.slice B1 m1 d1) := X1.out.c 3 rfl
          have laX1 := X1.out.lt
          have xa0X1 : ¬ W1.heap.size = w.heap.size := by omega
          have ya0X1 : ¬ w.heap.size = W1.heap.size := by omega
          have xb0X1 : ¬ W1.heap.size + 1 = w.heap.size := by omega
          have yb0X1 : ¬ w.heap.size = W1.heap.size + 1 := by omega
          have BB0 := Lib.hid (Below.refl W1.heap.size W1)
          go_region_held3 (fun w' => w'.cell? ⟨w.heap.size, 0, none⟩ = some (.bool (nOf (p))) ∧ w'.cell? ⟨w.heap.size, 1, none⟩ = some (.slice A1 n1 c1) ∧ w'.cell? ⟨w.heap.size, 2, none⟩ = some (.bool (nOf (q))) ∧ w'.cell? ⟨w.heap.size, 3, none⟩ = some (.slice B1 m1 d1)) (go_keep)
            (first | (go_at_call 39; (with_reducible refine (floor_ok (qZ p q) p q A1 B1 n1 c1 m1 d1 _ (by first | exact S1.out.below BB0.out | exact (S1.out.below BB0.out).drew | exact (S1.out.below BB0.out).alloc _ | exact (S1.out.below BB0.out).drew.alloc _ | exact ((S1.out.below BB0.out).alloc _).drew | exact ((S1.out.below BB0.out).alloc _).alloc _ | exact ((S1.out.below BB0.out).drew.alloc _).alloc _ | exact (((S1.out.below BB0.out).alloc _).alloc _).drew) (by first | exact S2.out.below BB0.out | exact (S2.out.below BB0.out).drew | exact (S2.out.below BB0.out).alloc _ | exact (S2.out.below BB0.out).drew.alloc _ | exact ((S2.out.below BB0.out).alloc _).drew | exact ((S2.out.below BB0.out).alloc _).alloc _ | exact ((S2.out.below BB0.out).drew.alloc _).alloc _ | exact (((S2.out.below BB0.out).alloc _).alloc _).drew) FA.out rfl).mono ?_); rintro e p1 ⟨T1, k1, i1, rfl, hs, hb⟩; have BB1 := Lib.hid (show Below W1.heap.size W1 p1 from (by first | exact below_up BB0.out hb | exact below_up BB0.out.drew hb | exact below_up (BB0.out.alloc BB0.out.size _) hb | exact below_up (BB0.out.drew.alloc BB0.out.drew.size _) hb | exact below_up (BB0.out.alloc BB0.out.size _).drew hb | exact below_up ((BB0.out.alloc BB0.out.size _).alloc (BB0.out.alloc BB0.out.size _).size _) hb | exact below_up ((BB0.out.drew.alloc BB0.out.drew.size _).alloc (BB0.out.drew.alloc BB0.out.drew.size _).size _) hb | exact below_up (((BB0.out.alloc BB0.out.size _).alloc (BB0.out.alloc BB0.out.size _).size _).drew) hb)); (first | (have N1a := Lib.hid (show Bk 24 p1 W1.heap.size #[.bool false, .slice none 0 0] from Bk.below (Bk.new 24 W1 #[.bool false, .slice none 0 0]) hb)) | (have N1a := Lib.hid (show Bk 24 p1 W1.heap.size #[.bool false, .slice none 0 0] from Bk.below (Bk.new 24 W1.drew #[.bool false, .slice none 0 0]) hb)) | (have N1a := Lib.hid (show Bk 24 p1 W1.heap.size #[.bool false, .slice none 0 0] from Bk.below (Bk.new 24 W1 #[.bool false, .slice none 0 0]).drew hb)) | (have N1a := Lib.hid (show Bk 24 p1 W1.heap.size #[.bool false, .slice none 0 0] from Bk.below ((Bk.new 24 W1 #[.bool false, .slice none 0 0]).alloc (.cells #[.bool false, .slice none 0 0] 24)) hb)) | (have N1a := Lib.hid (show Bk 24 p1 W1.heap.size #[.bool false, .slice none 0 0] from Bk.below ((Bk.new 24 W1.drew #[.bool false, .slice none 0 0]).alloc (.cells #[.bool false, .slice none 0 0] 24)) hb)) | skip); (first | (have N1b := Lib.hid (Bk.below (Bk.new 24 (W1.alloc (.cells #[.bool false, .slice none 0 0] 24)) #[.bool false, .slice none 0 0]) hb); rw [alloc_sz] at N1b) | (have N1b := Lib.hid (Bk.below (Bk.new 24 (W1.drew.alloc (.cells #[.bool false, .slice none 0 0] 24)) #[.bool false, .slice none 0 0]) hb); rw [alloc_sz] at N1b; have N1b := Lib.hid (show Bk 24 p1 (W1.heap.size + 1) #[.bool false, .slice none 0 0] from N1b.out)) | skip); (first | (have mN1a0 := N1a.out.c 0 (v := .bool false) rfl; have oN1a0 := N1a.out.fz 0; have mN1a1 := N1a.out.c 1 (v := .slice none 0 0) rfl; have oN1a1 := N1a.out.fz 1; have yN1a := N1a.out.lt; have yaN1a1 : ¬ W1.heap.size = p1.heap.size := (by omega); have ybN1a1 : ¬ p1.heap.size = W1.heap.size := (by omega); have ycN1a1 : ¬ W1.heap.size = p1.heap.size + 1 := (by omega); have ydN1a1 : ¬ p1.heap.size + 1 = W1.heap.size := (by omega)) | skip); (first | (have mN1b0 := N1b.out.c 0 (v := .bool false) rfl; have oN1b0 := N1b.out.fz 0; have mN1b1 := N1b.out.c 1 (v := .slice none 0 0) rfl; have oN1b1 := N1b.out.fz 1; have yN1b := N1b.out.lt; have yaN1b1 : ¬ W1.heap.size + 1 = p1.heap.size := (by omega); have ybN1b1 : ¬ p1.heap.size = W1.heap.size + 1 := (by omega); have ycN1b1 : ¬ W1.heap.size + 1 = p1.heap.size + 1 := (by omega); have ydN1b1 : ¬ p1.heap.size + 1 = W1.heap.size + 1 := (by omega)) | skip); have S6 := Lib.hid hs; clear hs; have f0 : p1.cell? ⟨w.heap.size, 0, none⟩ = some (.bool (nOf (p))) := (X1.out.below BB1.out).c 0 rfl; have f1 : p1.cell? ⟨w.heap.size, 1, none⟩ = some (.slice A1 n1 c1) := (X1.out.below BB1.out).c 1 rfl; have f2 : p1.cell? ⟨w.heap.size, 2, none⟩ = some (.bool (nOf (q))) := (X1.out.below BB1.out).c 2 rfl; have f3 : p1.cell? ⟨w.heap.size, 3, none⟩ = some (.slice B1 m1 d1) := (X1.out.below BB1.out).c 3 rfl; have laX1 := (X1.out.below BB1.out).lt; have xa1X1 : ¬ p1.heap.size = w.heap.size := (by omega); have ya1X1 : ¬ w.heap.size = p1.heap.size := (by omega); have xb1X1 : ¬ p1.heap.size + 1 = w.heap.size := (by omega); have yb1X1 : ¬ w.heap.size = p1.heap.size + 1 := (by omega); clear hb) | (go_at_call 40; (with_reducible refine (ceil_ok (-qZ (-p) q) p q A1 B1 n1 c1 m1 d1 _ (by first | exact S1.out.below BB1.out | exact (S1.out.below BB1.out).drew | exact (S1.out.below BB1.out).alloc _ | exact (S1.out.below BB1.out).drew.alloc _ | exact ((S1.out.below BB1.out).alloc _).drew | exact ((S1.out.below BB1.out).alloc _).alloc _ | exact ((S1.out.below BB1.out).drew.alloc _).alloc _ | exact (((S1.out.below BB1.out).alloc _).alloc _).drew) (by first | exact S2.out.below BB1.out | exact (S2.out.below BB1.out).drew | exact (S2.out.below BB1.out).alloc _ | exact (S2.out.below BB1.out).drew.alloc _ | exact ((S2.out.below BB1.out).alloc _).drew | exact ((S2.out.below BB1.out).alloc _).alloc _ | exact ((S2.out.below BB1.out).drew.alloc _).alloc _ | exact (((S2.out.below BB1.out).alloc _).alloc _).drew) FA.out rfl).mono ?_); rintro e p2 ⟨T2, k2, i2, rfl, hs, hb⟩; have BB2 := Lib.hid (show Below W1.heap.size W1 p2 from (by first | exact below_up BB1.out hb | exact below_up BB1.out.drew hb | exact below_up (BB1.out.alloc BB1.out.size _) hb | exact below_up (BB1.out.drew.alloc BB1.out.drew.size _) hb | exact below_up (BB1.out.alloc BB1.out.size _).drew hb | exact below_up ((BB1.out.alloc BB1.out.size _).alloc (BB1.out.alloc BB1.out.size _).size _) hb | exact below_up ((BB1.out.drew.alloc BB1.out.drew.size _).alloc (BB1.out.drew.alloc BB1.out.drew.size _).size _) hb | exact below_up (((BB1.out.alloc BB1.out.size _).alloc (BB1.out.alloc BB1.out.size _).size _).drew) hb)); (first | (have N1a := Lib.hid (N1a.out.below hb)) | (have N1a := Lib.hid (N1a.out.drew.below hb)) | (have N1a := Lib.hid ((N1a.out.alloc _).below hb)) | (have N1a := Lib.hid (((N1a.out.alloc _).drew).below hb)) | (have N1a := Lib.hid ((N1a.out.drew.alloc _).below hb)) | (have N1a := Lib.hid (((N1a.out.alloc _).alloc _).below hb)) | (have N1a := Lib.hid (((N1a.out.drew.alloc _).alloc _).below hb)) | skip); (first | (have N1b := Lib.hid (N1b.out.below hb)) | (have N1b := Lib.hid (N1b.out.drew.below hb)) | (have N1b := Lib.hid ((N1b.out.alloc _).below hb)) | (have N1b := Lib.hid (((N1b.out.alloc _).drew).below hb)) | (have N1b := Lib.hid ((N1b.out.drew.alloc _).below hb)) | (have N1b := Lib.hid (((N1b.out.alloc _).alloc _).below hb)) | (have N1b := Lib.hid (((N1b.out.drew.alloc _).alloc _).below hb)) | skip); (first | (have N2a := Lib.hid (show Bk 24 p2 p1.heap.size #[.bool false, .slice none 0 0] from Bk.below (Bk.new 24 p1 #[.bool false, .slice none 0 0]) hb)) | (have N2a := Lib.hid (show Bk 24 p2 p1.heap.size #[.bool false, .slice none 0 0] from Bk.below (Bk.new 24 p1.drew #[.bool false, .slice none 0 0]) hb)) | (have N2a := Lib.hid (show Bk 24 p2 p1.heap.size #[.bool false, .slice none 0 0] from Bk.below (Bk.new 24 p1 #[.bool false, .slice none 0 0]).drew hb)) | (have N2a := Lib.hid (show Bk 24 p2 p1.heap.size #[.bool false, .slice none 0 0] from Bk.below ((Bk.new 24 p1 #[.bool false, .slice none 0 0]).alloc (.cells #[.bool false, .slice none 0 0] 24)) hb)) | (have N2a := Lib.hid (show Bk 24 p2 p1.heap.size #[.bool false, .slice none 0 0] from Bk.below ((Bk.new 24 p1.drew #[.bool false, .slice none 0 0]).alloc (.cells #[.bool false, .slice none 0 0] 24)) hb)) | skip); (first | (have N2b := Lib.hid (Bk.below (Bk.new 24 (p1.alloc (.cells #[.bool false, .slice none 0 0] 24)) #[.bool false, .slice none 0 0]) hb); rw [alloc_sz] at N2b) | (have N2b := Lib.hid (Bk.below (Bk.new 24 (p1.drew.alloc (.cells #[.bool false, .slice none 0 0] 24)) #[.bool false, .slice none 0 0]) hb); rw [alloc_sz] at N2b; have N2b := Lib.hid (show Bk 24 p2 (p1.heap.size + 1) #[.bool false, .slice none 0 0] from N2b.out)) | skip); (first | (have mN1a0 := N1a.out.c 0 (v := .bool false) rfl; have oN1a0 := N1a.out.fz 0; have mN1a1 := N1a.out.c 1 (v := .slice none 0 0) rfl; have oN1a1 := N1a.out.fz 1; have yN1a := N1a.out.lt; have yaN1a2 : ¬ W1.heap.size = p2.heap.size := (by omega); have ybN1a2 : ¬ p2.heap.size = W1.heap.size := (by omega); have ycN1a2 : ¬ W1.heap.size = p2.heap.size + 1 := (by omega); have ydN1a2 : ¬ p2.heap.size + 1 = W1.heap.size := (by omega)) | skip); (first | (have mN1b0 := N1b.out.c 0 (v := .bool false) rfl; have oN1b0 := N1b.out.fz 0; have mN1b1 := N1b.out.c 1 (v := .slice none 0 0) rfl; have oN1b1 := N1b.out.fz 1; have yN1b := N1b.out.lt; have yaN1b2 : ¬ W1.heap.size + 1 = p2.heap.size := (by omega); have ybN1b2 : ¬ p2.heap.size = W1.heap.size + 1 := (by omega); have ycN1b2 : ¬ W1.heap.size + 1 = p2.heap.size + 1 := (by omega); have ydN1b2 : ¬ p2.heap.size + 1 = W1.heap.size + 1 := (by omega)) | skip); (first | (have mN2a0 := N2a.out.c 0 (v := .bool false) rfl; have oN2a0 := N2a.out.fz 0; have mN2a1 := N2a.out.c 1 (v := .slice none 0 0) rfl; have oN2a1 := N2a.out.fz 1; have yN2a := N2a.out.lt; have yaN2a2 : ¬ p1.heap.size = p2.heap.size := (by omega); have ybN2a2 : ¬ p2.heap.size = p1.heap.size := (by omega); have ycN2a2 : ¬ p1.heap.size = p2.heap.size + 1 := (by omega); have ydN2a2 : ¬ p2.heap.size + 1 = p1.heap.size := (by omega)) | skip); (first | (have mN2b0 := N2b.out.c 0 (v := .bool false) rfl; have oN2b0 := N2b.out.fz 0; have mN2b1 := N2b.out.c 1 (v := .slice none 0 0) rfl; have oN2b1 := N2b.out.fz 1; have yN2b := N2b.out.lt; have yaN2b2 : ¬ p1.heap.size + 1 = p2.heap.size := (by omega); have ybN2b2 : ¬ p2.heap.size = p1.heap.size + 1 := (by omega); have ycN2b2 : ¬ p1.heap.size + 1 = p2.heap.size + 1 := (by omega); have ydN2b2 : ¬ p2.heap.size + 1 = p1.heap.size + 1 := (by omega)) | skip); have S6 := Lib.hid (by first | exact S6.out.below hb | exact S6.out.drew.below hb | exact (S6.out.alloc _).below hb | exact (S6.out.drew.alloc _).below hb | exact ((S6.out.alloc _).drew).below hb | exact ((S6.out.alloc _).alloc _).below hb | exact ((S6.out.drew.alloc _).alloc _).below hb); have S7 := Lib.hid hs; clear hs; have f0 : p2.cell? ⟨w.heap.size, 0, none⟩ = some (.bool (nOf (p))) := (X1.out.below BB2.out).c 0 rfl; have f1 : p2.cell? ⟨w.heap.size, 1, none⟩ = some (.slice A1 n1 c1) := (X1.out.below BB2.out).c 1 rfl; have f2 : p2.cell? ⟨w.heap.size, 2, none⟩ = some (.bool (nOf (q))) := (X1.out.below BB2.out).c 2 rfl; have f3 : p2.cell? ⟨w.heap.size, 3, none⟩ = some (.slice B1 m1 d1) := (X1.out.below BB2.out).c 3 rfl; have laX1 := (X1.out.below BB2.out).lt; have xa2X1 : ¬ p2.heap.size = w.heap.size := (by omega); have ya2X1 : ¬ w.heap.size = p2.heap.size := (by omega); have xb2X1 : ¬ p2.heap.size + 1 = w.heap.size := (by omega); have yb2X1 : ¬ w.heap.size = p2.heap.size + 1 := (by omega); clear hb))
          all_goals
            go_wp2_with fail
            go_meet
            have sz1 := BB1.out.size
            have sz2 := BB2.out.size
            first
              | (with_reducible exact two_aa BB2.out S6.out S7.out)
              | (with_reducible exact two_aa' BB2.out S6.out S7.out)
              | (with_reducible exact two_sa BB2.out S6.out S7.out N1a.out (by first | exact Nat.le_refl _ | exact BB1.out.size | exact BB2.out.size | omega))
              | (with_reducible exact two_sa' BB2.out S6.out S7.out N1a.out (by first | exact Nat.le_refl _ | exact BB1.out.size | exact BB2.out.size | omega))
              | (with_reducible exact two_sa BB2.out S6.out S7.out N1b.out (by first | exact Nat.le_refl _ | exact BB1.out.size | exact BB2.out.size | omega))
              | (with_reducible exact two_sa' BB2.out S6.out S7.out N1b.out (by first | exact Nat.le_refl _ | exact BB1.out.size | exact BB2.out.size | omega))
              | (with_reducible exact two_sa BB2.out S6.out S7.out N2a.out (by first | exact Nat.le_refl _ | exact BB1.out.size | exact BB2.out.size | omega))
              | (with_reducible exact two_sa' BB2.out S6.out S7.out N2a.out (by first | exact Nat.le_refl _ | exact BB1.out.size | exact BB2.out.size | omega))
              | (with_reducible exact two_sa BB2.out S6.out S7.out N2b.out (by first | exact Nat.le_refl _ | exact BB1.out.size | exact BB2.out.size | omega))
              | (with_reducible exact two_sa' BB2.out S6.out S7.out N2b.out (by first | exact Nat.le_refl _ | exact BB1.out.size | exact BB2.out.size | omega))
              | (with_reducible exact two_ss BB2.out S6.out S7.out N1a.out N1b.out (by first | exact Nat.le_refl _ | exact BB1.out.size | exact BB2.out.size | omega) (by first | exact Nat.le_refl _ | exact BB1.out.size | exact BB2.out.size | omega) (by omega))
              | (with_reducible exact two_ss BB2.out S6.out S7.out N1a.out N2a.out (by first | exact Nat.le_refl _ | exact BB1.out.size | exact BB2.out.size | omega) (by first | exact Nat.le_refl _ | exact BB1.out.size | exact BB2.out.size | omega) (by omega))
              | (with_reducible exact two_ss BB2.out S6.out S7.out N1a.out N2b.out (by first | exact Nat.le_refl _ | exact BB1.out.size | exact BB2.out.size | omega) (by first | exact Nat.le_refl _ | exact BB1.out.size | exact BB2.out.size | omega) (by omega))
              | (with_reducible exact two_ss BB2.out S6.out S7.out N1b.out N1a.out (by first | exact Nat.le_refl _ | exact BB1.out.size | exact BB2.out.size | omega) (by first | exact Nat.le_refl _ | exact BB1.out.size | exact BB2.out.size | omega) (by omega))
              | (with_reducible exact two_ss BB2.out S6.out S7.out N1b.out N2a.out (by first | exact Nat.le_refl _ | exact BB1.out.size | exact BB2.out.size | omega) (by first | exact Nat.le_refl _ | exact BB1.out.size | exact BB2.out.size | omega) (by omega))
              | (with_reducible exact two_ss BB2.out S6.out S7.out N1b.out N2b.out (by first | exact Nat.le_refl _ | exact BB1.out.size | exact BB2.out.size | omega) (by first | exact Nat.le_refl _ | exact BB1.out.size | exact BB2.out.size | omega) (by omega))
              | (with_reducible exact two_ss BB2.out S6.out S7.out N2a.out N1a.out (by first | exact Nat.le_refl _ | exact BB1.out.size | exact BB2.out.size | omega) (by first | exact Nat.le_refl _ | exact BB1.out.size | exact BB2.out.size | omega) (by omega))
              | (with_reducible exact two_ss BB2.out S6.out S7.out N2a.out N1b.out (by first | exact Nat.le_refl _ | exact BB1.out.size | exact BB2.out.size | omega) (by first | exact Nat.le_refl _ | exact BB1.out.size | exact BB2.out.size | omega) (by omega))
              | (with_reducible exact two_ss BB2.out S6.out S7.out N2a.out N2b.out (by first | exact Nat.le_refl _ | exact BB1.out.size | exact BB2.out.size | omega) (by first | exact Nat.le_refl _ | exact BB1.out.size | exact BB2.out.size | omega) (by omega))
              | (with_reducible exact two_ss BB2.out S6.out S7.out N2b.out N1a.out (by first | exact Nat.le_refl _ | exact BB1.out.size | exact BB2.out.size | omega) (by first | exact Nat.le_refl _ | exact BB1.out.size | exact BB2.out.size | omega) (by omega))
              | (with_reducible exact two_ss BB2.out S6.out S7.out N2b.out N1b.out (by first | exact Nat.le_refl _ | exact BB1.out.size | exact BB2.out.size | omega) (by first | exact Nat.le_refl _ | exact BB1.out.size | exact BB2.out.size | omega) (by omega))
              | (with_reducible exact two_ss BB2.out S6.out S7.out N2b.out N2a.out (by first | exact Nat.le_refl _ | exact BB1.out.size | exact BB2.out.size | omega) (by first | exact Nat.le_refl _ | exact BB1.out.size | exact BB2.out.size | omega) (by omega))
        case rest =>
          obtain ⟨bp0, bp1, T1, k1, i1, T2, k2, i2, rfl, rfl, hg1, hg2, hne, hx0, hx1, hs, ht, hb⟩ := hcut
          have S1 := Lib.hid (S1.out.below hb)
          have S2 := Lib.hid (S2.out.below hb)
          have TB := Lib.hid (tab_on TB.out hb)
          have BW := Lib.hid (below_on BW.out hb)
          have X1 := Lib.hid (X1.out.below hb)
          have S3 := Lib.hid (S3.out.below hb)
          have XO := Lib.hid (XO.out.below hb)
          clear hb
          have XF := Lib.hid hx0
          clear hx0
          have XC := Lib.hid hx1
          clear hx1
          have S6 := Lib.hid hs
          clear hs
          have S7 := Lib.hid ht
          clear ht
          clear hg1 hg2 hne
          generalize wc = W2 at *
          have e0 : W2.cell? ⟨bp0, 0, none⟩ = some (.bool (nOf (qZ p q))) := XF.out.c 0 rfl
          have e1 : W2.cell? ⟨bp0, 1, none⟩ = some (.slice T1 k1 i1) := XF.out.c 1 rfl
          have e2 : W2.cell? ⟨w2.heap.size, 0, none⟩ = some (.bool (nOf (1))) := XO.out.c 0 rfl
          have e3 : W2.cell? ⟨w2.heap.size, 1, none⟩ = some (.slice T k r) := XO.out.c 1 rfl
          go_wp2_with fail
          ((with_reducible refine (add_z (qZ p q) 1 T1 T k1 i1 k r _ S6.out S3.out FF.out (fit_small (by omega) (by omega))).mono ?_); rintro e w3 ⟨T3, k3, i3, rfl, hs, hb⟩)
          rw [FN.out]; rw [fitZ_of FN.out] at hs ⊢
          clear e0 e1 e2 e3
          have S1 := Lib.hid (S1.out.below hb)
          have S2 := Lib.hid (S2.out.below hb)
          have TB := Lib.hid (tab_on TB.out hb)
          have BW := Lib.hid (below_on BW.out hb)
          have X1 := Lib.hid (X1.out.below hb)
          have S3 := Lib.hid (S3.out.below hb)
          have XO := Lib.hid (XO.out.below hb)
          have XF := Lib.hid (XF.out.below hb)
          have XC := Lib.hid (XC.out.below hb)
          have S6 := Lib.hid (S6.out.below hb)
          have S7 := Lib.hid (S7.out.below hb)
          clear hb
          have S8 := Lib.hid hs
          clear hs
          have e0 : w3.cell? ⟨bp0, 0, none⟩ = some (.bool (nOf (qZ p q))) := XF.out.c 0 rfl
          have e1 : w3.cell? ⟨bp0, 1, none⟩ = some (.slice T1 k1 i1) := XF.out.c 1 rfl
          have e2 : w3.cell? ⟨w2.heap.size, 0, none⟩ = some (.bool (nOf (1))) := XO.out.c 0 rfl
          have e3 : w3.cell? ⟨w2.heap.size, 1, none⟩ = some (.slice T k r) := XO.out.c 1 rfl
          go_upto_region 6 with fail
          clear e0 e1 e2 e3
          have ln2 := X1.out.lt
          have ln3 := XO.out.lt
          have ln4 := XF.out.lt
          have ln5 := XC.out.lt
          have S1 := Lib.hid (S1.out.alloc (.cells #[.bool (nOf (qZ p q + 1)), .slice T3 k3 i3] 24))
          have S2 := Lib.hid (S2.out.alloc (.cells #[.bool (nOf (qZ p q + 1)), .slice T3 k3 i3] 24))
          have TB := Lib.hid (tab_on TB.out ((Below.refl _ _).alloc (Nat.le_refl _) (.cells #[.bool (nOf (qZ p q + 1)), .slice T3 k3 i3] 24)))
          have BW := Lib.hid (BW.out.alloc BW.out.size (.cells #[.bool (nOf (qZ p q + 1)), .slice T3 k3 i3] 24))
          have X1 := Lib.hid (X1.out.alloc (.cells #[.bool (nOf (qZ p q + 1)), .slice T3 k3 i3] 24))
          have S3 := Lib.hid (S3.out.alloc (.cells #[.bool (nOf (qZ p q + 1)), .slice T3 k3 i3] 24))
          have XO := Lib.hid (XO.out.alloc (.cells #[.bool (nOf (qZ p q + 1)), .slice T3 k3 i3] 24))
          have XF := Lib.hid (XF.out.alloc (.cells #[.bool (nOf (qZ p q + 1)), .slice T3 k3 i3] 24))
          have XC := Lib.hid (XC.out.alloc (.cells #[.bool (nOf (qZ p q + 1)), .slice T3 k3 i3] 24))
          have S6 := Lib.hid (S6.out.alloc (.cells #[.bool (nOf (qZ p q + 1)), .slice T3 k3 i3] 24))
          have S7 := Lib.hid (S7.out.alloc (.cells #[.bool (nOf (qZ p q + 1)), .slice T3 k3 i3] 24))
          have S8 := Lib.hid (S8.out.alloc (.cells #[.bool (nOf (qZ p q + 1)), .slice T3 k3 i3] 24))
          have XN := Lib.hid (Bk.new 24 w3 #[.bool (nOf (qZ p q + 1)), .slice T3 k3 i3])
          generalize (w3.alloc (.cells #[.bool (nOf (qZ p q + 1)), .slice T3 k3 i3] 24)) = W3 at *
          have S9 := S8
          clear S8
          have e0 : W3.cell? ⟨bp0, 0, none⟩ = some (.bool (nOf (qZ p q))) := XF.out.c 0 rfl
          have e1 : W3.cell? ⟨bp0, 1, none⟩ = some (.slice T1 k1 i1) := XF.out.c 1 rfl
          have e2 : W3.cell? ⟨w2.heap.size, 0, none⟩ = some (.bool (nOf (1))) := XO.out.c 0 rfl
          have e3 : W3.cell? ⟨w2.heap.size, 1, none⟩ = some (.slice T k r) := XO.out.c 1 rfl
          have e4 : W3.cell? ⟨w3.heap.size, 0, none⟩ = some (.bool (nOf (qZ p q + 1))) := XN.out.c 0 rfl
          have e5 : W3.cell? ⟨w3.heap.size, 1, none⟩ = some (.slice T3 k3 i3) := XN.out.c 1 rfl
          go_wp2_with fail
          ((with_reducible refine (rof_ok (qZ p q) 1 (qZ p q) 1 T1 T k1 i1 k r _ S6.out S3.out FF.out (fit_small (by omega) (by omega)) (by omega) (lo_ex (p := qZ p q) (q := 1) (n := qZ p q) (d := 1) (by omega) (by omega) (by simp) rfl).1 (lo_ex (p := qZ p q) (q := 1) (n := qZ p q) (d := 1) (by omega) (by omega) (by simp) rfl).2).mono ?_); rintro e w10 ⟨T10, k10, i10, U10, l10, j10, rfl, hs, ht, hb⟩)
          clear e0 e1 e2 e3 e4 e5
          have S1 := Lib.hid (S1.out.below hb)
          have S2 := Lib.hid (S2.out.below hb)
          have TB := Lib.hid (tab_on TB.out hb)
          have BW := Lib.hid (below_on BW.out hb)
          have X1 := Lib.hid (X1.out.below hb)
          have S3 := Lib.hid (S3.out.below hb)
          have XO := Lib.hid (XO.out.below hb)
          have XF := Lib.hid (XF.out.below hb)
          have XC := Lib.hid (XC.out.below hb)
          have S6 := Lib.hid (S6.out.below hb)
          have S7 := Lib.hid (S7.out.below hb)
          have XN := Lib.hid (XN.out.below hb)
          have S9 := Lib.hid (S9.out.below hb)
          clear hb
          have S10 := Lib.hid hs
          have V10 := Lib.hid ht
          clear hs ht
          have e0 : w10.cell? ⟨bp0, 0, none⟩ = some (.bool (nOf (qZ p q))) := XF.out.c 0 rfl
          have e1 : w10.cell? ⟨bp0, 1, none⟩ = some (.slice T1 k1 i1) := XF.out.c 1 rfl
          have e2 : w10.cell? ⟨w2.heap.size, 0, none⟩ = some (.bool (nOf (1))) := XO.out.c 0 rfl
          have e3 : w10.cell? ⟨w2.heap.size, 1, none⟩ = some (.slice T k r) := XO.out.c 1 rfl
          have e4 : w10.cell? ⟨w3.heap.size, 0, none⟩ = some (.bool (nOf (qZ p q + 1))) := XN.out.c 0 rfl
          have e5 : w10.cell? ⟨w3.heap.size, 1, none⟩ = some (.slice T3 k3 i3) := XN.out.c 1 rfl
          go_upto_region 7 with fail
          clear e0 e1 e2 e3 e4 e5
          have ln6 := X1.out.lt
          have ln7 := XO.out.lt
          have ln8 := XF.out.lt
          have ln9 := XC.out.lt
          have ln10 := XN.out.lt
          have S1 := Lib.hid (S1.out.alloc (.cells #[.bool (nOf (qZ p q)), .slice T10 k10 i10, .bool (nOf (1)), .slice U10 l10 j10] 37))
          have S2 := Lib.hid (S2.out.alloc (.cells #[.bool (nOf (qZ p q)), .slice T10 k10 i10, .bool (nOf (1)), .slice U10 l10 j10] 37))
          have TB := Lib.hid (tab_on TB.out ((Below.refl _ _).alloc (Nat.le_refl _) (.cells #[.bool (nOf (qZ p q)), .slice T10 k10 i10, .bool (nOf (1)), .slice U10 l10 j10] 37)))
          have BW := Lib.hid (BW.out.alloc BW.out.size (.cells #[.bool (nOf (qZ p q)), .slice T10 k10 i10, .bool (nOf (1)), .slice U10 l10 j10] 37))
          have X1 := Lib.hid (X1.out.alloc (.cells #[.bool (nOf (qZ p q)), .slice T10 k10 i10, .bool (nOf (1)), .slice U10 l10 j10] 37))
          have S3 := Lib.hid (S3.out.alloc (.cells #[.bool (nOf (qZ p q)), .slice T10 k10 i10, .bool (nOf (1)), .slice U10 l10 j10] 37))
          have XO := Lib.hid (XO.out.alloc (.cells #[.bool (nOf (qZ p q)), .slice T10 k10 i10, .bool (nOf (1)), .slice U10 l10 j10] 37))
          have XF := Lib.hid (XF.out.alloc (.cells #[.bool (nOf (qZ p q)), .slice T10 k10 i10, .bool (nOf (1)), .slice U10 l10 j10] 37))
          have XC := Lib.hid (XC.out.alloc (.cells #[.bool (nOf (qZ p q)), .slice T10 k10 i10, .bool (nOf (1)), .slice U10 l10 j10] 37))
          have S6 := Lib.hid (S6.out.alloc (.cells #[.bool (nOf (qZ p q)), .slice T10 k10 i10, .bool (nOf (1)), .slice U10 l10 j10] 37))
          have S7 := Lib.hid (S7.out.alloc (.cells #[.bool (nOf (qZ p q)), .slice T10 k10 i10, .bool (nOf (1)), .slice U10 l10 j10] 37))
          have XN := Lib.hid (XN.out.alloc (.cells #[.bool (nOf (qZ p q)), .slice T10 k10 i10, .bool (nOf (1)), .slice U10 l10 j10] 37))
          have S9 := Lib.hid (S9.out.alloc (.cells #[.bool (nOf (qZ p q)), .slice T10 k10 i10, .bool (nOf (1)), .slice U10 l10 j10] 37))
          have S10 := Lib.hid (S10.out.alloc (.cells #[.bool (nOf (qZ p q)), .slice T10 k10 i10, .bool (nOf (1)), .slice U10 l10 j10] 37))
          have V10 := Lib.hid (V10.out.alloc (.cells #[.bool (nOf (qZ p q)), .slice T10 k10 i10, .bool (nOf (1)), .slice U10 l10 j10] 37))
          have XX := Lib.hid (Bk.new 37 w10 #[.bool (nOf (qZ p q)), .slice T10 k10 i10, .bool (nOf (1)), .slice U10 l10 j10])
          generalize (w10.alloc (.cells #[.bool (nOf (qZ p q)), .slice T10 k10 i10, .bool (nOf (1)), .slice U10 l10 j10] 37)) = W10 at *
          have e0 : W10.cell? ⟨bp0, 0, none⟩ = some (.bool (nOf (qZ p q))) := XF.out.c 0 rfl
          have e1 : W10.cell? ⟨bp0, 1, none⟩ = some (.slice T1 k1 i1) := XF.out.c 1 rfl
          have e2 : W10.cell? ⟨w2.heap.size, 0, none⟩ = some (.bool (nOf (1))) := XO.out.c 0 rfl
          have e3 : W10.cell? ⟨w2.heap.size, 1, none⟩ = some (.slice T k r) := XO.out.c 1 rfl
          have e4 : W10.cell? ⟨w3.heap.size, 0, none⟩ = some (.bool (nOf (qZ p q + 1))) := XN.out.c 0 rfl
          have e5 : W10.cell? ⟨w3.heap.size, 1, none⟩ = some (.slice T3 k3 i3) := XN.out.c 1 rfl
          go_wp2_with fail
          ((with_reducible refine (rof_ok (qZ p q + 1) 1 (qZ p q + 1) 1 T3 T k3 i3 k r _ S9.out S3.out FN.out (fit_small (by omega) (by omega)) (by omega) (lo_ex (p := qZ p q + 1) (q := 1) (n := qZ p q + 1) (d := 1) (by omega) (by omega) (by simp) rfl).1 (lo_ex (p := qZ p q + 1) (q := 1) (n := qZ p q + 1) (d := 1) (by omega) (by omega) (by simp) rfl).2).mono ?_); rintro e w11 ⟨T11, k11, i11, U11, l11, j11, rfl, hs, ht, hb⟩)
          clear e0 e1 e2 e3 e4 e5
          have S1 := Lib.hid (S1.out.below hb)
          have S2 := Lib.hid (S2.out.below hb)
          have TB := Lib.hid (tab_on TB.out hb)
          have BW := Lib.hid (below_on BW.out hb)
          have X1 := Lib.hid (X1.out.below hb)
          have S3 := Lib.hid (S3.out.below hb)
          have XO := Lib.hid (XO.out.below hb)
          have XF := Lib.hid (XF.out.below hb)
          have XC := Lib.hid (XC.out.below hb)
          have S6 := Lib.hid (S6.out.below hb)
          have S7 := Lib.hid (S7.out.below hb)
          have XN := Lib.hid (XN.out.below hb)
          have S9 := Lib.hid (S9.out.below hb)
          have S10 := Lib.hid (S10.out.below hb)
          have V10 := Lib.hid (V10.out.below hb)
          have XX := Lib.hid (XX.out.below hb)
          clear hb
          have S11 := Lib.hid hs
          have V11 := Lib.hid ht
          clear hs ht
          have e0 : w11.cell? ⟨bp0, 0, none⟩ = some (.bool (nOf (qZ p q))) := XF.out.c 0 rfl
          have e1 : w11.cell? ⟨bp0, 1, none⟩ = some (.slice T1 k1 i1) := XF.out.c 1 rfl
          have e2 : w11.cell? ⟨w2.heap.size, 0, none⟩ = some (.bool (nOf (1))) := XO.out.c 0 rfl
          have e3 : w11.cell? ⟨w2.heap.size, 1, none⟩ = some (.slice T k r) := XO.out.c 1 rfl
          have e4 : w11.cell? ⟨w3.heap.size, 0, none⟩ = some (.bool (nOf (qZ p q + 1))) := XN.out.c 0 rfl
          have e5 : w11.cell? ⟨w3.heap.size, 1, none⟩ = some (.slice T3 k3 i3) := XN.out.c 1 rfl
          go_upto_region 8 with fail
          clear e0 e1 e2 e3 e4 e5
          have ln11 := X1.out.lt
          have ln12 := XO.out.lt
          have ln13 := XF.out.lt
          have ln14 := XC.out.lt
          have ln15 := XN.out.lt
          have ln16 := XX.out.lt
          have S1 := Lib.hid (S1.out.alloc (.cells #[.bool (nOf (qZ p q + 1)), .slice T11 k11 i11, .bool (nOf (1)), .slice U11 l11 j11] 37))
          have S2 := Lib.hid (S2.out.alloc (.cells #[.bool (nOf (qZ p q + 1)), .slice T11 k11 i11, .bool (nOf (1)), .slice U11 l11 j11] 37))
          have TB := Lib.hid (tab_on TB.out ((Below.refl _ _).alloc (Nat.le_refl _) (.cells #[.bool (nOf (qZ p q + 1)), .slice T11 k11 i11, .bool (nOf (1)), .slice U11 l11 j11] 37)))
          have BW := Lib.hid (BW.out.alloc BW.out.size (.cells #[.bool (nOf (qZ p q + 1)), .slice T11 k11 i11, .bool (nOf (1)), .slice U11 l11 j11] 37))
          have X1 := Lib.hid (X1.out.alloc (.cells #[.bool (nOf (qZ p q + 1)), .slice T11 k11 i11, .bool (nOf (1)), .slice U11 l11 j11] 37))
          have S3 := Lib.hid (S3.out.alloc (.cells #[.bool (nOf (qZ p q + 1)), .slice T11 k11 i11, .bool (nOf (1)), .slice U11 l11 j11] 37))
          have XO := Lib.hid (XO.out.alloc (.cells #[.bool (nOf (qZ p q + 1)), .slice T11 k11 i11, .bool (nOf (1)), .slice U11 l11 j11] 37))
          have XF := Lib.hid (XF.out.alloc (.cells #[.bool (nOf (qZ p q + 1)), .slice T11 k11 i11, .bool (nOf (1)), .slice U11 l11 j11] 37))
          have XC := Lib.hid (XC.out.alloc (.cells #[.bool (nOf (qZ p q + 1)), .slice T11 k11 i11, .bool (nOf (1)), .slice U11 l11 j11] 37))
          have S6 := Lib.hid (S6.out.alloc (.cells #[.bool (nOf (qZ p q + 1)), .slice T11 k11 i11, .bool (nOf (1)), .slice U11 l11 j11] 37))
          have S7 := Lib.hid (S7.out.alloc (.cells #[.bool (nOf (qZ p q + 1)), .slice T11 k11 i11, .bool (nOf (1)), .slice U11 l11 j11] 37))
          have XN := Lib.hid (XN.out.alloc (.cells #[.bool (nOf (qZ p q + 1)), .slice T11 k11 i11, .bool (nOf (1)), .slice U11 l11 j11] 37))
          have S9 := Lib.hid (S9.out.alloc (.cells #[.bool (nOf (qZ p q + 1)), .slice T11 k11 i11, .bool (nOf (1)), .slice U11 l11 j11] 37))
          have S10 := Lib.hid (S10.out.alloc (.cells #[.bool (nOf (qZ p q + 1)), .slice T11 k11 i11, .bool (nOf (1)), .slice U11 l11 j11] 37))
          have V10 := Lib.hid (V10.out.alloc (.cells #[.bool (nOf (qZ p q + 1)), .slice T11 k11 i11, .bool (nOf (1)), .slice U11 l11 j11] 37))
          have XX := Lib.hid (XX.out.alloc (.cells #[.bool (nOf (qZ p q + 1)), .slice T11 k11 i11, .bool (nOf (1)), .slice U11 l11 j11] 37))
          have S11 := Lib.hid (S11.out.alloc (.cells #[.bool (nOf (qZ p q + 1)), .slice T11 k11 i11, .bool (nOf (1)), .slice U11 l11 j11] 37))
          have V11 := Lib.hid (V11.out.alloc (.cells #[.bool (nOf (qZ p q + 1)), .slice T11 k11 i11, .bool (nOf (1)), .slice U11 l11 j11] 37))
          have XY := Lib.hid (Bk.new 37 w11 #[.bool (nOf (qZ p q + 1)), .slice T11 k11 i11, .bool (nOf (1)), .slice U11 l11 j11])
          generalize (w11.alloc (.cells #[.bool (nOf (qZ p q + 1)), .slice T11 k11 i11, .bool (nOf (1)), .slice U11 l11 j11] 37)) = W11 at *
          have e0 : W11.cell? ⟨w10.heap.size, 0, none⟩ = some (.bool (nOf (qZ p q))) := XX.out.c 0 rfl
          have e1 : W11.cell? ⟨w10.heap.size, 1, none⟩ = some (.slice T10 k10 i10) := XX.out.c 1 rfl
          have e2 : W11.cell? ⟨w10.heap.size, 2, none⟩ = some (.bool (nOf (1))) := XX.out.c 2 rfl
          have e3 : W11.cell? ⟨w10.heap.size, 3, none⟩ = some (.slice U10 l10 j10) := XX.out.c 3 rfl
          have e4 : W11.cell? ⟨w.heap.size, 0, none⟩ = some (.bool (nOf (p))) := X1.out.c 0 rfl
          have e5 : W11.cell? ⟨w.heap.size, 1, none⟩ = some (.slice A1 n1 c1) := X1.out.c 1 rfl
          have e6 : W11.cell? ⟨w.heap.size, 2, none⟩ = some (.bool (nOf (q))) := X1.out.c 2 rfl
          have e7 : W11.cell? ⟨w.heap.size, 3, none⟩ = some (.slice B1 m1 d1) := X1.out.c 3 rfl
          go_wp2_with fail
          ((with_reducible refine (rcmp_ok (qZ p q) 1 p q v1 T10 U10 A1 B1 k10 i10 l10 j10 n1 c1 m1 d1 _ S10.out V10.out S1.out S2.out (Fr.whole FF.out) FA.out C1.out).mono ?_); rintro e w12 ⟨rfl, hb⟩)
          clear e0 e1 e2 e3 e4 e5 e6 e7
          have S1 := Lib.hid (S1.out.below hb)
          have S2 := Lib.hid (S2.out.below hb)
          have TB := Lib.hid (tab_on TB.out hb)
          have BW := Lib.hid (below_on BW.out hb)
          have X1 := Lib.hid (X1.out.below hb)
          have S3 := Lib.hid (S3.out.below hb)
          have XO := Lib.hid (XO.out.below hb)
          have XF := Lib.hid (XF.out.below hb)
          have XC := Lib.hid (XC.out.below hb)
          have S6 := Lib.hid (S6.out.below hb)
          have S7 := Lib.hid (S7.out.below hb)
          have XN := Lib.hid (XN.out.below hb)
          have S9 := Lib.hid (S9.out.below hb)
          have S10 := Lib.hid (S10.out.below hb)
          have V10 := Lib.hid (V10.out.below hb)
          have XX := Lib.hid (XX.out.below hb)
          have S11 := Lib.hid (S11.out.below hb)
          have V11 := Lib.hid (V11.out.below hb)
          have XY := Lib.hid (XY.out.below hb)
          clear hb
          have e0 : w12.cell? ⟨w.heap.size, 0, none⟩ = some (.bool (nOf (p))) := X1.out.c 0 rfl
          have e1 : w12.cell? ⟨w.heap.size, 1, none⟩ = some (.slice A1 n1 c1) := X1.out.c 1 rfl
          have e2 : w12.cell? ⟨w.heap.size, 2, none⟩ = some (.bool (nOf (q))) := X1.out.c 2 rfl
          have e3 : w12.cell? ⟨w.heap.size, 3, none⟩ = some (.slice B1 m1 d1) := X1.out.c 3 rfl
          have e4 : w12.cell? ⟨w11.heap.size, 0, none⟩ = some (.bool (nOf (qZ p q + 1))) := XY.out.c 0 rfl
          have e5 : w12.cell? ⟨w11.heap.size, 1, none⟩ = some (.slice T11 k11 i11) := XY.out.c 1 rfl
          have e6 : w12.cell? ⟨w11.heap.size, 2, none⟩ = some (.bool (nOf (1))) := XY.out.c 2 rfl
          have e7 : w12.cell? ⟨w11.heap.size, 3, none⟩ = some (.slice U11 l11 j11) := XY.out.c 3 rfl
          go_wp2_with fail
          ((with_reducible refine (rcmp_ok p q (qZ p q + 1) 1 (-1) A1 B1 T11 U11 n1 c1 m1 d1 k11 i11 l11 j11 _ S1.out S2.out S11.out V11.out FA.out (Fr.whole FN.out) C2.out).mono ?_); rintro e w13 ⟨rfl, hb⟩)
          clear e0 e1 e2 e3 e4 e5 e6 e7
          have S1 := Lib.hid (S1.out.below hb)
          have S2 := Lib.hid (S2.out.below hb)
          have TB := Lib.hid (tab_on TB.out hb)
          have BW := Lib.hid (below_on BW.out hb)
          have X1 := Lib.hid (X1.out.below hb)
          have S3 := Lib.hid (S3.out.below hb)
          have XO := Lib.hid (XO.out.below hb)
          have XF := Lib.hid (XF.out.below hb)
          have XC := Lib.hid (XC.out.below hb)
          have S6 := Lib.hid (S6.out.below hb)
          have S7 := Lib.hid (S7.out.below hb)
          have XN := Lib.hid (XN.out.below hb)
          have S9 := Lib.hid (S9.out.below hb)
          have S10 := Lib.hid (S10.out.below hb)
          have V10 := Lib.hid (V10.out.below hb)
          have XX := Lib.hid (XX.out.below hb)
          have S11 := Lib.hid (S11.out.below hb)
          have V11 := Lib.hid (V11.out.below hb)
          have XY := Lib.hid (XY.out.below hb)
          clear hb
          have e0 : w13.cell? ⟨w.heap.size, 0, none⟩ = some (.bool (nOf (p))) := X1.out.c 0 rfl
          have e1 : w13.cell? ⟨w.heap.size, 1, none⟩ = some (.slice A1 n1 c1) := X1.out.c 1 rfl
          have e2 : w13.cell? ⟨w.heap.size, 2, none⟩ = some (.bool (nOf (q))) := X1.out.c 2 rfl
          have e3 : w13.cell? ⟨w.heap.size, 3, none⟩ = some (.slice B1 m1 d1) := X1.out.c 3 rfl
          go_wp2_with fail
          ((with_reducible refine (awake3_any _ TB.out).mono ?_); rintro e w14 ⟨rfl, hb⟩)
          clear e0 e1 e2 e3
          have S1 := Lib.hid (S1.out.below hb)
          have S2 := Lib.hid (S2.out.below hb)
          have TB := Lib.hid (tab_on TB.out hb)
          have BW := Lib.hid (below_on BW.out hb)
          have X1 := Lib.hid (X1.out.below hb)
          have S3 := Lib.hid (S3.out.below hb)
          have XO := Lib.hid (XO.out.below hb)
          have XF := Lib.hid (XF.out.below hb)
          have XC := Lib.hid (XC.out.below hb)
          have S6 := Lib.hid (S6.out.below hb)
          have S7 := Lib.hid (S7.out.below hb)
          have XN := Lib.hid (XN.out.below hb)
          have S9 := Lib.hid (S9.out.below hb)
          have S10 := Lib.hid (S10.out.below hb)
          have V10 := Lib.hid (V10.out.below hb)
          have XX := Lib.hid (XX.out.below hb)
          have S11 := Lib.hid (S11.out.below hb)
          have V11 := Lib.hid (V11.out.below hb)
          have XY := Lib.hid (XY.out.below hb)
          clear hb
          go_upto_region 10 with fail
          go_cut [12] (fun vq0 wx => ∃ (bq0 : Nat) (T15 : Option Addr) (k15 i15 : Nat), vq0 = .pointer (some ⟨bq0, 0, none⟩) ∧ w14.heap.size ≤ bq0 ∧ Bk 37 wx bq0 #[.bool (nOf (-p)), .slice T15 k15 i15, .bool (nOf (q)), .slice B1 m1 d1] ∧ Sl wx T15 k15 i15 (lOf (-p)) ∧ Below w14.heap.size w14 wx)
          case first =>
            have e0 : w14.cell? ⟨w.heap.size, 0, none⟩ = some (.bool (nOf (p))) := X1.out.c 0 rfl
            have e1 : w14.cell? ⟨w.heap.size, 1, none⟩ = some (.slice A1 n1 c1) := X1.out.c 1 rfl
            have e2 : w14.cell? ⟨w.heap.size, 2, none⟩ = some (.bool (nOf (q))) := X1.out.c 2 rfl
            have e3 : w14.cell? ⟨w.heap.size, 3, none⟩ = some (.slice B1 m1 d1) := X1.out.c 3 rfl
            have laX1 := X1.out.lt
            have xa0X1 : ¬ w14.heap.size = w.heap.size := by omega
            have ya0X1 : ¬ w.heap.size = w14.heap.size := by omega
            have BB0 := Lib.hid (Below.refl w14.heap.size w14)
            go_region_held3 (fun w' => w'.cell? ⟨w.heap.size, 0, none⟩ = some (.bool (nOf (p))) ∧ w'.cell? ⟨w.heap.size, 1, none⟩ = some (.slice A1 n1 c1) ∧ w'.cell? ⟨w.heap.size, 2, none⟩ = some (.bool (nOf (q))) ∧ w'.cell? ⟨w.heap.size, 3, none⟩ = some (.slice B1 m1 d1)) (go_keep)
              (first | (go_at_call 42; (with_reducible refine (neg_z p A1 n1 c1 _ (by first | exact S1.out.below BB0.out | exact (S1.out.below BB0.out).drew | exact (S1.out.below BB0.out).alloc _ | exact (S1.out.below BB0.out).drew.alloc _ | exact ((S1.out.below BB0.out).alloc _).drew) FA.out.fn).mono ?_); rintro e q1 ⟨T15, k15, i15, rfl, hs, hb⟩; have BB1 := Lib.hid (show Below w14.heap.size w14 q1 from (by first | exact below_up BB0.out hb | exact below_up BB0.out.drew hb | exact below_up (BB0.out.alloc BB0.out.size _) hb | exact below_up (BB0.out.drew.alloc BB0.out.drew.size _) hb | exact below_up (BB0.out.alloc BB0.out.size _).drew hb)); (first | (have N1a := Lib.hid (show Bk 37 q1 w14.heap.size #[.bool false, .slice none 0 0, .bool false, .slice none 0 0] from Bk.below (Bk.new 37 w14 #[.bool false, .slice none 0 0, .bool false, .slice none 0 0]) hb)) | (have N1a := Lib.hid (show Bk 37 q1 w14.heap.size #[.bool false, .slice none 0 0, .bool false, .slice none 0 0] from Bk.below (Bk.new 37 w14.drew #[.bool false, .slice none 0 0, .bool false, .slice none 0 0]) hb)) | (have N1a := Lib.hid (show Bk 37 q1 w14.heap.size #[.bool false, .slice none 0 0, .bool false, .slice none 0 0] from Bk.below (Bk.new 37 w14 #[.bool false, .slice none 0 0, .bool false, .slice none 0 0]).drew hb)) | skip); (first | (have mN1a0 := N1a.out.c 0 (v := .bool false) rfl; have oN1a0 := N1a.out.fz 0; have mN1a1 := N1a.out.c 1 (v := .slice none 0 0) rfl; have oN1a1 := N1a.out.fz 1; have mN1a2 := N1a.out.c 2 (v := .bool false) rfl; have oN1a2 := N1a.out.fz 2; have mN1a3 := N1a.out.c 3 (v := .slice none 0 0) rfl; have oN1a3 := N1a.out.fz 3; have yN1a := N1a.out.lt; have yaN1a1 : ¬ w14.heap.size = q1.heap.size := (by omega); have ybN1a1 : ¬ q1.heap.size = w14.heap.size := (by omega); have ycN1a1 : ¬ w14.heap.size = q1.heap.size + 1 := (by omega); have ydN1a1 : ¬ q1.heap.size + 1 = w14.heap.size := (by omega)) | skip); have S15 := Lib.hid hs; clear hs; have f0 : q1.cell? ⟨w.heap.size, 0, none⟩ = some (.bool (nOf (p))) := (X1.out.below BB1.out).c 0 rfl; have f1 : q1.cell? ⟨w.heap.size, 1, none⟩ = some (.slice A1 n1 c1) := (X1.out.below BB1.out).c 1 rfl; have f2 : q1.cell? ⟨w.heap.size, 2, none⟩ = some (.bool (nOf (q))) := (X1.out.below BB1.out).c 2 rfl; have f3 : q1.cell? ⟨w.heap.size, 3, none⟩ = some (.slice B1 m1 d1) := (X1.out.below BB1.out).c 3 rfl; have laX1 := (X1.out.below BB1.out).lt; have xa1X1 : ¬ q1.heap.size = w.heap.size := (by omega); have ya1X1 : ¬ w.heap.size = q1.heap.size := (by omega); clear hb))
            all_goals (go_wp2_with fail; go_meet; (first | exact ⟨_, T15, k15, i15, rfl, (by first | exact Nat.le_refl _ | exact BB1.out.size), N1a.out.set4 _ _ _ _, S15.out.bk4 N1a.out _ _ _ _, below_set4 BB1.out (by first | exact Nat.le_refl _ | exact BB1.out.size) _ _ _ _⟩ | exact ⟨_, T15, k15, i15, rfl, (by first | exact Nat.le_refl _ | exact BB1.out.size), Bk.new _ _ _, S15.out.alloc _, BB1.out.alloc BB1.out.size _⟩))
          case rest =>
            obtain ⟨bq0, T15, k15, i15, rfl, hge, hx0, hs, hb⟩ := hcut
            have S1 := Lib.hid (S1.out.below hb)
            have S2 := Lib.hid (S2.out.below hb)
            have TB := Lib.hid (tab_on TB.out hb)
            have BW := Lib.hid (below_on BW.out hb)
            have X1 := Lib.hid (X1.out.below hb)
            have S3 := Lib.hid (S3.out.below hb)
            have XO := Lib.hid (XO.out.below hb)
            have XF := Lib.hid (XF.out.below hb)
            have XC := Lib.hid (XC.out.below hb)
            have S6 := Lib.hid (S6.out.below hb)
            have S7 := Lib.hid (S7.out.below hb)
            have XN := Lib.hid (XN.out.below hb)
            have S9 := Lib.hid (S9.out.below hb)
            have S10 := Lib.hid (S10.out.below hb)
            have V10 := Lib.hid (V10.out.below hb)
            have XX := Lib.hid (XX.out.below hb)
            have S11 := Lib.hid (S11.out.below hb)
            have V11 := Lib.hid (V11.out.below hb)
            have XY := Lib.hid (XY.out.below hb)
            clear hb
            have XM := Lib.hid hx0
            clear hx0
            have S15 := Lib.hid hs
            clear hs
            clear hge
            generalize wc = W15 at *
            go_upto_region 11 with fail
            have e0 : W15.cell? ⟨bp1, 0, none⟩ = some (.bool (nOf (-qZ (-p) q))) := XC.out.c 0 rfl
            have e1 : W15.cell? ⟨bp1, 1, none⟩ = some (.slice T2 k2 i2) := XC.out.c 1 rfl
            have e2 : W15.cell? ⟨bq0, 0, none⟩ = some (.bool (nOf (-p))) := XM.out.c 0 rfl
            have e3 : W15.cell? ⟨bq0, 1, none⟩ = some (.slice T15 k15 i15) := XM.out.c 1 rfl
            have e4 : W15.cell? ⟨bq0, 2, none⟩ = some (.bool (nOf (q))) := XM.out.c 2 rfl
            have e5 : W15.cell? ⟨bq0, 3, none⟩ = some (.slice B1 m1 d1) := XM.out.c 3 rfl
            have e6 : W15.cell? ⟨bp0, 0, none⟩ = some (.bool (nOf (qZ p q))) := XF.out.c 0 rfl
            have e7 : W15.cell? ⟨bp0, 1, none⟩ = some (.slice T1 k1 i1) := XF.out.c 1 rfl
            go_region_held3 (fun w' => w'.cell? ⟨bp1, 0, none⟩ = some (.bool (nOf (-qZ (-p) q))) ∧ w'.cell? ⟨bp1, 1, none⟩ = some (.slice T2 k2 i2) ∧ w'.cell? ⟨bq0, 0, none⟩ = some (.bool (nOf (-p))) ∧ w'.cell? ⟨bq0, 1, none⟩ = some (.slice T15 k15 i15) ∧ w'.cell? ⟨bq0, 2, none⟩ = some (.bool (nOf (q))) ∧ w'.cell? ⟨bq0, 3, none⟩ = some (.slice B1 m1 d1) ∧ w'.cell? ⟨bp0, 0, none⟩ = some (.bool (nOf (qZ p q))) ∧ w'.cell? ⟨bp0, 1, none⟩ = some (.slice T1 k1 i1)) (go_keep)
              (first | (go_at_call 39; (with_reducible refine (floor_ok (qZ (-p) q) (-p) q T15 B1 k15 i15 m1 d1 _ (by first | exact S15.out | exact S15.out.drew) (by first | exact S2.out | exact S2.out.drew) FA.out.neg rfl).mono ?_); rintro e r1 ⟨T16, k16, i16, rfl, hs, hb⟩; have BB1 := Lib.hid (show Below W15.heap.size W15 r1 from (by first | exact hb | exact (Below.refl _ _).drew.trans (hb.mono (Nat.le_refl _)))); have S16 := Lib.hid hs; clear hs; have f0 : r1.cell? ⟨bp1, 0, none⟩ = some (.bool (nOf (-qZ (-p) q))) := (XC.out.below BB1.out).c 0 rfl; have f1 : r1.cell? ⟨bp1, 1, none⟩ = some (.slice T2 k2 i2) := (XC.out.below BB1.out).c 1 rfl; have f2 : r1.cell? ⟨bq0, 0, none⟩ = some (.bool (nOf (-p))) := (XM.out.below BB1.out).c 0 rfl; have f3 : r1.cell? ⟨bq0, 1, none⟩ = some (.slice T15 k15 i15) := (XM.out.below BB1.out).c 1 rfl; have f4 : r1.cell? ⟨bq0, 2, none⟩ = some (.bool (nOf (q))) := (XM.out.below BB1.out).c 2 rfl; have f5 : r1.cell? ⟨bq0, 3, none⟩ = some (.slice B1 m1 d1) := (XM.out.below BB1.out).c 3 rfl; have f6 : r1.cell? ⟨bp0, 0, none⟩ = some (.bool (nOf (qZ p q))) := (XF.out.below BB1.out).c 0 rfl; have f7 : r1.cell? ⟨bp0, 1, none⟩ = some (.slice T1 k1 i1) := (XF.out.below BB1.out).c 1 rfl; clear hb) | (go_at_call 42; (with_reducible refine (neg_z (qZ (-p) q) T16 k16 i16 _ S16.out (fit_q HQ.out FA.out.neg.fn)).mono ?_); rintro e r2 ⟨T17, k17, i17, rfl, hs, hb⟩; have BB2 := Lib.hid (below_up BB1.out hb); have S16 := Lib.hid (S16.out.below hb); have S17 := Lib.hid hs; clear hs; have f0 : r2.cell? ⟨bp1, 0, none⟩ = some (.bool (nOf (-qZ (-p) q))) := (XC.out.below BB2.out).c 0 rfl; have f1 : r2.cell? ⟨bp1, 1, none⟩ = some (.slice T2 k2 i2) := (XC.out.below BB2.out).c 1 rfl; have f2 : r2.cell? ⟨bq0, 0, none⟩ = some (.bool (nOf (-p))) := (XM.out.below BB2.out).c 0 rfl; have f3 : r2.cell? ⟨bq0, 1, none⟩ = some (.slice T15 k15 i15) := (XM.out.below BB2.out).c 1 rfl; have f4 : r2.cell? ⟨bq0, 2, none⟩ = some (.bool (nOf (q))) := (XM.out.below BB2.out).c 2 rfl; have f5 : r2.cell? ⟨bq0, 3, none⟩ = some (.slice B1 m1 d1) := (XM.out.below BB2.out).c 3 rfl; have f6 : r2.cell? ⟨bp0, 0, none⟩ = some (.bool (nOf (qZ p q))) := (XF.out.below BB2.out).c 0 rfl; have f7 : r2.cell? ⟨bp0, 1, none⟩ = some (.slice T1 k1 i1) := (XF.out.below BB2.out).c 1 rfl; clear hb) | (go_at_call 43; (with_reducible refine (sameb_ok (-qZ (-p) q) (-qZ (-p) q) T2 T17 k2 i2 k17 i17 _ (S7.out.below BB2.out) S17.out rfl).mono ?_); rintro e r3 ⟨rfl, hb⟩; have BB3 := Lib.hid (below_up BB2.out hb); have S16 := Lib.hid (S16.out.below hb); have S17 := Lib.hid (S17.out.below hb); have f0 : r3.cell? ⟨bp1, 0, none⟩ = some (.bool (nOf (-qZ (-p) q))) := (XC.out.below BB3.out).c 0 rfl; have f1 : r3.cell? ⟨bp1, 1, none⟩ = some (.slice T2 k2 i2) := (XC.out.below BB3.out).c 1 rfl; have f2 : r3.cell? ⟨bq0, 0, none⟩ = some (.bool (nOf (-p))) := (XM.out.below BB3.out).c 0 rfl; have f3 : r3.cell? ⟨bq0, 1, none⟩ = some (.slice T15 k15 i15) := (XM.out.below BB3.out).c 1 rfl; have f4 : r3.cell? ⟨bq0, 2, none⟩ = some (.bool (nOf (q))) := (XM.out.below BB3.out).c 2 rfl; have f5 : r3.cell? ⟨bq0, 3, none⟩ = some (.slice B1 m1 d1) := (XM.out.below BB3.out).c 3 rfl; have f6 : r3.cell? ⟨bp0, 0, none⟩ = some (.bool (nOf (qZ p q))) := (XF.out.below BB3.out).c 0 rfl; have f7 : r3.cell? ⟨bp0, 1, none⟩ = some (.slice T1 k1 i1) := (XF.out.below BB3.out).c 1 rfl; clear hb) | (go_at_call 44; (with_reducible refine (valid_ok (qZ p q) T1 k1 i1 _ (S6.out.below BB3.out) FF.out).mono ?_); rintro e r4 ⟨rfl, hb⟩; have BB4 := Lib.hid (below_up BB3.out hb); have S16 := Lib.hid (S16.out.below hb); have S17 := Lib.hid (S17.out.below hb); have f0 : r4.cell? ⟨bp1, 0, none⟩ = some (.bool (nOf (-qZ (-p) q))) := (XC.out.below BB4.out).c 0 rfl; have f1 : r4.cell? ⟨bp1, 1, none⟩ = some (.slice T2 k2 i2) := (XC.out.below BB4.out).c 1 rfl; have f2 : r4.cell? ⟨bq0, 0, none⟩ = some (.bool (nOf (-p))) := (XM.out.below BB4.out).c 0 rfl; have f3 : r4.cell? ⟨bq0, 1, none⟩ = some (.slice T15 k15 i15) := (XM.out.below BB4.out).c 1 rfl; have f4 : r4.cell? ⟨bq0, 2, none⟩ = some (.bool (nOf (q))) := (XM.out.below BB4.out).c 2 rfl; have f5 : r4.cell? ⟨bq0, 3, none⟩ = some (.slice B1 m1 d1) := (XM.out.below BB4.out).c 3 rfl; have f6 : r4.cell? ⟨bp0, 0, none⟩ = some (.bool (nOf (qZ p q))) := (XF.out.below BB4.out).c 0 rfl; have f7 : r4.cell? ⟨bp0, 1, none⟩ = some (.slice T1 k1 i1) := (XF.out.below BB4.out).c 1 rfl; clear hb) | (go_at_call 44; (with_reducible refine (valid_ok (-qZ (-p) q) T2 k2 i2 _ (S7.out.below BB4.out) FC.out).mono ?_); rintro e r5 ⟨rfl, hb⟩; have BB5 := Lib.hid (below_up BB4.out hb); have S16 := Lib.hid (S16.out.below hb); have S17 := Lib.hid (S17.out.below hb); have f0 : r5.cell? ⟨bp1, 0, none⟩ = some (.bool (nOf (-qZ (-p) q))) := (XC.out.below BB5.out).c 0 rfl; have f1 : r5.cell? ⟨bp1, 1, none⟩ = some (.slice T2 k2 i2) := (XC.out.below BB5.out).c 1 rfl; have f2 : r5.cell? ⟨bq0, 0, none⟩ = some (.bool (nOf (-p))) := (XM.out.below BB5.out).c 0 rfl; have f3 : r5.cell? ⟨bq0, 1, none⟩ = some (.slice T15 k15 i15) := (XM.out.below BB5.out).c 1 rfl; have f4 : r5.cell? ⟨bq0, 2, none⟩ = some (.bool (nOf (q))) := (XM.out.below BB5.out).c 2 rfl; have f5 : r5.cell? ⟨bq0, 3, none⟩ = some (.slice B1 m1 d1) := (XM.out.below BB5.out).c 3 rfl; have f6 : r5.cell? ⟨bp0, 0, none⟩ = some (.bool (nOf (qZ p q))) := (XF.out.below BB5.out).c 0 rfl; have f7 : r5.cell? ⟨bp0, 1, none⟩ = some (.slice T1 k1 i1) := (XF.out.below BB5.out).c 1 rfl; clear hb))
            clear e0 e1 e2 e3 e4 e5 e6 e7
            try clear f0 f1 f2 f3 f4 f5 f6 f7
            have S1 := Lib.hid (S1.out.below BB5.out)
            have S2 := Lib.hid (S2.out.below BB5.out)
            have TB := Lib.hid (tab_on TB.out BB5.out)
            have BW := Lib.hid (below_on BW.out BB5.out)
            have X1 := Lib.hid (X1.out.below BB5.out)
            have S3 := Lib.hid (S3.out.below BB5.out)
            have XO := Lib.hid (XO.out.below BB5.out)
            have XF := Lib.hid (XF.out.below BB5.out)
            have XC := Lib.hid (XC.out.below BB5.out)
            have S6 := Lib.hid (S6.out.below BB5.out)
            have S7 := Lib.hid (S7.out.below BB5.out)
            have XN := Lib.hid (XN.out.below BB5.out)
            have S9 := Lib.hid (S9.out.below BB5.out)
            have S10 := Lib.hid (S10.out.below BB5.out)
            have V10 := Lib.hid (V10.out.below BB5.out)
            have XX := Lib.hid (XX.out.below BB5.out)
            have S11 := Lib.hid (S11.out.below BB5.out)
            have V11 := Lib.hid (V11.out.below BB5.out)
            have XY := Lib.hid (XY.out.below BB5.out)
            have XM := Lib.hid (XM.out.below BB5.out)
            have S15 := Lib.hid (S15.out.below BB5.out)
            go_wp2_with fail
            go_ret
            exact ⟨rfl, BW.out⟩
      · have b1 : ¬ (199 : Int) < (n1 : Int) := by omega
        have b2 : ¬ (199 : Int) < (m1 : Int) := by omega
        clear h2
        have HV := Lib.hid h3
        clear h1 h3
        have BW := Lib.hid (Below.refl w.heap.size w)
        go_enter Tryd.func9, Tryd.ntmps9
        go_upto_region 1 with fail
        have S1 := Lib.hid (S1.out.alloc (.cells #[.bool s1, .slice A1 n1 c1, .bool t1, .slice B1 m1 d1] 37))
        have S2 := Lib.hid (S2.out.alloc (.cells #[.bool s1, .slice A1 n1 c1, .bool t1, .slice B1 m1 d1] 37))
        have TB := Lib.hid (tab_on TB.out ((Below.refl _ _).alloc (Nat.le_refl _) (.cells #[.bool s1, .slice A1 n1 c1, .bool t1, .slice B1 m1 d1] 37)))
        have BW := Lib.hid (BW.out.alloc BW.out.size (.cells #[.bool s1, .slice A1 n1 c1, .bool t1, .slice B1 m1 d1] 37))
        have X1 := Lib.hid (Bk.new 37 w #[.bool s1, .slice A1 n1 c1, .bool t1, .slice B1 m1 d1])
        generalize (w.alloc (.cells #[.bool s1, .slice A1 n1 c1, .bool t1, .slice B1 m1 d1] 37)) = W0 at *
        have e0 : W0.cell? ⟨w.heap.size, 0, none⟩ = some (.bool s1) := X1.out.c 0 rfl
        have e1 : W0.cell? ⟨w.heap.size, 1, none⟩ = some (.slice A1 n1 c1) := X1.out.c 1 rfl
        have e2 : W0.cell? ⟨w.heap.size, 2, none⟩ = some (.bool t1) := X1.out.c 2 rfl
        have e3 : W0.cell? ⟨w.heap.size, 3, none⟩ = some (.slice B1 m1 d1) := X1.out.c 3 rfl
        go_wp2_with fail
        ((with_reducible refine (rvalid_any s1 t1 A1 B1 n1 c1 m1 d1 x1 y1 _ S1.out S2.out).mono ?_); rintro e w1 ⟨rfl, hb⟩)
        rw [HV.out]
        clear e0 e1 e2 e3
        have S1 := Lib.hid (S1.out.below hb)
        have S2 := Lib.hid (S2.out.below hb)
        have TB := Lib.hid (tab_on TB.out hb)
        have BW := Lib.hid (below_on BW.out hb)
        have X1 := Lib.hid (X1.out.below hb)
        clear hb
        have e0 : w1.cell? ⟨w.heap.size, 0, none⟩ = some (.bool s1) := X1.out.c 0 rfl
        have e1 : w1.cell? ⟨w.heap.size, 1, none⟩ = some (.slice A1 n1 c1) := X1.out.c 1 rfl
        have e2 : w1.cell? ⟨w.heap.size, 2, none⟩ = some (.bool t1) := X1.out.c 2 rfl
        have e3 : w1.cell? ⟨w.heap.size, 3, none⟩ = some (.slice B1 m1 d1) := X1.out.c 3 rfl
        go_wp2_with fail
        ((with_reducible refine (awake3_any _ TB.out).mono ?_); rintro e w9 ⟨rfl, hb⟩)
        clear e0 e1 e2 e3
        have S1 := Lib.hid (S1.out.below hb)
        have S2 := Lib.hid (S2.out.below hb)
        have TB := Lib.hid (tab_on TB.out hb)
        have BW := Lib.hid (below_on BW.out hb)
        have X1 := Lib.hid (X1.out.below hb)
        clear hb
        go_wp2_with fail
        go_ret
        exact ⟨rfl, BW.out⟩

set_option maxRecDepth 100000 in
theorem contract (H : Type) (enc : TypeId × Value → H) (W : World) (base : Nat) (args : Array Value) (ds gs : List (DataW H)) (before : List MemPlace)
    (hval : ∀ (j : Nat) t v, Tryd.f9.params[j]? = some t → args[j]? = some v → Value.okWide Tryd.prog W .any base t v)
    (hW : DataW.Whole enc Tryd.prog Tryd.f9.params.toList Rows.ratWholeSpec.vars false W args.toList ds gs before) (hL : laidMetH Tryd.prog Rows.ratWholeRow.laid W) :
    Calls Tryd.prog 9 args W fun e W' => ∃ v, e = .returned v ∧ Rows.ratWholeSpec.post enc Tryd.prog Tryd.f9 false true false false W args v W' := by
  have hW' := hW
  obtain ⟨p, q, hA0, hV, rfl, hfz, hnd⟩ := hW
  have hA : DataW.TrodAll enc Tryd.prog W 0 (fun _ => true) true Tryd.f9.params.toList args.toList ds p := hA0
  have hlt : ∀ x ∈ p, x.block < W.heap.size := fun x hx => hW'.lt x (by simp [hx])
  have hAll := hA
  rw [Tryd.params9] at hA hval
  obtain ⟨v0, vs0, d0, ds0, p0, q0, hargs, rfl, rfl, h0, r0⟩ := trodAll_cons hA
  obtain ⟨rfl, rfl, rfl⟩ := trodAll_nil r0
  obtain rfl : args = #[v0] := by cases args; simp_all
  obtain ⟨rfl, rfl⟩ := trodVars_none hV
  obtain ⟨s1, A1, n1, c1, x1, t1, B1, m1, d1', y1, rfl, g1, k1⟩ := open_rat (hval 0 37 v0 rfl rfl) h0
  refine (walk s1 t1 A1 B1 n1 c1 m1 d1' x1 y1 W g1 k1 (tab_of_laid hL)).mono fun e W' ⟨he, hg⟩ => ?_
  subst he
  refine ⟨_, rfl, _, _, _, [], _, [], hW', trodAll_mk1 (shut_bool Tryd.underlying4 _), trodAll_below hg (fun t ht => ?_) hAll hlt, rfl, hg.frame _, fun h => by cases h⟩
  rw [Tryd.params9] at ht
  simp only [List.mem_cons, List.not_mem_nil, or_false] at ht
  rcases ht with rfl
  · exact read_rat

set_option maxRecDepth 100000 in
theorem reads (os : Os) {H : Type} (enc : TypeId × Value → H) : ∃ places, DataW.whole enc Tryd.prog ((World.doorLaid Tryd.prog 24 os).forCall (fun _ _ => 0) ⟨#[], #[Value.agg #[.bool false, .slice none 0 0, .bool false, .slice none 0 0]], []⟩).memory Tryd.f9.params.toList Rows.ratWholeSpec.vars false #[Value.agg #[.bool false, .slice none 0 0, .bool false, .slice none 0 0]].toList 8 = some ([.agg [.agg [.lit (.bool false), .nil], .agg [.lit (.bool false), .nil]]], [], places) :=
  ⟨[], by kernel_rfl⟩

set_option maxRecDepth 100000 in
theorem lifted (os : Os) (started : os.Started) (H : Type) (enc : TypeId × Value → H) (F : Stop.Interp) :
    ReturnsInHanded {} Tryd.checked os 9 .any ((OpenSpec.ofChange Rows.ratWholeSpec).preRow enc Tryd.prog Tryd.f9 Rows.ratWholeRow.domain false Rows.ratWholeRow.laid) (((OpenSpec.ofChange Rows.ratWholeSpec).at F).post enc Tryd.prog Tryd.f9 false true false false) := by
  obtain ⟨places, hx⟩ := reads os enc
  refine returnsInHanded_of_row (C := Tryd.checked) (s := OpenSpec.ofChange Rows.ratWholeSpec) own started (by kernel_rfl) Tryd.func9
    (witness_row_at (enc := enc) (C := Tryd.checked) false (World.doorLaid Tryd.prog 24 os) #[Value.agg #[.bool false, .slice none 0 0, .bool false, .slice none 0 0]] rfl (by kernel_rfl) (by kernel_rfl) (by kernel_rfl)
      (OpenSpec.preRow_of_cond 8 hx (by kernel_rfl) (fun k hk => by cases hk) (by kernel_rfl) (laid_met os _))) ?_
  intro W base args ds gs before hval hW _ _ _ hL _ _
  exact contract H enc W base args ds gs before hval hW hL

theorem said : Rows.RatWholeSaid :=
  OpenClaim.holds_of_cond 9 Tryd.f9 rfl rfl rfl rfl rfl rfl rfl ⟨rfl, rfl, rfl, rfl, rfl⟩ rfl rfl rfl rfl rfl (by kernel_rfl) Tryd.func9 (by kernel_rfl)
    (of_decide_eq_true (by kernel_rfl)) (by unfold Func.isWrapper; first | (rw [if_pos (by decide +kernel)]; kernel_rfl) | (rw [if_neg (by decide +kernel)]; exact ⟨rfl, rfl⟩))
    (fun os started H enc _ F => by rw [OpenClaim.pre_eq_preRow]; exact lifted os started H enc F)

theorem plain (f : FuncId) (fn : Func) (hf : Tryd.pinned.checked.prog.funcNamed "liquidcheck/liquidchecklaw03.RatWhole" = some f) (hfn : Tryd.pinned.checked.prog.funcs[f]? = some fn) :
    false = Tryd.pinned.checked.prog.looks [] ∧ ∀ (j : Nat) t, fn.params[j]? = some t → Tryd.pinned.checked.prog.wantsStandIn t = false := by
  obtain rfl : f = 9 := Option.some.inj ((show Tryd.prog.funcNamed "liquidcheck/liquidchecklaw03.RatWhole" = some 9 by kernel_rfl).symm.trans hf) |>.symm
  obtain rfl : fn = Tryd.f9 := (Option.some.inj (Tryd.func9.symm.trans hfn)).symm
  refine ⟨by kernel_rfl, fun j t ht => ?_⟩
  rw [Tryd.params9] at ht
  have hm := Array.mem_of_getElem? ht
  simp only [List.mem_toArray, List.mem_cons, List.not_mem_nil, or_false] at hm
  rcases hm with rfl
  · exact (show Tryd.prog.wantsStandIn 37 = false by kernel_rfl)

theorem card : Rows.RatWholeCardSaid :=
  Claim7.holds_tied_plain_at .later [] _ _ _ _ said (fun _ h => by cases h) (by kernel_rfl) (fun _ h => by cases h) ratWhole_row_tie rfl ⟨rfl, rfl⟩ (by kernel_rfl) rfl plain (by kernel_rfl)
end Go.Proofs.YtamlkmmhbejgfaaDoor.ratWhole
