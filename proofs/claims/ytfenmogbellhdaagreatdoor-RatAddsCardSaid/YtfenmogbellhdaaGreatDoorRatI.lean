/-
  Contracts of the function within rat's partsDifference.
-/
import Derived.Test.YtfenmogbellhdaaGreatDoorRatMathD
import Derived.Test.YtfenmogbellhdaaGreatDoorRatF
namespace Go.Proofs.YtfenmogbellhdaaGreatDoor
open Go.RowKit

set_option maxHeartbeats 1000000 in
theorem num_rest (k a y b x : Int) (G A Y B X : Option Addr) (ng cg na ca ny cy nb cb nx cx : Nat) (ba bY bb bx : Nat) (u1 u2 v1 v2 : Value) (w : World)
    (hG : Sl w G ng cg (lOf k)) (hA : Sl w A na ca (lOf a)) (hY : Sl w Y ny cy (lOf y)) (hB : Sl w B nb cb (lOf b)) (hX : Sl w X nx cx (lOf x))
    (pa : Bk 26 w ba #[.bool (nOf a), .slice A na ca, u1, u2]) (py : Bk 24 w bY #[.bool (nOf y), .slice Y ny cy]) (pb : Bk 26 w bb #[.bool (nOf b), .slice B nb cb, v1, v2]) (px : Bk 24 w bx #[.bool (nOf x), .slice X nx cx])
    (h0 : k ≠ 0) (fk : fitB k = true) (fa : fitB a = true) (fy : fitB y = true) (fb : fitB b = true) (fx : fitB x = true)
    (f1 : fitB (rZ a k * y) = true) (f2 : fitB (rZ b k * x) = true) (f3 : fitB (rZ a k * y - rZ b k * x) = true) :
    Calls Tryz.prog 82 #[.func (.func 83) #[.agg #[.bool (nOf k), .slice G ng cg]] #[], .pointer (some ⟨ba, 0, none⟩), .pointer (some ⟨bY, 0, none⟩), .pointer (some ⟨bb, 0, none⟩), .pointer (some ⟨bx, 0, none⟩)] w
      fun e w' => ∃ T k1 r, e = .returned (.agg #[.bool (nOf (rZ a k * y - rZ b k * x)), .slice T k1 r]) ∧ Sl w' T k1 r (lOf (rZ a k * y - rZ b k * x)) ∧ Below w.heap.size w w' := by
  have S1 := Lib.hid hG
  have S2 := Lib.hid hA
  have S3 := Lib.hid hY
  have S4 := Lib.hid hB
  have S5 := Lib.hid hX
  have XA := Lib.hid pa
  have XY := Lib.hid py
  have XB := Lib.hid pb
  have XX := Lib.hid px
  have H0 := Lib.hid h0
  have HG := Lib.hid fk
  have HA := Lib.hid fa
  have HY := Lib.hid fy
  have HB := Lib.hid fb
  have HX := Lib.hid fx
  have E1 := Lib.hid f1
  have E2 := Lib.hid f2
  have E3 := Lib.hid f3
  clear hG hA hY hB hX pa py pb px h0 fk fa fy fb fx f1 f2 f3
  have BW := Lib.hid (Below.refl w.heap.size w)
  go_enter Tryz.func82, Tryz.ntmps82
  go_upto_region 1 with fail
  have ln1 := XA.out.lt
  have ln2 := XY.out.lt
  have ln3 := XB.out.lt
  have ln4 := XX.out.lt
  have S1 := Lib.hid (S1.out.alloc (.cells #[.bool false, .slice none 0 0] 24))
  have S2 := Lib.hid (S2.out.alloc (.cells #[.bool false, .slice none 0 0] 24))
  have S3 := Lib.hid (S3.out.alloc (.cells #[.bool false, .slice none 0 0] 24))
  have S4 := Lib.hid (S4.out.alloc (.cells #[.bool false, .slice none 0 0] 24))
  have S5 := Lib.hid (S5.out.alloc (.cells #[.bool false, .slice none 0 0] 24))
  have XA := Lib.hid (XA.out.alloc (.cells #[.bool false, .slice none 0 0] 24))
  have XY := Lib.hid (XY.out.alloc (.cells #[.bool false, .slice none 0 0] 24))
  have XB := Lib.hid (XB.out.alloc (.cells #[.bool false, .slice none 0 0] 24))
  have XX := Lib.hid (XX.out.alloc (.cells #[.bool false, .slice none 0 0] 24))
  have BW := Lib.hid (BW.out.alloc BW.out.size (.cells #[.bool false, .slice none 0 0] 24))
  have X0 := Lib.hid (Bk.new 24 w #[.bool false, .slice none 0 0])
  generalize (w.alloc (.cells #[.bool false, .slice none 0 0] 24)) = W0 at *
  go_cut [7, 8] (fun vp0 vp1 wx => ∃ (bp0 : Nat) (U : Option Addr) (l s : Nat), vp0 = .pointer (some ⟨bp0, 0, none⟩) ∧ vp1 = .bool true ∧ W0.heap.size ≤ bp0 ∧ Bk 24 wx bp0 #[.bool (nOf (rZ a k * y)), .slice U l s] ∧ Sl wx U l s (lOf (rZ a k * y)) ∧ Below W0.heap.size W0 wx)
  case first =>
    have e0 : W0.cell? ⟨ba, 0, none⟩ = some (.bool (nOf a)) := XA.out.c 0 rfl
    have e1 : W0.cell? ⟨ba, 1, none⟩ = some (.slice A na ca) := XA.out.c 1 rfl
    have e2 : W0.cell? ⟨ba, 2, none⟩ = some (u1) := XA.out.c 2 rfl
    have e3 : W0.cell? ⟨ba, 3, none⟩ = some (u2) := XA.out.c 3 rfl
    have e4 : W0.cell? ⟨bY, 0, none⟩ = some (.bool (nOf (y))) := XY.out.c 0 rfl
    have e5 : W0.cell? ⟨bY, 1, none⟩ = some (.slice Y ny cy) := XY.out.c 1 rfl
    have laXA := XA.out.lt
    have xa0XA : ¬ W0.heap.size = ba := by omega
    have ya0XA : ¬ ba = W0.heap.size := by omega
    have laXY := XY.out.lt
    have xa0XY : ¬ W0.heap.size = bY := by omega
    have ya0XY : ¬ bY = W0.heap.size := by omega
    have BB0 := Lib.hid (Below.refl W0.heap.size W0)
    go_region_held3 (fun w' => w'.cell? ⟨ba, 0, none⟩ = some (.bool (nOf a)) ∧ w'.cell? ⟨ba, 1, none⟩ = some (.slice A na ca) ∧ w'.cell? ⟨ba, 2, none⟩ = some (u1) ∧ w'.cell? ⟨ba, 3, none⟩ = some (u2) ∧ w'.cell? ⟨bY, 0, none⟩ = some (.bool (nOf (y))) ∧ w'.cell? ⟨bY, 1, none⟩ = some (.slice Y ny cy)) (go_keep)
      (first | (go_at_call 83; (with_reducible refine (rest_z k a G A ng cg na ca _ (by first | exact S1.out.below BB0.out | exact (S1.out.below BB0.out).drew | exact (S1.out.below BB0.out).alloc _ | exact (S1.out.below BB0.out).drew.alloc _ | exact ((S1.out.below BB0.out).alloc _).drew) (by first | exact S2.out.below BB0.out | exact (S2.out.below BB0.out).drew | exact (S2.out.below BB0.out).alloc _ | exact (S2.out.below BB0.out).drew.alloc _ | exact ((S2.out.below BB0.out).alloc _).drew) HG.out HA.out).mono ?_); rintro e p1 ⟨T, k1, r, rfl, hs, hb⟩; have BB1 := Lib.hid (show Below W0.heap.size W0 p1 from (by first | exact below_up BB0.out hb | exact below_up BB0.out.drew hb | exact below_up (BB0.out.alloc BB0.out.size _) hb | exact below_up (BB0.out.drew.alloc BB0.out.drew.size _) hb | exact below_up (BB0.out.alloc BB0.out.size _).drew hb)); (first | (have N1a := Lib.hid (show Bk 24 p1 W0.heap.size #[.bool false, .slice none 0 0] from Bk.below (Bk.new 24 W0 #[.bool false, .slice none 0 0]) hb)) | (have N1a := Lib.hid (show Bk 24 p1 W0.heap.size #[.bool false, .slice none 0 0] from Bk.below (Bk.new 24 W0.drew #[.bool false, .slice none 0 0]) hb)) | (have N1a := Lib.hid (show Bk 24 p1 W0.heap.size #[.bool false, .slice none 0 0] from Bk.below (Bk.new 24 W0 #[.bool false, .slice none 0 0]).drew hb)) | skip); (first | (have mN1a0 := N1a.out.c 0 (v := .bool false) rfl; have oN1a0 := N1a.out.fz 0; have mN1a1 := N1a.out.c 1 (v := .slice none 0 0) rfl; have oN1a1 := N1a.out.fz 1; have yN1a := N1a.out.lt; have yaN1a1 : ¬ W0.heap.size = p1.heap.size := (by omega); have ybN1a1 : ¬ p1.heap.size = W0.heap.size := (by omega); have ycN1a1 : ¬ W0.heap.size = p1.heap.size + 1 := (by omega); have ydN1a1 : ¬ p1.heap.size + 1 = W0.heap.size := (by omega)) | skip); have R1 := Lib.hid hs; clear hs; have f0 : p1.cell? ⟨ba, 0, none⟩ = some (.bool (nOf a)) := (XA.out.below BB1.out).c 0 rfl; have f1 : p1.cell? ⟨ba, 1, none⟩ = some (.slice A na ca) := (XA.out.below BB1.out).c 1 rfl; have f2 : p1.cell? ⟨ba, 2, none⟩ = some (u1) := (XA.out.below BB1.out).c 2 rfl; have f3 : p1.cell? ⟨ba, 3, none⟩ = some (u2) := (XA.out.below BB1.out).c 3 rfl; have laXA := (XA.out.below BB1.out).lt; have xa1XA : ¬ p1.heap.size = ba := (by omega); have ya1XA : ¬ ba = p1.heap.size := (by omega); have f4 : p1.cell? ⟨bY, 0, none⟩ = some (.bool (nOf (y))) := (XY.out.below BB1.out).c 0 rfl; have f5 : p1.cell? ⟨bY, 1, none⟩ = some (.slice Y ny cy) := (XY.out.below BB1.out).c 1 rfl; have laXY := (XY.out.below BB1.out).lt; have xa1XY : ¬ p1.heap.size = bY := (by omega); have ya1XY : ¬ bY = p1.heap.size := (by omega); clear hb) | (go_at_call 75; (with_reducible refine (mul_z (rZ a k) y T Y k1 r ny cy _ (by first | exact R1.out | exact (R1.out).drew | exact (R1.out).alloc _ | exact (R1.out).drew.alloc _ | exact ((R1.out).alloc _).drew) (by first | exact S3.out.below BB1.out | exact (S3.out.below BB1.out).drew | exact (S3.out.below BB1.out).alloc _ | exact (S3.out.below BB1.out).drew.alloc _ | exact ((S3.out.below BB1.out).alloc _).drew) (fit_r H0.out HG.out) HY.out).mono ?_); rintro e p2 ⟨U, l, s, rfl, hs, hb⟩; rw [E1.out]; rw [fitZ_of E1.out] at hs ⊢; have BB2 := Lib.hid (show Below W0.heap.size W0 p2 from (by first | exact below_up BB1.out hb | exact below_up BB1.out.drew hb | exact below_up (BB1.out.alloc BB1.out.size _) hb | exact below_up (BB1.out.drew.alloc BB1.out.drew.size _) hb | exact below_up (BB1.out.alloc BB1.out.size _).drew hb)); (first | (have N1a := Lib.hid (N1a.out.below hb)) | (have N1a := Lib.hid (N1a.out.drew.below hb)) | (have N1a := Lib.hid ((N1a.out.alloc _).below hb)) | (have N1a := Lib.hid (((N1a.out.alloc _).drew).below hb)) | (have N1a := Lib.hid ((N1a.out.drew.alloc _).below hb)) | (have N1a := Lib.hid (((N1a.out.alloc _).alloc _).below hb)) | (have N1a := Lib.hid (((N1a.out.drew.alloc _).alloc _).below hb)) | skip); (first | (have N2a := Lib.hid (show Bk 24 p2 p1.heap.size #[.bool false, .slice none 0 0] from Bk.below (Bk.new 24 p1 #[.bool false, .slice none 0 0]) hb)) | (have N2a := Lib.hid (show Bk 24 p2 p1.heap.size #[.bool false, .slice none 0 0] from Bk.below (Bk.new 24 p1.drew #[.bool false, .slice none 0 0]) hb)) | (have N2a := Lib.hid (show Bk 24 p2 p1.heap.size #[.bool false, .slice none 0 0] from Bk.below (Bk.new 24 p1 #[.bool false, .slice none 0 0]).drew hb)) | skip); (first | (have mN1a0 := N1a.out.c 0 (v := .bool false) rfl; have oN1a0 := N1a.out.fz 0; have mN1a1 := N1a.out.c 1 (v := .slice none 0 0) rfl; have oN1a1 := N1a.out.fz 1; have yN1a := N1a.out.lt; have yaN1a2 : ¬ W0.heap.size = p2.heap.size := (by omega); have ybN1a2 : ¬ p2.heap.size = W0.heap.size := (by omega); have ycN1a2 : ¬ W0.heap.size = p2.heap.size + 1 := (by omega); have ydN1a2 : ¬ p2.heap.size + 1 = W0.heap.size := (by omega)) | skip); (first | (have mN2a0 := N2a.out.c 0 (v := .bool false) rfl; have oN2a0 := N2a.out.fz 0; have mN2a1 := N2a.out.c 1 (v := .slice none 0 0) rfl; have oN2a1 := N2a.out.fz 1; have yN2a := N2a.out.lt; have yaN2a2 : ¬ p1.heap.size = p2.heap.size := (by omega); have ybN2a2 : ¬ p2.heap.size = p1.heap.size := (by omega); have ycN2a2 : ¬ p1.heap.size = p2.heap.size + 1 := (by omega); have ydN2a2 : ¬ p2.heap.size + 1 = p1.heap.size := (by omega)) | skip); have R1 := Lib.hid (by first | exact R1.out.below hb | exact R1.out.drew.below hb | exact (R1.out.alloc _).below hb | exact (R1.out.drew.alloc _).below hb | exact ((R1.out.alloc _).drew).below hb | exact ((R1.out.alloc _).alloc _).below hb | exact ((R1.out.drew.alloc _).alloc _).below hb); have R2 := Lib.hid hs; clear hs; have f0 : p2.cell? ⟨ba, 0, none⟩ = some (.bool (nOf a)) := (XA.out.below BB2.out).c 0 rfl; have f1 : p2.cell? ⟨ba, 1, none⟩ = some (.slice A na ca) := (XA.out.below BB2.out).c 1 rfl; have f2 : p2.cell? ⟨ba, 2, none⟩ = some (u1) := (XA.out.below BB2.out).c 2 rfl; have f3 : p2.cell? ⟨ba, 3, none⟩ = some (u2) := (XA.out.below BB2.out).c 3 rfl; have laXA := (XA.out.below BB2.out).lt; have xa2XA : ¬ p2.heap.size = ba := (by omega); have ya2XA : ¬ ba = p2.heap.size := (by omega); have f4 : p2.cell? ⟨bY, 0, none⟩ = some (.bool (nOf (y))) := (XY.out.below BB2.out).c 0 rfl; have f5 : p2.cell? ⟨bY, 1, none⟩ = some (.slice Y ny cy) := (XY.out.below BB2.out).c 1 rfl; have laXY := (XY.out.below BB2.out).lt; have xa2XY : ¬ p2.heap.size = bY := (by omega); have ya2XY : ¬ bY = p2.heap.size := (by omega); clear hb))
    all_goals (go_wp2_with fail; go_meet; (first | exact ⟨_, U, l, s, rfl, rfl, (by first | exact Nat.le_refl _ | exact BB1.out.size | exact BB2.out.size), N1a.out.set2 _ _, R2.out.bk2 N1a.out _ _, below_set2 BB2.out (by first | exact Nat.le_refl _ | exact BB1.out.size | exact BB2.out.size) _ _⟩ | exact ⟨_, U, l, s, rfl, rfl, (by first | exact Nat.le_refl _ | exact BB1.out.size | exact BB2.out.size), N2a.out.set2 _ _, R2.out.bk2 N2a.out _ _, below_set2 BB2.out (by first | exact Nat.le_refl _ | exact BB1.out.size | exact BB2.out.size) _ _⟩ | exact ⟨_, U, l, s, rfl, rfl, (by first | exact Nat.le_refl _ | exact BB1.out.size | exact BB2.out.size), Bk.new _ _ _, R2.out.alloc _, BB2.out.alloc BB2.out.size _⟩))
  case rest =>
    obtain ⟨bp0, U, l, s, rfl, rfl, hge, hx0, hs, hb⟩ := hcut
    have S1 := Lib.hid (S1.out.below hb)
    have S2 := Lib.hid (S2.out.below hb)
    have S3 := Lib.hid (S3.out.below hb)
    have S4 := Lib.hid (S4.out.below hb)
    have S5 := Lib.hid (S5.out.below hb)
    have XA := Lib.hid (XA.out.below hb)
    have XY := Lib.hid (XY.out.below hb)
    have XB := Lib.hid (XB.out.below hb)
    have XX := Lib.hid (XX.out.below hb)
    have BW := Lib.hid (below_on BW.out hb)
    have X0 := Lib.hid (X0.out.below hb)
    clear hb
    have X1 := Lib.hid hx0
    clear hx0
    have R2 := Lib.hid hs
    clear hs
    clear hge
    generalize wc = W1 at *
    go_upto_region 2 with fail
    go_cut [9, 10] (fun vq0 vq1 wx => ∃ (bq0 : Nat) (V' : Option Addr) (i' j' : Nat), vq0 = .pointer (some ⟨bq0, 0, none⟩) ∧ vq1 = .bool true ∧ W1.heap.size ≤ bq0 ∧ Bk 24 wx bq0 #[.bool (nOf (rZ b k * x)), .slice V' i' j'] ∧ Sl wx V' i' j' (lOf (rZ b k * x)) ∧ Below W1.heap.size W1 wx)
    case first =>
      have e0 : W1.cell? ⟨bb, 0, none⟩ = some (.bool (nOf b)) := XB.out.c 0 rfl
      have e1 : W1.cell? ⟨bb, 1, none⟩ = some (.slice B nb cb) := XB.out.c 1 rfl
      have e2 : W1.cell? ⟨bb, 2, none⟩ = some (v1) := XB.out.c 2 rfl
      have e3 : W1.cell? ⟨bb, 3, none⟩ = some (v2) := XB.out.c 3 rfl
      have e4 : W1.cell? ⟨bx, 0, none⟩ = some (.bool (nOf (x))) := XX.out.c 0 rfl
      have e5 : W1.cell? ⟨bx, 1, none⟩ = some (.slice X nx cx) := XX.out.c 1 rfl
      have laXB := XB.out.lt
      have xa0XB : ¬ W1.heap.size = bb := by omega
      have ya0XB : ¬ bb = W1.heap.size := by omega
      have laXX := XX.out.lt
      have xa0XX : ¬ W1.heap.size = bx := by omega
      have ya0XX : ¬ bx = W1.heap.size := by omega
      have BB0 := Lib.hid (Below.refl W1.heap.size W1)
      go_region_held3 (fun w' => w'.cell? ⟨bb, 0, none⟩ = some (.bool (nOf b)) ∧ w'.cell? ⟨bb, 1, none⟩ = some (.slice B nb cb) ∧ w'.cell? ⟨bb, 2, none⟩ = some (v1) ∧ w'.cell? ⟨bb, 3, none⟩ = some (v2) ∧ w'.cell? ⟨bx, 0, none⟩ = some (.bool (nOf (x))) ∧ w'.cell? ⟨bx, 1, none⟩ = some (.slice X nx cx)) (go_keep)
        (first | (go_at_call 83; (with_reducible refine (rest_z k b G B ng cg nb cb _ (by first | exact S1.out.below BB0.out | exact (S1.out.below BB0.out).drew | exact (S1.out.below BB0.out).alloc _ | exact (S1.out.below BB0.out).drew.alloc _ | exact ((S1.out.below BB0.out).alloc _).drew) (by first | exact S4.out.below BB0.out | exact (S4.out.below BB0.out).drew | exact (S4.out.below BB0.out).alloc _ | exact (S4.out.below BB0.out).drew.alloc _ | exact ((S4.out.below BB0.out).alloc _).drew) HG.out HB.out).mono ?_); rintro e q1 ⟨V, i, j, rfl, hs, hb⟩; have BB1 := Lib.hid (show Below W1.heap.size W1 q1 from (by first | exact below_up BB0.out hb | exact below_up BB0.out.drew hb | exact below_up (BB0.out.alloc BB0.out.size _) hb | exact below_up (BB0.out.drew.alloc BB0.out.drew.size _) hb | exact below_up (BB0.out.alloc BB0.out.size _).drew hb)); (first | (have N1a := Lib.hid (show Bk 24 q1 W1.heap.size #[.bool false, .slice none 0 0] from Bk.below (Bk.new 24 W1 #[.bool false, .slice none 0 0]) hb)) | (have N1a := Lib.hid (show Bk 24 q1 W1.heap.size #[.bool false, .slice none 0 0] from Bk.below (Bk.new 24 W1.drew #[.bool false, .slice none 0 0]) hb)) | (have N1a := Lib.hid (show Bk 24 q1 W1.heap.size #[.bool false, .slice none 0 0] from Bk.below (Bk.new 24 W1 #[.bool false, .slice none 0 0]).drew hb)) | skip); (first | (have mN1a0 := N1a.out.c 0 (v := .bool false) rfl; have oN1a0 := N1a.out.fz 0; have mN1a1 := N1a.out.c 1 (v := .slice none 0 0) rfl; have oN1a1 := N1a.out.fz 1; have yN1a := N1a.out.lt; have yaN1a1 : ¬ W1.heap.size = q1.heap.size := (by omega); have ybN1a1 : ¬ q1.heap.size = W1.heap.size := (by omega); have ycN1a1 : ¬ W1.heap.size = q1.heap.size + 1 := (by omega); have ydN1a1 : ¬ q1.heap.size + 1 = W1.heap.size := (by omega)) | skip); have R1 := Lib.hid hs; clear hs; have f0 : q1.cell? ⟨bb, 0, none⟩ = some (.bool (nOf b)) := (XB.out.below BB1.out).c 0 rfl; have f1 : q1.cell? ⟨bb, 1, none⟩ = some (.slice B nb cb) := (XB.out.below BB1.out).c 1 rfl; have f2 : q1.cell? ⟨bb, 2, none⟩ = some (v1) := (XB.out.below BB1.out).c 2 rfl; have f3 : q1.cell? ⟨bb, 3, none⟩ = some (v2) := (XB.out.below BB1.out).c 3 rfl; have laXB := (XB.out.below BB1.out).lt; have xa1XB : ¬ q1.heap.size = bb := (by omega); have ya1XB : ¬ bb = q1.heap.size := (by omega); have f4 : q1.cell? ⟨bx, 0, none⟩ = some (.bool (nOf (x))) := (XX.out.below BB1.out).c 0 rfl; have f5 : q1.cell? ⟨bx, 1, none⟩ = some (.slice X nx cx) := (XX.out.below BB1.out).c 1 rfl; have laXX := (XX.out.below BB1.out).lt; have xa1XX : ¬ q1.heap.size = bx := (by omega); have ya1XX : ¬ bx = q1.heap.size := (by omega); clear hb) | (go_at_call 75; (with_reducible refine (mul_z (rZ b k) x V X i j nx cx _ (by first | exact R1.out | exact (R1.out).drew | exact (R1.out).alloc _ | exact (R1.out).drew.alloc _ | exact ((R1.out).alloc _).drew) (by first | exact S5.out.below BB1.out | exact (S5.out.below BB1.out).drew | exact (S5.out.below BB1.out).alloc _ | exact (S5.out.below BB1.out).drew.alloc _ | exact ((S5.out.below BB1.out).alloc _).drew) (fit_r H0.out HG.out) HX.out).mono ?_); rintro e q2 ⟨V', i', j', rfl, hs, hb⟩; rw [E2.out]; rw [fitZ_of E2.out] at hs ⊢; have BB2 := Lib.hid (show Below W1.heap.size W1 q2 from (by first | exact below_up BB1.out hb | exact below_up BB1.out.drew hb | exact below_up (BB1.out.alloc BB1.out.size _) hb | exact below_up (BB1.out.drew.alloc BB1.out.drew.size _) hb | exact below_up (BB1.out.alloc BB1.out.size _).drew hb)); (first | (have N1a := Lib.hid (N1a.out.below hb)) | (have N1a := Lib.hid (N1a.out.drew.below hb)) | (have N1a := Lib.hid ((N1a.out.alloc _).below hb)) | (have N1a := Lib.hid (((N1a.out.alloc _).drew).below hb)) | (have N1a := Lib.hid ((N1a.out.drew.alloc _).below hb)) | (have N1a := Lib.hid (((N1a.out.alloc _).alloc _).below hb)) | (have N1a := Lib.hid (((N1a.out.drew.alloc _).alloc _).below hb)) | skip); (first | (have N2a := Lib.hid (show Bk 24 q2 q1.heap.size #[.bool false, .slice none 0 0] from Bk.below (Bk.new 24 q1 #[.bool false, .slice none 0 0]) hb)) | (have N2a := Lib.hid (show Bk 24 q2 q1.heap.size #[.bool false, .slice none 0 0] from Bk.below (Bk.new 24 q1.drew #[.bool false, .slice none 0 0]) hb)) | (have N2a := Lib.hid (show Bk 24 q2 q1.heap.size #[.bool false, .slice none 0 0] from Bk.below (Bk.new 24 q1 #[.bool false, .slice none 0 0]).drew hb)) | skip); (first | (have mN1a0 := N1a.out.c 0 (v := .bool false) rfl; have oN1a0 := N1a.out.fz 0; have mN1a1 := N1a.out.c 1 (v := .slice none 0 0) rfl; have oN1a1 := N1a.out.fz 1; have yN1a := N1a.out.lt; have yaN1a2 : ¬ W1.heap.size = q2.heap.size := (by omega); have ybN1a2 : ¬ q2.heap.size = W1.heap.size := (by omega); have ycN1a2 : ¬ W1.heap.size = q2.heap.size + 1 := (by omega); have ydN1a2 : ¬ q2.heap.size + 1 = W1.heap.size := (by omega)) | skip); (first | (have mN2a0 := N2a.out.c 0 (v := .bool false) rfl; have oN2a0 := N2a.out.fz 0; have mN2a1 := N2a.out.c 1 (v := .slice none 0 0) rfl; have oN2a1 := N2a.out.fz 1; have yN2a := N2a.out.lt; have yaN2a2 : ¬ q1.heap.size = q2.heap.size := (by omega); have ybN2a2 : ¬ q2.heap.size = q1.heap.size := (by omega); have ycN2a2 : ¬ q1.heap.size = q2.heap.size + 1 := (by omega); have ydN2a2 : ¬ q2.heap.size + 1 = q1.heap.size := (by omega)) | skip); have R1 := Lib.hid (by first | exact R1.out.below hb | exact R1.out.drew.below hb | exact (R1.out.alloc _).below hb | exact (R1.out.drew.alloc _).below hb | exact ((R1.out.alloc _).drew).below hb | exact ((R1.out.alloc _).alloc _).below hb | exact ((R1.out.drew.alloc _).alloc _).below hb); have R2 := Lib.hid hs; clear hs; have f0 : q2.cell? ⟨bb, 0, none⟩ = some (.bool (nOf b)) := (XB.out.below BB2.out).c 0 rfl; have f1 : q2.cell? ⟨bb, 1, none⟩ = some (.slice B nb cb) := (XB.out.below BB2.out).c 1 rfl; have f2 : q2.cell? ⟨bb, 2, none⟩ = some (v1) := (XB.out.below BB2.out).c 2 rfl; have f3 : q2.cell? ⟨bb, 3, none⟩ = some (v2) := (XB.out.below BB2.out).c 3 rfl; have laXB := (XB.out.below BB2.out).lt; have xa2XB : ¬ q2.heap.size = bb := (by omega); have ya2XB : ¬ bb = q2.heap.size := (by omega); have f4 : q2.cell? ⟨bx, 0, none⟩ = some (.bool (nOf (x))) := (XX.out.below BB2.out).c 0 rfl; have f5 : q2.cell? ⟨bx, 1, none⟩ = some (.slice X nx cx) := (XX.out.below BB2.out).c 1 rfl; have laXX := (XX.out.below BB2.out).lt; have xa2XX : ¬ q2.heap.size = bx := (by omega); have ya2XX : ¬ bx = q2.heap.size := (by omega); clear hb))
      all_goals (go_wp2_with fail; go_meet; (first | exact ⟨_, V', i', j', rfl, rfl, (by first | exact Nat.le_refl _ | exact BB1.out.size | exact BB2.out.size), N1a.out.set2 _ _, R2.out.bk2 N1a.out _ _, below_set2 BB2.out (by first | exact Nat.le_refl _ | exact BB1.out.size | exact BB2.out.size) _ _⟩ | exact ⟨_, V', i', j', rfl, rfl, (by first | exact Nat.le_refl _ | exact BB1.out.size | exact BB2.out.size), N2a.out.set2 _ _, R2.out.bk2 N2a.out _ _, below_set2 BB2.out (by first | exact Nat.le_refl _ | exact BB1.out.size | exact BB2.out.size) _ _⟩ | exact ⟨_, V', i', j', rfl, rfl, (by first | exact Nat.le_refl _ | exact BB1.out.size | exact BB2.out.size), Bk.new _ _ _, R2.out.alloc _, BB2.out.alloc BB2.out.size _⟩))
    case rest =>
      obtain ⟨bq0, V', i', j', rfl, rfl, hge, hx0, hs, hb⟩ := hcut
      have S1 := Lib.hid (S1.out.below hb)
      have S2 := Lib.hid (S2.out.below hb)
      have S3 := Lib.hid (S3.out.below hb)
      have S4 := Lib.hid (S4.out.below hb)
      have S5 := Lib.hid (S5.out.below hb)
      have XA := Lib.hid (XA.out.below hb)
      have XY := Lib.hid (XY.out.below hb)
      have XB := Lib.hid (XB.out.below hb)
      have XX := Lib.hid (XX.out.below hb)
      have BW := Lib.hid (below_on BW.out hb)
      have X0 := Lib.hid (X0.out.below hb)
      have X1 := Lib.hid (X1.out.below hb)
      have R2 := Lib.hid (R2.out.below hb)
      clear hb
      have X2 := Lib.hid hx0
      clear hx0
      have R4 := Lib.hid hs
      clear hs
      clear hge
      generalize wc = W2 at *
      go_upto_region 3 with fail
      have e0 : W2.cell? ⟨bp0, 0, none⟩ = some (.bool (nOf (rZ a k * y))) := X1.out.c 0 rfl
      have e1 : W2.cell? ⟨bp0, 1, none⟩ = some (.slice U l s) := X1.out.c 1 rfl
      have e2 : W2.cell? ⟨bq0, 0, none⟩ = some (.bool (nOf (rZ b k * x))) := X2.out.c 0 rfl
      have e3 : W2.cell? ⟨bq0, 1, none⟩ = some (.slice V' i' j') := X2.out.c 1 rfl
      go_wp2_with fail
      ((with_reducible refine (sub_z (rZ a k * y) (rZ b k * x) U V' l s i' j' _ R2.out R4.out E1.out E2.out).mono ?_); rintro e w3 ⟨T3, k3, r3, rfl, hs, hb⟩)
      rw [E3.out]; rw [fitZ_of E3.out] at hs ⊢
      clear e0 e1 e2 e3
      have S1 := Lib.hid (S1.out.below hb)
      have S2 := Lib.hid (S2.out.below hb)
      have S3 := Lib.hid (S3.out.below hb)
      have S4 := Lib.hid (S4.out.below hb)
      have S5 := Lib.hid (S5.out.below hb)
      have XA := Lib.hid (XA.out.below hb)
      have XY := Lib.hid (XY.out.below hb)
      have XB := Lib.hid (XB.out.below hb)
      have XX := Lib.hid (XX.out.below hb)
      have BW := Lib.hid (below_on BW.out hb)
      have X0 := Lib.hid (X0.out.below hb)
      have X1 := Lib.hid (X1.out.below hb)
      have R2 := Lib.hid (R2.out.below hb)
      have X2 := Lib.hid (X2.out.below hb)
      have R4 := Lib.hid (R4.out.below hb)
      clear hb
      have R5 := Lib.hid hs
      clear hs
      have e0 : w3.cell? ⟨bp0, 0, none⟩ = some (.bool (nOf (rZ a k * y))) := X1.out.c 0 rfl
      have e1 : w3.cell? ⟨bp0, 1, none⟩ = some (.slice U l s) := X1.out.c 1 rfl
      have e2 : w3.cell? ⟨bq0, 0, none⟩ = some (.bool (nOf (rZ b k * x))) := X2.out.c 0 rfl
      have e3 : w3.cell? ⟨bq0, 1, none⟩ = some (.slice V' i' j') := X2.out.c 1 rfl
      go_upto_region 4 with fail
      clear e0 e1 e2 e3
      have ln5 := XA.out.lt
      have ln6 := XY.out.lt
      have ln7 := XB.out.lt
      have ln8 := XX.out.lt
      have ln9 := X0.out.lt
      have ln10 := X1.out.lt
      have ln11 := X2.out.lt
      have S1 := Lib.hid (S1.out.alloc (.cells #[.bool (nOf (rZ a k * y - rZ b k * x)), .slice T3 k3 r3] 24))
      have S2 := Lib.hid (S2.out.alloc (.cells #[.bool (nOf (rZ a k * y - rZ b k * x)), .slice T3 k3 r3] 24))
      have S3 := Lib.hid (S3.out.alloc (.cells #[.bool (nOf (rZ a k * y - rZ b k * x)), .slice T3 k3 r3] 24))
      have S4 := Lib.hid (S4.out.alloc (.cells #[.bool (nOf (rZ a k * y - rZ b k * x)), .slice T3 k3 r3] 24))
      have S5 := Lib.hid (S5.out.alloc (.cells #[.bool (nOf (rZ a k * y - rZ b k * x)), .slice T3 k3 r3] 24))
      have XA := Lib.hid (XA.out.alloc (.cells #[.bool (nOf (rZ a k * y - rZ b k * x)), .slice T3 k3 r3] 24))
      have XY := Lib.hid (XY.out.alloc (.cells #[.bool (nOf (rZ a k * y - rZ b k * x)), .slice T3 k3 r3] 24))
      have XB := Lib.hid (XB.out.alloc (.cells #[.bool (nOf (rZ a k * y - rZ b k * x)), .slice T3 k3 r3] 24))
      have XX := Lib.hid (XX.out.alloc (.cells #[.bool (nOf (rZ a k * y - rZ b k * x)), .slice T3 k3 r3] 24))
      have BW := Lib.hid (BW.out.alloc BW.out.size (.cells #[.bool (nOf (rZ a k * y - rZ b k * x)), .slice T3 k3 r3] 24))
      have X0 := Lib.hid (X0.out.alloc (.cells #[.bool (nOf (rZ a k * y - rZ b k * x)), .slice T3 k3 r3] 24))
      have X1 := Lib.hid (X1.out.alloc (.cells #[.bool (nOf (rZ a k * y - rZ b k * x)), .slice T3 k3 r3] 24))
      have R2 := Lib.hid (R2.out.alloc (.cells #[.bool (nOf (rZ a k * y - rZ b k * x)), .slice T3 k3 r3] 24))
      have X2 := Lib.hid (X2.out.alloc (.cells #[.bool (nOf (rZ a k * y - rZ b k * x)), .slice T3 k3 r3] 24))
      have R4 := Lib.hid (R4.out.alloc (.cells #[.bool (nOf (rZ a k * y - rZ b k * x)), .slice T3 k3 r3] 24))
      have R5 := Lib.hid (R5.out.alloc (.cells #[.bool (nOf (rZ a k * y - rZ b k * x)), .slice T3 k3 r3] 24))
      have X3 := Lib.hid (Bk.new 24 w3 #[.bool (nOf (rZ a k * y - rZ b k * x)), .slice T3 k3 r3])
      generalize (w3.alloc (.cells #[.bool (nOf (rZ a k * y - rZ b k * x)), .slice T3 k3 r3] 24)) = W3 at *
      have e0 : W3.cell? ⟨w3.heap.size, 0, none⟩ = some (.bool (nOf (rZ a k * y - rZ b k * x))) := X3.out.c 0 rfl
      have e1 : W3.cell? ⟨w3.heap.size, 1, none⟩ = some (.slice T3 k3 r3) := X3.out.c 1 rfl
      have e2 : W3.cell? ⟨w.heap.size, 0, none⟩ = some (.bool false) := X0.out.c 0 rfl
      have e3 : W3.cell? ⟨w.heap.size, 1, none⟩ = some (.slice none 0 0) := X0.out.c 1 rfl
      have z4 := X0.out.fz 0
      have z5 := X0.out.fz 1
      go_wp2_with fail
      refine bodyPost_ret (v := .agg #[.bool (nOf (rZ a k * y - rZ b k * x)), .slice T3 k3 r3]) (by simp [results, Tryz.results82, go_sem, *]) rfl ⟨T3, k3, r3, rfl, R5.out.bk2 X0.out _ _, below_set2 BW.out (by omega) _ _⟩

set_option maxHeartbeats 1000000 in
theorem num_quot (k a y b x : Int) (G A Y B X : Option Addr) (ng cg na ca ny cy nb cb nx cx : Nat) (ba bY bb bx : Nat) (u1 u2 v1 v2 : Value) (w : World)
    (hG : Sl w G ng cg (lOf k)) (hA : Sl w A na ca (lOf a)) (hY : Sl w Y ny cy (lOf y)) (hB : Sl w B nb cb (lOf b)) (hX : Sl w X nx cx (lOf x))
    (pa : Bk 26 w ba #[.bool (nOf a), .slice A na ca, u1, u2]) (py : Bk 24 w bY #[.bool (nOf y), .slice Y ny cy]) (pb : Bk 26 w bb #[.bool (nOf b), .slice B nb cb, v1, v2]) (px : Bk 24 w bx #[.bool (nOf x), .slice X nx cx])
    (h0 : k ≠ 0) (fk : fitB k = true) (fa : fitB a = true) (fy : fitB y = true) (fb : fitB b = true) (fx : fitB x = true)
    (f1 : fitB (qZ a k * y) = true) (f2 : fitB (qZ b k * x) = true) (f3 : fitB (qZ a k * y - qZ b k * x) = true) :
    Calls Tryz.prog 82 #[.func (.func 38) #[.agg #[.bool (nOf k), .slice G ng cg]] #[], .pointer (some ⟨ba, 0, none⟩), .pointer (some ⟨bY, 0, none⟩), .pointer (some ⟨bb, 0, none⟩), .pointer (some ⟨bx, 0, none⟩)] w
      fun e w' => ∃ T k1 r, e = .returned (.agg #[.bool (nOf (qZ a k * y - qZ b k * x)), .slice T k1 r]) ∧ Sl w' T k1 r (lOf (qZ a k * y - qZ b k * x)) ∧ Below w.heap.size w w' := by
  have S1 := Lib.hid hG
  have S2 := Lib.hid hA
  have S3 := Lib.hid hY
  have S4 := Lib.hid hB
  have S5 := Lib.hid hX
  have XA := Lib.hid pa
  have XY := Lib.hid py
  have XB := Lib.hid pb
  have XX := Lib.hid px
  have H0 := Lib.hid h0
  have HG := Lib.hid fk
  have HA := Lib.hid fa
  have HY := Lib.hid fy
  have HB := Lib.hid fb
  have HX := Lib.hid fx
  have E1 := Lib.hid f1
  have E2 := Lib.hid f2
  have E3 := Lib.hid f3
  clear hG hA hY hB hX pa py pb px h0 fk fa fy fb fx f1 f2 f3
  have BW := Lib.hid (Below.refl w.heap.size w)
  go_enter Tryz.func82, Tryz.ntmps82
  go_upto_region 1 with fail
  have ln1 := XA.out.lt
  have ln2 := XY.out.lt
  have ln3 := XB.out.lt
  have ln4 := XX.out.lt
  have S1 := Lib.hid (S1.out.alloc (.cells #[.bool false, .slice none 0 0] 24))
  have S2 := Lib.hid (S2.out.alloc (.cells #[.bool false, .slice none 0 0] 24))
  have S3 := Lib.hid (S3.out.alloc (.cells #[.bool false, .slice none 0 0] 24))
  have S4 := Lib.hid (S4.out.alloc (.cells #[.bool false, .slice none 0 0] 24))
  have S5 := Lib.hid (S5.out.alloc (.cells #[.bool false, .slice none 0 0] 24))
  have XA := Lib.hid (XA.out.alloc (.cells #[.bool false, .slice none 0 0] 24))
  have XY := Lib.hid (XY.out.alloc (.cells #[.bool false, .slice none 0 0] 24))
  have XB := Lib.hid (XB.out.alloc (.cells #[.bool false, .slice none 0 0] 24))
  have XX := Lib.hid (XX.out.alloc (.cells #[.bool false, .slice none 0 0] 24))
  have BW := Lib.hid (BW.out.alloc BW.out.size (.cells #[.bool false, .slice none 0 0] 24))
  have X0 := Lib.hid (Bk.new 24 w #[.bool false, .slice none 0 0])
  generalize (w.alloc (.cells #[.bool false, .slice none 0 0] 24)) = W0 at *
  go_cut [7, 8] (fun vp0 vp1 wx => ∃ (bp0 : Nat) (U : Option Addr) (l s : Nat), vp0 = .pointer (some ⟨bp0, 0, none⟩) ∧ vp1 = .bool true ∧ W0.heap.size ≤ bp0 ∧ Bk 24 wx bp0 #[.bool (nOf (qZ a k * y)), .slice U l s] ∧ Sl wx U l s (lOf (qZ a k * y)) ∧ Below W0.heap.size W0 wx)
  case first =>
    have e0 : W0.cell? ⟨ba, 0, none⟩ = some (.bool (nOf a)) := XA.out.c 0 rfl
    have e1 : W0.cell? ⟨ba, 1, none⟩ = some (.slice A na ca) := XA.out.c 1 rfl
    have e2 : W0.cell? ⟨ba, 2, none⟩ = some (u1) := XA.out.c 2 rfl
    have e3 : W0.cell? ⟨ba, 3, none⟩ = some (u2) := XA.out.c 3 rfl
    have e4 : W0.cell? ⟨bY, 0, none⟩ = some (.bool (nOf (y))) := XY.out.c 0 rfl
    have e5 : W0.cell? ⟨bY, 1, none⟩ = some (.slice Y ny cy) := XY.out.c 1 rfl
    have laXA := XA.out.lt
    have xa0XA : ¬ W0.heap.size = ba := by omega
    have ya0XA : ¬ ba = W0.heap.size := by omega
    have laXY := XY.out.lt
    have xa0XY : ¬ W0.heap.size = bY := by omega
    have ya0XY : ¬ bY = W0.heap.size := by omega
    have BB0 := Lib.hid (Below.refl W0.heap.size W0)
    go_region_held3 (fun w' => w'.cell? ⟨ba, 0, none⟩ = some (.bool (nOf a)) ∧ w'.cell? ⟨ba, 1, none⟩ = some (.slice A na ca) ∧ w'.cell? ⟨ba, 2, none⟩ = some (u1) ∧ w'.cell? ⟨ba, 3, none⟩ = some (u2) ∧ w'.cell? ⟨bY, 0, none⟩ = some (.bool (nOf (y))) ∧ w'.cell? ⟨bY, 1, none⟩ = some (.slice Y ny cy)) (go_keep)
      (first | (go_at_call 38; (with_reducible refine (quot_z k a G A ng cg na ca _ (by first | exact S1.out.below BB0.out | exact (S1.out.below BB0.out).drew | exact (S1.out.below BB0.out).alloc _ | exact (S1.out.below BB0.out).drew.alloc _ | exact ((S1.out.below BB0.out).alloc _).drew) (by first | exact S2.out.below BB0.out | exact (S2.out.below BB0.out).drew | exact (S2.out.below BB0.out).alloc _ | exact (S2.out.below BB0.out).drew.alloc _ | exact ((S2.out.below BB0.out).alloc _).drew) HG.out HA.out).mono ?_); rintro e p1 ⟨T, k1, r, rfl, hs, hb⟩; have BB1 := Lib.hid (show Below W0.heap.size W0 p1 from (by first | exact below_up BB0.out hb | exact below_up BB0.out.drew hb | exact below_up (BB0.out.alloc BB0.out.size _) hb | exact below_up (BB0.out.drew.alloc BB0.out.drew.size _) hb | exact below_up (BB0.out.alloc BB0.out.size _).drew hb)); (first | (have N1a := Lib.hid (show Bk 24 p1 W0.heap.size #[.bool false, .slice none 0 0] from Bk.below (Bk.new 24 W0 #[.bool false, .slice none 0 0]) hb)) | (have N1a := Lib.hid (show Bk 24 p1 W0.heap.size #[.bool false, .slice none 0 0] from Bk.below (Bk.new 24 W0.drew #[.bool false, .slice none 0 0]) hb)) | (have N1a := Lib.hid (show Bk 24 p1 W0.heap.size #[.bool false, .slice none 0 0] from Bk.below (Bk.new 24 W0 #[.bool false, .slice none 0 0]).drew hb)) | skip); (first | (have mN1a0 := N1a.out.c 0 (v := .bool false) rfl; have oN1a0 := N1a.out.fz 0; have mN1a1 := N1a.out.c 1 (v := .slice none 0 0) rfl; have oN1a1 := N1a.out.fz 1; have yN1a := N1a.out.lt; have yaN1a1 : ¬ W0.heap.size = p1.heap.size := (by omega); have ybN1a1 : ¬ p1.heap.size = W0.heap.size := (by omega); have ycN1a1 : ¬ W0.heap.size = p1.heap.size + 1 := (by omega); have ydN1a1 : ¬ p1.heap.size + 1 = W0.heap.size := (by omega)) | skip); have R1 := Lib.hid hs; clear hs; have f0 : p1.cell? ⟨ba, 0, none⟩ = some (.bool (nOf a)) := (XA.out.below BB1.out).c 0 rfl; have f1 : p1.cell? ⟨ba, 1, none⟩ = some (.slice A na ca) := (XA.out.below BB1.out).c 1 rfl; have f2 : p1.cell? ⟨ba, 2, none⟩ = some (u1) := (XA.out.below BB1.out).c 2 rfl; have f3 : p1.cell? ⟨ba, 3, none⟩ = some (u2) := (XA.out.below BB1.out).c 3 rfl; have laXA := (XA.out.below BB1.out).lt; have xa1XA : ¬ p1.heap.size = ba := (by omega); have ya1XA : ¬ ba = p1.heap.size := (by omega); have f4 : p1.cell? ⟨bY, 0, none⟩ = some (.bool (nOf (y))) := (XY.out.below BB1.out).c 0 rfl; have f5 : p1.cell? ⟨bY, 1, none⟩ = some (.slice Y ny cy) := (XY.out.below BB1.out).c 1 rfl; have laXY := (XY.out.below BB1.out).lt; have xa1XY : ¬ p1.heap.size = bY := (by omega); have ya1XY : ¬ bY = p1.heap.size := (by omega); clear hb) | (go_at_call 75; (with_reducible refine (mul_z (qZ a k) y T Y k1 r ny cy _ (by first | exact R1.out | exact (R1.out).drew | exact (R1.out).alloc _ | exact (R1.out).drew.alloc _ | exact ((R1.out).alloc _).drew) (by first | exact S3.out.below BB1.out | exact (S3.out.below BB1.out).drew | exact (S3.out.below BB1.out).alloc _ | exact (S3.out.below BB1.out).drew.alloc _ | exact ((S3.out.below BB1.out).alloc _).drew) (fit_q H0.out HA.out) HY.out).mono ?_); rintro e p2 ⟨U, l, s, rfl, hs, hb⟩; rw [E1.out]; rw [fitZ_of E1.out] at hs ⊢; have BB2 := Lib.hid (show Below W0.heap.size W0 p2 from (by first | exact below_up BB1.out hb | exact below_up BB1.out.drew hb | exact below_up (BB1.out.alloc BB1.out.size _) hb | exact below_up (BB1.out.drew.alloc BB1.out.drew.size _) hb | exact below_up (BB1.out.alloc BB1.out.size _).drew hb)); (first | (have N1a := Lib.hid (N1a.out.below hb)) | (have N1a := Lib.hid (N1a.out.drew.below hb)) | (have N1a := Lib.hid ((N1a.out.alloc _).below hb)) | (have N1a := Lib.hid (((N1a.out.alloc _).drew).below hb)) | (have N1a := Lib.hid ((N1a.out.drew.alloc _).below hb)) | (have N1a := Lib.hid (((N1a.out.alloc _).alloc _).below hb)) | (have N1a := Lib.hid (((N1a.out.drew.alloc _).alloc _).below hb)) | skip); (first | (have N2a := Lib.hid (show Bk 24 p2 p1.heap.size #[.bool false, .slice none 0 0] from Bk.below (Bk.new 24 p1 #[.bool false, .slice none 0 0]) hb)) | (have N2a := Lib.hid (show Bk 24 p2 p1.heap.size #[.bool false, .slice none 0 0] from Bk.below (Bk.new 24 p1.drew #[.bool false, .slice none 0 0]) hb)) | (have N2a := Lib.hid (show Bk 24 p2 p1.heap.size #[.bool false, .slice none 0 0] from Bk.below (Bk.new 24 p1 #[.bool false, .slice none 0 0]).drew hb)) | skip); (first | (have mN1a0 := N1a.out.c 0 (v := .bool false) rfl; have oN1a0 := N1a.out.fz 0; have mN1a1 := N1a.out.c 1 (v := .slice none 0 0) rfl; have oN1a1 := N1a.out.fz 1; have yN1a := N1a.out.lt; have yaN1a2 : ¬ W0.heap.size = p2.heap.size := (by omega); have ybN1a2 : ¬ p2.heap.size = W0.heap.size := (by omega); have ycN1a2 : ¬ W0.heap.size = p2.heap.size + 1 := (by omega); have ydN1a2 : ¬ p2.heap.size + 1 = W0.heap.size := (by omega)) | skip); (first | (have mN2a0 := N2a.out.c 0 (v := .bool false) rfl; have oN2a0 := N2a.out.fz 0; have mN2a1 := N2a.out.c 1 (v := .slice none 0 0) rfl; have oN2a1 := N2a.out.fz 1; have yN2a := N2a.out.lt; have yaN2a2 : ¬ p1.heap.size = p2.heap.size := (by omega); have ybN2a2 : ¬ p2.heap.size = p1.heap.size := (by omega); have ycN2a2 : ¬ p1.heap.size = p2.heap.size + 1 := (by omega); have ydN2a2 : ¬ p2.heap.size + 1 = p1.heap.size := (by omega)) | skip); have R1 := Lib.hid (by first | exact R1.out.below hb | exact R1.out.drew.below hb | exact (R1.out.alloc _).below hb | exact (R1.out.drew.alloc _).below hb | exact ((R1.out.alloc _).drew).below hb | exact ((R1.out.alloc _).alloc _).below hb | exact ((R1.out.drew.alloc _).alloc _).below hb); have R2 := Lib.hid hs; clear hs; have f0 : p2.cell? ⟨ba, 0, none⟩ = some (.bool (nOf a)) := (XA.out.below BB2.out).c 0 rfl; have f1 : p2.cell? ⟨ba, 1, none⟩ = some (.slice A na ca) := (XA.out.below BB2.out).c 1 rfl; have f2 : p2.cell? ⟨ba, 2, none⟩ = some (u1) := (XA.out.below BB2.out).c 2 rfl; have f3 : p2.cell? ⟨ba, 3, none⟩ = some (u2) := (XA.out.below BB2.out).c 3 rfl; have laXA := (XA.out.below BB2.out).lt; have xa2XA : ¬ p2.heap.size = ba := (by omega); have ya2XA : ¬ ba = p2.heap.size := (by omega); have f4 : p2.cell? ⟨bY, 0, none⟩ = some (.bool (nOf (y))) := (XY.out.below BB2.out).c 0 rfl; have f5 : p2.cell? ⟨bY, 1, none⟩ = some (.slice Y ny cy) := (XY.out.below BB2.out).c 1 rfl; have laXY := (XY.out.below BB2.out).lt; have xa2XY : ¬ p2.heap.size = bY := (by omega); have ya2XY : ¬ bY = p2.heap.size := (by omega); clear hb))
    all_goals (go_wp2_with fail; go_meet; (first | exact ⟨_, U, l, s, rfl, rfl, (by first | exact Nat.le_refl _ | exact BB1.out.size | exact BB2.out.size), N1a.out.set2 _ _, R2.out.bk2 N1a.out _ _, below_set2 BB2.out (by first | exact Nat.le_refl _ | exact BB1.out.size | exact BB2.out.size) _ _⟩ | exact ⟨_, U, l, s, rfl, rfl, (by first | exact Nat.le_refl _ | exact BB1.out.size | exact BB2.out.size), N2a.out.set2 _ _, R2.out.bk2 N2a.out _ _, below_set2 BB2.out (by first | exact Nat.le_refl _ | exact BB1.out.size | exact BB2.out.size) _ _⟩ | exact ⟨_, U, l, s, rfl, rfl, (by first | exact Nat.le_refl _ | exact BB1.out.size | exact BB2.out.size), Bk.new _ _ _, R2.out.alloc _, BB2.out.alloc BB2.out.size _⟩))
  case rest =>
    obtain ⟨bp0, U, l, s, rfl, rfl, hge, hx0, hs, hb⟩ := hcut
    have S1 := Lib.hid (S1.out.below hb)
    have S2 := Lib.hid (S2.out.below hb)
    have S3 := Lib.hid (S3.out.below hb)
    have S4 := Lib.hid (S4.out.below hb)
    have S5 := Lib.hid (S5.out.below hb)
    have XA := Lib.hid (XA.out.below hb)
    have XY := Lib.hid (XY.out.below hb)
    have XB := Lib.hid (XB.out.below hb)
    have XX := Lib.hid (XX.out.below hb)
    have BW := Lib.hid (below_on BW.out hb)
    have X0 := Lib.hid (X0.out.below hb)
    clear hb
    have X1 := Lib.hid hx0
    clear hx0
    have R2 := Lib.hid hs
    clear hs
    clear hge
    generalize wc = W1 at *
    go_upto_region 2 with fail
    go_cut [9, 10] (fun vq0 vq1 wx => ∃ (bq0 : Nat) (V' : Option Addr) (i' j' : Nat), vq0 = .pointer (some ⟨bq0, 0, none⟩) ∧ vq1 = .bool true ∧ W1.heap.size ≤ bq0 ∧ Bk 24 wx bq0 #[.bool (nOf (qZ b k * x)), .slice V' i' j'] ∧ Sl wx V' i' j' (lOf (qZ b k * x)) ∧ Below W1.heap.size W1 wx)
    case first =>
      have e0 : W1.cell? ⟨bb, 0, none⟩ = some (.bool (nOf b)) := XB.out.c 0 rfl
      have e1 : W1.cell? ⟨bb, 1, none⟩ = some (.slice B nb cb) := XB.out.c 1 rfl
      have e2 : W1.cell? ⟨bb, 2, none⟩ = some (v1) := XB.out.c 2 rfl
      have e3 : W1.cell? ⟨bb, 3, none⟩ = some (v2) := XB.out.c 3 rfl
      have e4 : W1.cell? ⟨bx, 0, none⟩ = some (.bool (nOf (x))) := XX.out.c 0 rfl
      have e5 : W1.cell? ⟨bx, 1, none⟩ = some (.slice X nx cx) := XX.out.c 1 rfl
      have laXB := XB.out.lt
      have xa0XB : ¬ W1.heap.size = bb := by omega
      have ya0XB : ¬ bb = W1.heap.size := by omega
      have laXX := XX.out.lt
      have xa0XX : ¬ W1.heap.size = bx := by omega
      have ya0XX : ¬ bx = W1.heap.size := by omega
      have BB0 := Lib.hid (Below.refl W1.heap.size W1)
      go_region_held3 (fun w' => w'.cell? ⟨bb, 0, none⟩ = some (.bool (nOf b)) ∧ w'.cell? ⟨bb, 1, none⟩ = some (.slice B nb cb) ∧ w'.cell? ⟨bb, 2, none⟩ = some (v1) ∧ w'.cell? ⟨bb, 3, none⟩ = some (v2) ∧ w'.cell? ⟨bx, 0, none⟩ = some (.bool (nOf (x))) ∧ w'.cell? ⟨bx, 1, none⟩ = some (.slice X nx cx)) (go_keep)
        (first | (go_at_call 38; (with_reducible refine (quot_z k b G B ng cg nb cb _ (by first | exact S1.out.below BB0.out | exact (S1.out.below BB0.out).drew | exact (S1.out.below BB0.out).alloc _ | exact (S1.out.below BB0.out).drew.alloc _ | exact ((S1.out.below BB0.out).alloc _).drew) (by first | exact S4.out.below BB0.out | exact (S4.out.below BB0.out).drew | exact (S4.out.below BB0.out).alloc _ | exact (S4.out.below BB0.out).drew.alloc _ | exact ((S4.out.below BB0.out).alloc _).drew) HG.out HB.out).mono ?_); rintro e q1 ⟨V, i, j, rfl, hs, hb⟩; have BB1 := Lib.hid (show Below W1.heap.size W1 q1 from (by first | exact below_up BB0.out hb | exact below_up BB0.out.drew hb | exact below_up (BB0.out.alloc BB0.out.size _) hb | exact below_up (BB0.out.drew.alloc BB0.out.drew.size _) hb | exact below_up (BB0.out.alloc BB0.out.size _).drew hb)); (first | (have N1a := Lib.hid (show Bk 24 q1 W1.heap.size #[.bool false, .slice none 0 0] from Bk.below (Bk.new 24 W1 #[.bool false, .slice none 0 0]) hb)) | (have N1a := Lib.hid (show Bk 24 q1 W1.heap.size #[.bool false, .slice none 0 0] from Bk.below (Bk.new 24 W1.drew #[.bool false, .slice none 0 0]) hb)) | (have N1a := Lib.hid (show Bk 24 q1 W1.heap.size #[.bool false, .slice none 0 0] from Bk.below (Bk.new 24 W1 #[.bool false, .slice none 0 0]).drew hb)) | skip); (first | (have mN1a0 := N1a.out.c 0 (v := .bool false) rfl; have oN1a0 := N1a.out.fz 0; have mN1a1 := N1a.out.c 1 (v := .slice none 0 0) rfl; have oN1a1 := N1a.out.fz 1; have yN1a := N1a.out.lt; have yaN1a1 : ¬ W1.heap.size = q1.heap.size := (by omega); have ybN1a1 : ¬ q1.heap.size = W1.heap.size := (by omega); have ycN1a1 : ¬ W1.heap.size = q1.heap.size + 1 := (by omega); have ydN1a1 : ¬ q1.heap.size + 1 = W1.heap.size := (by omega)) | skip); have R1 := Lib.hid hs; clear hs; have f0 : q1.cell? ⟨bb, 0, none⟩ = some (.bool (nOf b)) := (XB.out.below BB1.out).c 0 rfl; have f1 : q1.cell? ⟨bb, 1, none⟩ = some (.slice B nb cb) := (XB.out.below BB1.out).c 1 rfl; have f2 : q1.cell? ⟨bb, 2, none⟩ = some (v1) := (XB.out.below BB1.out).c 2 rfl; have f3 : q1.cell? ⟨bb, 3, none⟩ = some (v2) := (XB.out.below BB1.out).c 3 rfl; have laXB := (XB.out.below BB1.out).lt; have xa1XB : ¬ q1.heap.size = bb := (by omega); have ya1XB : ¬ bb = q1.heap.size := (by omega); have f4 : q1.cell? ⟨bx, 0, none⟩ = some (.bool (nOf (x))) := (XX.out.below BB1.out).c 0 rfl; have f5 : q1.cell? ⟨bx, 1, none⟩ = some (.slice X nx cx) := (XX.out.below BB1.out).c 1 rfl; have laXX := (XX.out.below BB1.out).lt; have xa1XX : ¬ q1.heap.size = bx := (by omega); have ya1XX : ¬ bx = q1.heap.size := (by omega); clear hb) | (go_at_call 75; (with_reducible refine (mul_z (qZ b k) x V X i j nx cx _ (by first | exact R1.out | exact (R1.out).drew | exact (R1.out).alloc _ | exact (R1.out).drew.alloc _ | exact ((R1.out).alloc _).drew) (by first | exact S5.out.below BB1.out | exact (S5.out.below BB1.out).drew | exact (S5.out.below BB1.out).alloc _ | exact (S5.out.below BB1.out).drew.alloc _ | exact ((S5.out.below BB1.out).alloc _).drew) (fit_q H0.out HB.out) HX.out).mono ?_); rintro e q2 ⟨V', i', j', rfl, hs, hb⟩; rw [E2.out]; rw [fitZ_of E2.out] at hs ⊢; have BB2 := Lib.hid (show Below W1.heap.size W1 q2 from (by first | exact below_up BB1.out hb | exact below_up BB1.out.drew hb | exact below_up (BB1.out.alloc BB1.out.size _) hb | exact below_up (BB1.out.drew.alloc BB1.out.drew.size _) hb | exact below_up (BB1.out.alloc BB1.out.size _).drew hb)); (first | (have N1a := Lib.hid (N1a.out.below hb)) | (have N1a := Lib.hid (N1a.out.drew.below hb)) | (have N1a := Lib.hid ((N1a.out.alloc _).below hb)) | (have N1a := Lib.hid (((N1a.out.alloc _).drew).below hb)) | (have N1a := Lib.hid ((N1a.out.drew.alloc _).below hb)) | (have N1a := Lib.hid (((N1a.out.alloc _).alloc _).below hb)) | (have N1a := Lib.hid (((N1a.out.drew.alloc _).alloc _).below hb)) | skip); (first | (have N2a := Lib.hid (show Bk 24 q2 q1.heap.size #[.bool false, .slice none 0 0] from Bk.below (Bk.new 24 q1 #[.bool false, .slice none 0 0]) hb)) | (have N2a := Lib.hid (show Bk 24 q2 q1.heap.size #[.bool false, .slice none 0 0] from Bk.below (Bk.new 24 q1.drew #[.bool false, .slice none 0 0]) hb)) | (have N2a := Lib.hid (show Bk 24 q2 q1.heap.size #[.bool false, .slice none 0 0] from Bk.below (Bk.new 24 q1 #[.bool false, .slice none 0 0]).drew hb)) | skip); (first | (have mN1a0 := N1a.out.c 0 (v := .bool false) rfl; have oN1a0 := N1a.out.fz 0; have mN1a1 := N1a.out.c 1 (v := .slice none 0 0) rfl; have oN1a1 := N1a.out.fz 1; have yN1a := N1a.out.lt; have yaN1a2 : ¬ W1.heap.size = q2.heap.size := (by omega); have ybN1a2 : ¬ q2.heap.size = W1.heap.size := (by omega); have ycN1a2 : ¬ W1.heap.size = q2.heap.size + 1 := (by omega); have ydN1a2 : ¬ q2.heap.size + 1 = W1.heap.size := (by omega)) | skip); (first | (have mN2a0 := N2a.out.c 0 (v := .bool false) rfl; have oN2a0 := N2a.out.fz 0; have mN2a1 := N2a.out.c 1 (v := .slice none 0 0) rfl; have oN2a1 := N2a.out.fz 1; have yN2a := N2a.out.lt; have yaN2a2 : ¬ q1.heap.size = q2.heap.size := (by omega); have ybN2a2 : ¬ q2.heap.size = q1.heap.size := (by omega); have ycN2a2 : ¬ q1.heap.size = q2.heap.size + 1 := (by omega); have ydN2a2 : ¬ q2.heap.size + 1 = q1.heap.size := (by omega)) | skip); have R1 := Lib.hid (by first | exact R1.out.below hb | exact R1.out.drew.below hb | exact (R1.out.alloc _).below hb | exact (R1.out.drew.alloc _).below hb | exact ((R1.out.alloc _).drew).below hb | exact ((R1.out.alloc _).alloc _).below hb | exact ((R1.out.drew.alloc _).alloc _).below hb); have R2 := Lib.hid hs; clear hs; have f0 : q2.cell? ⟨bb, 0, none⟩ = some (.bool (nOf b)) := (XB.out.below BB2.out).c 0 rfl; have f1 : q2.cell? ⟨bb, 1, none⟩ = some (.slice B nb cb) := (XB.out.below BB2.out).c 1 rfl; have f2 : q2.cell? ⟨bb, 2, none⟩ = some (v1) := (XB.out.below BB2.out).c 2 rfl; have f3 : q2.cell? ⟨bb, 3, none⟩ = some (v2) := (XB.out.below BB2.out).c 3 rfl; have laXB := (XB.out.below BB2.out).lt; have xa2XB : ¬ q2.heap.size = bb := (by omega); have ya2XB : ¬ bb = q2.heap.size := (by omega); have f4 : q2.cell? ⟨bx, 0, none⟩ = some (.bool (nOf (x))) := (XX.out.below BB2.out).c 0 rfl; have f5 : q2.cell? ⟨bx, 1, none⟩ = some (.slice X nx cx) := (XX.out.below BB2.out).c 1 rfl; have laXX := (XX.out.below BB2.out).lt; have xa2XX : ¬ q2.heap.size = bx := (by omega); have ya2XX : ¬ bx = q2.heap.size := (by omega); clear hb))
      all_goals (go_wp2_with fail; go_meet; (first | exact ⟨_, V', i', j', rfl, rfl, (by first | exact Nat.le_refl _ | exact BB1.out.size | exact BB2.out.size), N1a.out.set2 _ _, R2.out.bk2 N1a.out _ _, below_set2 BB2.out (by first | exact Nat.le_refl _ | exact BB1.out.size | exact BB2.out.size) _ _⟩ | exact ⟨_, V', i', j', rfl, rfl, (by first | exact Nat.le_refl _ | exact BB1.out.size | exact BB2.out.size), N2a.out.set2 _ _, R2.out.bk2 N2a.out _ _, below_set2 BB2.out (by first | exact Nat.le_refl _ | exact BB1.out.size | exact BB2.out.size) _ _⟩ | exact ⟨_, V', i', j', rfl, rfl, (by first | exact Nat.le_refl _ | exact BB1.out.size | exact BB2.out.size), Bk.new _ _ _, R2.out.alloc _, BB2.out.alloc BB2.out.size _⟩))
    case rest =>
      obtain ⟨bq0, V', i', j', rfl, rfl, hge, hx0, hs, hb⟩ := hcut
      have S1 := Lib.hid (S1.out.below hb)
      have S2 := Lib.hid (S2.out.below hb)
      have S3 := Lib.hid (S3.out.below hb)
      have S4 := Lib.hid (S4.out.below hb)
      have S5 := Lib.hid (S5.out.below hb)
      have XA := Lib.hid (XA.out.below hb)
      have XY := Lib.hid (XY.out.below hb)
      have XB := Lib.hid (XB.out.below hb)
      have XX := Lib.hid (XX.out.below hb)
      have BW := Lib.hid (below_on BW.out hb)
      have X0 := Lib.hid (X0.out.below hb)
      have X1 := Lib.hid (X1.out.below hb)
      have R2 := Lib.hid (R2.out.below hb)
      clear hb
      have X2 := Lib.hid hx0
      clear hx0
      have R4 := Lib.hid hs
      clear hs
      clear hge
      generalize wc = W2 at *
      go_upto_region 3 with fail
      have e0 : W2.cell? ⟨bp0, 0, none⟩ = some (.bool (nOf (qZ a k * y))) := X1.out.c 0 rfl
      have e1 : W2.cell? ⟨bp0, 1, none⟩ = some (.slice U l s) := X1.out.c 1 rfl
      have e2 : W2.cell? ⟨bq0, 0, none⟩ = some (.bool (nOf (qZ b k * x))) := X2.out.c 0 rfl
      have e3 : W2.cell? ⟨bq0, 1, none⟩ = some (.slice V' i' j') := X2.out.c 1 rfl
      go_wp2_with fail
      ((with_reducible refine (sub_z (qZ a k * y) (qZ b k * x) U V' l s i' j' _ R2.out R4.out E1.out E2.out).mono ?_); rintro e w3 ⟨T3, k3, r3, rfl, hs, hb⟩)
      rw [E3.out]; rw [fitZ_of E3.out] at hs ⊢
      clear e0 e1 e2 e3
      have S1 := Lib.hid (S1.out.below hb)
      have S2 := Lib.hid (S2.out.below hb)
      have S3 := Lib.hid (S3.out.below hb)
      have S4 := Lib.hid (S4.out.below hb)
      have S5 := Lib.hid (S5.out.below hb)
      have XA := Lib.hid (XA.out.below hb)
      have XY := Lib.hid (XY.out.below hb)
      have XB := Lib.hid (XB.out.below hb)
      have XX := Lib.hid (XX.out.below hb)
      have BW := Lib.hid (below_on BW.out hb)
      have X0 := Lib.hid (X0.out.below hb)
      have X1 := Lib.hid (X1.out.below hb)
      have R2 := Lib.hid (R2.out.below hb)
      have X2 := Lib.hid (X2.out.below hb)
      have R4 := Lib.hid (R4.out.below hb)
      clear hb
      have R5 := Lib.hid hs
      clear hs
      have e0 : w3.cell? ⟨bp0, 0, none⟩ = some (.bool (nOf (qZ a k * y))) := X1.out.c 0 rfl
      have e1 : w3.cell? ⟨bp0, 1, none⟩ = some (.slice U l s) := X1.out.c 1 rfl
      have e2 : w3.cell? ⟨bq0, 0, none⟩ = some (.bool (nOf (qZ b k * x))) := X2.out.c 0 rfl
      have e3 : w3.cell? ⟨bq0, 1, none⟩ = some (.slice V' i' j') := X2.out.c 1 rfl
      go_upto_region 4 with fail
      clear e0 e1 e2 e3
      have ln5 := XA.out.lt
      have ln6 := XY.out.lt
      have ln7 := XB.out.lt
      have ln8 := XX.out.lt
      have ln9 := X0.out.lt
      have ln10 := X1.out.lt
      have ln11 := X2.out.lt
      have S1 := Lib.hid (S1.out.alloc (.cells #[.bool (nOf (qZ a k * y - qZ b k * x)), .slice T3 k3 r3] 24))
      have S2 := Lib.hid (S2.out.alloc (.cells #[.bool (nOf (qZ a k * y - qZ b k * x)), .slice T3 k3 r3] 24))
      have S3 := Lib.hid (S3.out.alloc (.cells #[.bool (nOf (qZ a k * y - qZ b k * x)), .slice T3 k3 r3] 24))
      have S4 := Lib.hid (S4.out.alloc (.cells #[.bool (nOf (qZ a k * y - qZ b k * x)), .slice T3 k3 r3] 24))
      have S5 := Lib.hid (S5.out.alloc (.cells #[.bool (nOf (qZ a k * y - qZ b k * x)), .slice T3 k3 r3] 24))
      have XA := Lib.hid (XA.out.alloc (.cells #[.bool (nOf (qZ a k * y - qZ b k * x)), .slice T3 k3 r3] 24))
      have XY := Lib.hid (XY.out.alloc (.cells #[.bool (nOf (qZ a k * y - qZ b k * x)), .slice T3 k3 r3] 24))
      have XB := Lib.hid (XB.out.alloc (.cells #[.bool (nOf (qZ a k * y - qZ b k * x)), .slice T3 k3 r3] 24))
      have XX := Lib.hid (XX.out.alloc (.cells #[.bool (nOf (qZ a k * y - qZ b k * x)), .slice T3 k3 r3] 24))
      have BW := Lib.hid (BW.out.alloc BW.out.size (.cells #[.bool (nOf (qZ a k * y - qZ b k * x)), .slice T3 k3 r3] 24))
      have X0 := Lib.hid (X0.out.alloc (.cells #[.bool (nOf (qZ a k * y - qZ b k * x)), .slice T3 k3 r3] 24))
      have X1 := Lib.hid (X1.out.alloc (.cells #[.bool (nOf (qZ a k * y - qZ b k * x)), .slice T3 k3 r3] 24))
      have R2 := Lib.hid (R2.out.alloc (.cells #[.bool (nOf (qZ a k * y - qZ b k * x)), .slice T3 k3 r3] 24))
      have X2 := Lib.hid (X2.out.alloc (.cells #[.bool (nOf (qZ a k * y - qZ b k * x)), .slice T3 k3 r3] 24))
      have R4 := Lib.hid (R4.out.alloc (.cells #[.bool (nOf (qZ a k * y - qZ b k * x)), .slice T3 k3 r3] 24))
      have R5 := Lib.hid (R5.out.alloc (.cells #[.bool (nOf (qZ a k * y - qZ b k * x)), .slice T3 k3 r3] 24))
      have X3 := Lib.hid (Bk.new 24 w3 #[.bool (nOf (qZ a k * y - qZ b k * x)), .slice T3 k3 r3])
      generalize (w3.alloc (.cells #[.bool (nOf (qZ a k * y - qZ b k * x)), .slice T3 k3 r3] 24)) = W3 at *
      have e0 : W3.cell? ⟨w3.heap.size, 0, none⟩ = some (.bool (nOf (qZ a k * y - qZ b k * x))) := X3.out.c 0 rfl
      have e1 : W3.cell? ⟨w3.heap.size, 1, none⟩ = some (.slice T3 k3 r3) := X3.out.c 1 rfl
      have e2 : W3.cell? ⟨w.heap.size, 0, none⟩ = some (.bool false) := X0.out.c 0 rfl
      have e3 : W3.cell? ⟨w.heap.size, 1, none⟩ = some (.slice none 0 0) := X0.out.c 1 rfl
      have z4 := X0.out.fz 0
      have z5 := X0.out.fz 1
      go_wp2_with fail
      refine bodyPost_ret (v := .agg #[.bool (nOf (qZ a k * y - qZ b k * x)), .slice T3 k3 r3]) (by simp [results, Tryz.results82, go_sem, *]) rfl ⟨T3, k3, r3, rfl, R5.out.bk2 X0.out _ _, below_set2 BW.out (by omega) _ _⟩
end Go.Proofs.YtfenmogbellhdaaGreatDoor
