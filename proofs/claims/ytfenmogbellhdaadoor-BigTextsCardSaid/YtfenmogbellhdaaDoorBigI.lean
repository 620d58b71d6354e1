/-
  Contract of the program's Mul.
-/
import Derived.Test.YtfenmogbellhdaaDoorBigG
namespace Go.Proofs.YtfenmogbellhdaaDoor
open Go.RowKit
attribute [local go_sem ↓] Go.wp_at_zero Go.wp_at_succ

theorem sgn_prod (a b : Int) : sgn (nOf a != nOf b) ((val (lOf a) * val (lOf b)).toNat : Nat) = a * b := by
  rw [val_lOf, val_lOf, ← Int.natCast_mul, Int.toNat_natCast, ← Int.natAbs_mul]
  unfold sgn nOf
  by_cases ha : a < 0 <;> by_cases hb : b < 0
  · have := Int.mul_pos_of_neg_of_neg ha hb; simp [ha, hb]; omega
  · have : a * b ≤ 0 := Int.mul_nonpos_of_nonpos_of_nonneg (by omega) (by omega)
    simp [ha, hb]; omega
  · have : a * b ≤ 0 := Int.mul_nonpos_of_nonneg_of_nonpos (by omega) (by omega)
    simp [ha, hb]; omega
  · have : 0 ≤ a * b := Int.mul_nonneg (by omega) (by omega)
    simp [ha, hb]; omega

set_option maxRecDepth 100000 in
set_option maxHeartbeats 2000000 in
theorem mul_big (na nb : Bool) (A B : Option Addr) (n c m d : Nat) (xs ys : List Int) (w : World) (ha : Sl w A n c xs) (hb : Sl w B m d ys) :
    Calls Tryd.prog 66 #[.agg #[.bool na, .slice A n c], .agg #[.bool nb, .slice B m d]] w fun e w' => ∃ T k r, e = .returned (.tuple #[.agg #[.bool (nOf (fitZ (zOf na xs * zOf nb ys))), .slice T k r], .bool (fitB (zOf na xs * zOf nb ys))]) ∧ Sl w' T k r (lOf (fitZ (zOf na xs * zOf nb ys))) ∧ Below w.heap.size w w' := by
  have HA := Lib.hid ha
  have HB := Lib.hid hb
  have HFA := Lib.hid (fit_zOf na xs)
  have HFB := Lib.hid (fit_zOf nb ys)
  clear ha hb
  go_enter Tryd.func66, Tryd.ntmps66
  go_upto_region 1 with fail
  have X1 := Lib.hid (((Bx.new w (.bool na) (.slice A n c)).alloc (.cells #[.bool nb, .slice B m d] 35)).alloc (.cells #[.bool false, .slice none 0 0] 35))
  have X2 := Lib.hid ((Bx.new (w.alloc (.cells #[.bool na, .slice A n c] 35)) (.bool nb) (.slice B m d)).alloc (.cells #[.bool false, .slice none 0 0] 35))
  have X3 := Lib.hid (Bx.new ((w.alloc (.cells #[.bool na, .slice A n c] 35)).alloc (.cells #[.bool nb, .slice B m d] 35)) (.bool false) (.slice none 0 0))
  have BW : Hid (Below w.heap.size w (((w.alloc (.cells #[.bool na, .slice A n c] 35)).alloc (.cells #[.bool nb, .slice B m d] 35)).alloc (.cells #[.bool false, .slice none 0 0] 35))) := (((Below.refl _ _).alloc (Nat.le_refl _) _).alloc (by simp) _).alloc (by simp; omega) _
  rw [alloc_sz] at X2
  rw [alloc_sz, alloc_sz] at X3
  generalize ((w.alloc (.cells #[.bool na, .slice A n c] 35)).alloc (.cells #[.bool nb, .slice B m d] 35)).alloc (.cells #[.bool false, .slice none 0 0] 35) = W at *
  go_cut [] (fun wx => Pair w w.heap.size (w.heap.size + 1) (zOf na xs) (zOf nb ys) wx ∧ Bx wx (w.heap.size + 1 + 1) (.bool false) (.slice none 0 0))
  case first =>
    have c1 := X1.out.c0
    have c2 := X1.out.c1
    have c3 := X2.out.c0
    have c4 := X2.out.c1
    go_region_with (first | (go_at_call 67; refine (sound_any na A n c xs _ (by first | exact HA.out.below BW.out | exact ((HA.out.below BW.out).drew))).mono ?_; rintro e w1 ⟨R, k, r, rfl, hR, hb⟩; have HR := Lib.hid hR; have BB := Lib.hid (show Below W.heap.size W w1 from (by first | exact hb | exact (Below.refl _ _).drew.trans (hb.mono (Nat.le_refl _)))); have d1 := (X1.out.below BB.out).c0; have d2 := (X1.out.below BB.out).c1; have d3 := (X2.out.below BB.out).c0; have d4 := (X2.out.below BB.out).c1; clear hR hb) | (go_at_call 67; refine (sound_any nb B m d ys _ (by first | exact HB.out.below (below_up BW.out BB.out) | exact ((HB.out.below (below_up BW.out BB.out)).drew))).mono ?_; rintro e w2 ⟨R2, k2, r2, rfl, hR, hb⟩; have HR2 := Lib.hid hR; have HR1 := Lib.hid (show Sl w2 _ _ _ _ from (by first | exact HR.out.below hb | exact Sl.below (w := w1.drew) HR.out.drew hb)); have BC := Lib.hid (show Below W.heap.size W w2 from (by first | exact BB.out.trans (hb.mono BB.out.size) | exact BB.out.drew.trans (hb.mono BB.out.size))); have e1 := (X1.out.below BC.out).c0; have e2 := (X1.out.below BC.out).c1; have e3 := (X2.out.below BC.out).c0; have e4 := (X2.out.below BC.out).c1; have e5 := (X1.out.below BC.out).fz 0; have e6 := (X1.out.below BC.out).fz 1; have e7 := (X2.out.below BC.out).fz 0; have e8 := (X2.out.below BC.out).fz 1; clear hR hb))
    all_goals (go_wp2_with fail; go_meet; exact ⟨pair_end BW.out BC.out X1.out X2.out (by omega) (Nat.le_refl _) (by omega) HR1.out HR2.out, (((X3.out.below BC.out).far (by show w.heap.size + 1 + 1 ≠ w.heap.size; omega) _).far (by show w.heap.size + 1 + 1 ≠ w.heap.size; omega) _).far (by show w.heap.size + 1 + 1 ≠ w.heap.size + 1; omega) _ |>.far (by show w.heap.size + 1 + 1 ≠ w.heap.size + 1; omega) _⟩)
  case rest =>
    clear X1 X2 X3 BW HA HB
    generalize hza : zOf na xs = za at *
    generalize hzb : zOf nb ys = zb at *
    have HZA := Lib.hid hza
    have HZB := Lib.hid hzb
    clear hza hzb
    obtain ⟨⟨A', n', c', B', m', d', hx1, hx2, hs1, hs2, hbw⟩, hx3⟩ := hcut
    have X1 := Lib.hid hx1
    have X2 := Lib.hid hx2
    have X3 := Lib.hid hx3
    have S1 := Lib.hid hs1
    have S2 := Lib.hid hs2
    have BW := Lib.hid hbw
    have c1 := hx1.c0
    have c2 := hx1.c1
    have c3 := hx2.c0
    have c4 := hx2.c1
    have l1 := hs1.fit HFA.out
    have l2 := hs2.fit HFB.out
    have t1 := hs1.top
    have t2 := hs2.top
    have q1 := hs1.cap
    have q2 := hs2.cap
    clear hx1 hx2 hx3 hs1 hs2 hbw
    have HE := Lib.hid (sgn_prod za zb)
    go_upto_region 2 with fail
    generalize hW : wc = W at *
    clear hW
    have n1 : ¬ w.heap.size = w.heap.size + 1 + 1 := by omega
    have n2 : ¬ w.heap.size + 1 + 1 = w.heap.size := by omega
    go_region_held3 (fun w' => w'.cell? ⟨w.heap.size, 0, none⟩ = some (.bool (nOf za)) ∧ w'.cell? ⟨w.heap.size, 1, none⟩ = some (.slice A' n' c') ∧ w'.cell? ⟨w.heap.size + 1, 0, none⟩ = some (.bool (nOf zb)) ∧ w'.cell? ⟨w.heap.size + 1, 1, none⟩ = some (.slice B' m' d')) (go_keep)
      (first | (go_at_call 119; refine (product_any _ _ _ _ _ _ (lOf za) (lOf zb) _ (by first | exact S1.out | exact S1.out.drew) (by first | exact S2.out | exact S2.out.drew) (lOf_ok _) (lOf_ok _) (by omega) (by omega)).mono ?_; rintro e w3 ⟨R, k, r, rfl, hR, hb⟩; have HR := Lib.hid hR; have BB := Lib.hid (show Below W.heap.size W w3 from (by first | exact hb | exact (Below.refl _ _).drew.trans (hb.mono (Nat.le_refl _)))); have d1 := (X1.out.below BB.out).c0; have d2 := (X1.out.below BB.out).c1; have d3 := (X2.out.below BB.out).c0; have d4 := (X2.out.below BB.out).c1; clear hR hb) | (go_at_call 71; refine (signed_any (nOf za != nOf zb) R k r ((val (lOf za) * val (lOf zb)).toNat) _ HR.out).mono ?_; rintro e w4 ⟨rfl, hR, hb⟩; rw [HE.out] at hR ⊢; have HR4 := Lib.hid hR; have BC := Lib.hid (below_up BB.out hb); have d1 := (X1.out.below BC.out).c0; have d2 := (X1.out.below BC.out).c1; have d3 := (X2.out.below BC.out).c0; have d4 := (X2.out.below BC.out).c1; clear hR hb) | (go_at_call 118; refine (limited_any (za * zb) R k r _ HR4.out).mono ?_; rintro e w5 ⟨T, kt, rt, rfl, hR, hb⟩; have HR5 := Lib.hid hR; have BD := Lib.hid (below_up BC.out hb); have d1 := (X1.out.below BD.out).c0; have d2 := (X1.out.below BD.out).c1; have d3 := (X2.out.below BD.out).c0; have d4 := (X2.out.below BD.out).c1; have d5 := (X3.out.below BD.out).c0; have d6 := (X3.out.below BD.out).c1; have d7 := (X3.out.below BD.out).fz 0; have d8 := (X3.out.below BD.out).fz 1; clear hR hb))
    all_goals
      go_wp2_with fail
      refine bodyPost_ret (v := .tuple #[.agg #[.bool (nOf (fitZ (za * zb))), .slice T kt rt], .bool (fitB (za * zb))]) (by simp [results, Tryd.results66, go_sem, *]) rfl ⟨T, kt, rt, ?_, ?_, ?_⟩
      · rw [HZA.out, HZB.out]
      · rw [HZA.out, HZB.out]; exact HR5.out.box (X3.out.below BD.out).box _ _
      · exact ((below_up BW.out BD.out).setCell (p := ⟨w.heap.size + 1 + 1, 0, none⟩) (by simp; omega) _).setCell (p := ⟨w.heap.size + 1 + 1, 1, none⟩) (by simp; omega) _

end Go.Proofs.YtfenmogbellhdaaDoor
