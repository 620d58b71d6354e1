/-
  Contracts of the program's Add and Sub.
-/
import Derived.Test.YtfenmogbellhdaaDoorBigG
namespace Go.Proofs.YtfenmogbellhdaaDoor
open Go.RowKit
attribute [local go_sem ↓] Go.wp_at_zero Go.wp_at_succ

theorem sgn_sum {a b : Int} (h : (nOf a == nOf b) = true) : sgn (nOf a) ((val (lOf a) + val (lOf b)).toNat : Nat) = a + b := by
  have h' : nOf a = nOf b := by simpa using h
  rw [val_lOf, val_lOf]
  unfold sgn
  cases hb : nOf b with
  | true => have := nOf_true (h'.trans hb); have := nOf_true hb; rw [h', hb]; simp; omega
  | false => have := nOf_false (h'.trans hb); have := nOf_false hb; rw [h', hb]; simp; omega
theorem cmp_abs_lt {a b : Int} (h : a.natAbs < b.natAbs) : cmpI (val (lOf a)) (val (lOf b)) = -1 := by rw [val_lOf, val_lOf]; exact cmpI_lt (by omega)
theorem cmp_abs_ge {a b : Int} (h : ¬ a.natAbs < b.natAbs) : 0 ≤ cmpI (val (lOf a)) (val (lOf b)) := by
  rw [val_lOf, val_lOf]; unfold cmpI; rw [if_neg (by omega)]; split <;> omega
theorem abs_len {a b : Int} (h : a.natAbs ≤ b.natAbs) : (lOf a).length ≤ (lOf b).length := digs_len_le (by have := digs_len_lt (n := b.natAbs) (k := (lOf b).length) (Nat.le_refl _); omega)
theorem sgn_diff {a b : Int} (h : (nOf a == nOf b) = false) (hle : b.natAbs ≤ a.natAbs) : sgn (nOf a) ((val (lOf a) - val (lOf b)).toNat : Nat) = a + b := by
  have h' : nOf a ≠ nOf b := by simpa using h
  rw [val_lOf, val_lOf]
  unfold sgn
  cases hb : nOf b with
  | true => have ha : nOf a = false := by cases ha : nOf a; rfl; exact absurd (ha.trans hb.symm) h'
            have := nOf_false ha; have := nOf_true hb; rw [ha]; simp; omega
  | false => have ha : nOf a = true := by cases ha : nOf a; exact absurd (ha.trans hb.symm) h'; rfl
             have := nOf_true ha; have := nOf_false hb; rw [ha]; simp; omega

set_option maxRecDepth 100000 in
set_option maxHeartbeats 2000000 in
theorem add_big (na nb : Bool) (A B : Option Addr) (n c m d : Nat) (xs ys : List Int) (w : World) (ha : Sl w A n c xs) (hb : Sl w B m d ys) :
    Calls Tryd.prog 186 #[.agg #[.bool na, .slice A n c], .agg #[.bool nb, .slice B m d]] w fun e w' => ∃ T k r, e = .returned (.tuple #[.agg #[.bool (nOf (fitZ (zOf na xs + zOf nb ys))), .slice T k r], .bool (fitB (zOf na xs + zOf nb ys))]) ∧ Sl w' T k r (lOf (fitZ (zOf na xs + zOf nb ys))) ∧ Below w.heap.size w w' := by
  have HA := Lib.hid ha
  have HB := Lib.hid hb
  have HFA := Lib.hid (fit_zOf na xs)
  have HFB := Lib.hid (fit_zOf nb ys)
  clear ha hb
  go_enter Tryd.func186, Tryd.ntmps186
  go_upto_region 1 with fail
  have X1 := Lib.hid (((Bx.new w (.bool na) (.slice A n c)).alloc (.cells #[.bool nb, .slice B m d] 35)).alloc (.cells #[.bool false, .slice none 0 0] 35))
  have X2 := Lib.hid ((Bx.new (w.alloc (.cells #[.bool na, .slice A n c] 35)) (.bool nb) (.slice B m d)).alloc (.cells #[.bool false, .slice none 0 0] 35))
  have X3 := Lib.hid (Bx.new ((w.alloc (.cells #[.bool na, .slice A n c] 35)).alloc (.cells #[.bool nb, .slice B m d] 35)) (.bool false) (.slice none 0 0))
  have BW : Hid (Below w.heap.size w (((w.alloc (.cells #[.bool na, .slice A n c] 35)).alloc (.cells #[.bool nb, .slice B m d] 35)).alloc (.cells #[.bool false, .slice none 0 0] 35))) := (((Below.refl _ _).alloc (Nat.le_refl _) _).alloc (by simp) _).alloc (by simp; omega) _
  rw [alloc_sz] at X2
  rw [alloc_sz, alloc_sz] at X3
  generalize ((w.alloc (.cells #[.bool na, .slice A n c] 35)).alloc (.cells #[.bool nb, .slice B m d] 35)).alloc (.cells #[.bool false, .slice none 0 0] 35) = W at *
  go_cut [] (fun wx => Pair w w.heap.size (w.heap.size + 1) (zOf na xs) (zOf nb ys) wx ∧ Bx wx (w.heap.size + 1 + 1) (.bool false) (.slice none 0 0))
  case first =>
    have c1 := X1.out.c0
    have c2 := X1.out.c1
    have c3 := X2.out.c0
    have c4 := X2.out.c1
    go_region_with (first | (go_at_call 67; refine (sound_any na A n c xs _ (by first | exact HA.out.below BW.out | exact ((HA.out.below BW.out).drew))).mono ?_; rintro e w1 ⟨R, k, r, rfl, hR, hb⟩; have HR := Lib.hid hR; have BB := Lib.hid (show Below W.heap.size W w1 from (by first | exact hb | exact (Below.refl _ _).drew.trans (hb.mono (Nat.le_refl _)))); have d1 := (X1.out.below BB.out).c0; have d2 := (X1.out.below BB.out).c1; have d3 := (X2.out.below BB.out).c0; have d4 := (X2.out.below BB.out).c1; clear hR hb) | (go_at_call 67; refine (sound_any nb B m d ys _ (by first | exact HB.out.below (below_up BW.out BB.out) | exact ((HB.out.below (below_up BW.out BB.out)).drew))).mono ?_; rintro e w2 ⟨R2, k2, r2, rfl, hR, hb⟩; have HR2 := Lib.hid hR; have HR1 := Lib.hid (show Sl w2 _ _ _ _ from (by first | exact HR.out.below hb | exact Sl.below (w := w1.drew) HR.out.drew hb)); have BC := Lib.hid (show Below W.heap.size W w2 from (by first | exact BB.out.trans (hb.mono BB.out.size) | exact BB.out.drew.trans (hb.mono BB.out.size))); have e1 := (X1.out.below BC.out).c0; have e2 := (X1.out.below BC.out).c1; have e3 := (X2.out.below BC.out).c0; have e4 := (X2.out.below BC.out).c1; have e5 := (X1.out.below BC.out).fz 0; have e6 := (X1.out.below BC.out).fz 1; have e7 := (X2.out.below BC.out).fz 0; have e8 := (X2.out.below BC.out).fz 1; clear hR hb))
    all_goals (go_wp2_with fail; go_meet; exact ⟨pair_end BW.out BC.out X1.out X2.out (by omega) (Nat.le_refl _) (by omega) HR1.out HR2.out, (((X3.out.below BC.out).far (by show w.heap.size + 1 + 1 ≠ w.heap.size; omega) _).far (by show w.heap.size + 1 + 1 ≠ w.heap.size; omega) _).far (by show w.heap.size + 1 + 1 ≠ w.heap.size + 1; omega) _ |>.far (by show w.heap.size + 1 + 1 ≠ w.heap.size + 1; omega) _⟩)
  case rest =>
    clear X1 X2 X3 BW HA HB
    generalize hza : zOf na xs = za at *
    generalize hzb : zOf nb ys = zb at *
    have HZA := Lib.hid hza
    have HZB := Lib.hid hzb
    clear hza hzb
    obtain ⟨⟨A', n', c', B', m', d', hx1, hx2, hs1, hs2, hbw⟩, hx3⟩ := hcut
    have X1 := Lib.hid hx1
    have X2 := Lib.hid hx2
    have X3 := Lib.hid hx3
    have S1 := Lib.hid hs1
    have S2 := Lib.hid hs2
    have BW := Lib.hid hbw
    have c1 := hx1.c0
    have c2 := hx1.c1
    have c3 := hx2.c0
    have c4 := hx2.c1
    have l1 := hs1.fit HFA.out
    have l2 := hs2.fit HFB.out
    have t1 := hs1.top
    have t2 := hs2.top
    have q1 := hs1.cap
    have q2 := hs2.cap
    clear hx1 hx2 hx3 hs1 hs2 hbw
    cases hsg : (nOf za == nOf zb) with
    | true =>
      have HE := Lib.hid (sgn_sum hsg)
      go_upto_region 3 with fail
      generalize hW : wc = W at *
      clear hW
      have n1 : ¬ w.heap.size = w.heap.size + 1 + 1 := by omega
      have n2 : ¬ w.heap.size + 1 + 1 = w.heap.size := by omega
      go_region_held3 (fun w' => w'.cell? ⟨w.heap.size, 0, none⟩ = some (.bool (nOf za)) ∧ w'.cell? ⟨w.heap.size, 1, none⟩ = some (.slice A' n' c') ∧ w'.cell? ⟨w.heap.size + 1, 0, none⟩ = some (.bool (nOf zb)) ∧ w'.cell? ⟨w.heap.size + 1, 1, none⟩ = some (.slice B' m' d')) (go_keep)
        (first | (go_at_call 69; refine (sum_any _ _ _ _ _ _ (lOf za) (lOf zb) _ (by first | exact S1.out | exact S1.out.drew) (by first | exact S2.out | exact S2.out.drew) (lOf_ok _) (lOf_ok _) (by omega) (by omega)).mono ?_; rintro e w3 ⟨R, k, r, rfl, hR, hb⟩; have HR := Lib.hid hR; have BB := Lib.hid (show Below W.heap.size W w3 from (by first | exact hb | exact (Below.refl _ _).drew.trans (hb.mono (Nat.le_refl _)))); have d1 := (X1.out.below BB.out).c0; have d2 := (X1.out.below BB.out).c1; have d3 := (X2.out.below BB.out).c0; have d4 := (X2.out.below BB.out).c1; clear hR hb) | (go_at_call 71; refine (signed_any (nOf za) R k r ((val (lOf za) + val (lOf zb)).toNat) _ HR.out).mono ?_; rintro e w4 ⟨rfl, hR, hb⟩; rw [HE.out] at hR ⊢; have HR4 := Lib.hid hR; have BC := Lib.hid (below_up BB.out hb); have d1 := (X1.out.below BC.out).c0; have d2 := (X1.out.below BC.out).c1; have d3 := (X2.out.below BC.out).c0; have d4 := (X2.out.below BC.out).c1; clear hR hb) | (go_at_call 118; refine (limited_any (za + zb) R k r _ HR4.out).mono ?_; rintro e w5 ⟨T, kt, rt, rfl, hR, hb⟩; have HR5 := Lib.hid hR; have BD := Lib.hid (below_up BC.out hb); have d1 := (X1.out.below BD.out).c0; have d2 := (X1.out.below BD.out).c1; have d3 := (X2.out.below BD.out).c0; have d4 := (X2.out.below BD.out).c1; have d5 := (X3.out.below BD.out).c0; have d6 := (X3.out.below BD.out).c1; have d7 := (X3.out.below BD.out).fz 0; have d8 := (X3.out.below BD.out).fz 1; clear hR hb))
      all_goals
        go_wp2_with fail
        refine bodyPost_ret (v := .tuple #[.agg #[.bool (nOf (fitZ (za + zb))), .slice T kt rt], .bool (fitB (za + zb))]) (by simp [results, Tryd.results186, go_sem, *]) rfl ⟨T, kt, rt, ?_, ?_, ?_⟩
        · rw [HZA.out, HZB.out]
        · rw [HZA.out, HZB.out]; exact HR5.out.box (X3.out.below BD.out).box _ _
        · exact ((below_up BW.out BD.out).setCell (p := ⟨w.heap.size + 1 + 1, 0, none⟩) (by simp; omega) _).setCell (p := ⟨w.heap.size + 1 + 1, 1, none⟩) (by simp; omega) _
    | false =>
      have f1 := X1.out.fz 0
      have f2 := X1.out.fz 1
      have f3 := X2.out.fz 0
      have f4 := X2.out.fz 1
      by_cases hlt : za.natAbs < zb.natAbs
      · have HE := Lib.hid ((sgn_diff (a := zb) (b := za) (by rw [Bool.beq_comm]; exact hsg) (by omega)).trans (Int.add_comm zb za))
        have HL := Lib.hid (abs_len (Nat.le_of_lt hlt))
        have HC := Lib.hid (cmp_abs_lt hlt)
        have hmn : n' ≤ m' := by have := abs_len (Nat.le_of_lt hlt); rwa [S1.out.len, S2.out.len] at this
        have HV : Hid (val (lOf za) ≤ val (lOf zb)) := by show _ ≤ _; rw [val_lOf, val_lOf]; omega
        clear hlt
        go_wp2_with fail
        (refine (compare_any _ _ _ _ _ _ (lOf za) (lOf zb) _ S1.out S2.out (lOf_ok _) (lOf_ok _) (lOf_top _) (lOf_top _)).mono ?_; rintro e w1 ⟨rfl, q, rfl⟩)
        rw [HC.out]
        go_upto_region 6 with fail
        have PE := pair_end (w2 := wc.drewN q) (za := zb) (zb := za) BW.out (below_drewN (Below.refl _ _) q) X1.out X2.out (by omega) (Nat.le_refl _) (by omega) (S2.out.drewN q) (S1.out.drewN q)
        have P3 := ((((show Bx (wc.drewN q) _ _ _ from X3.out).far (p := ⟨w.heap.size, 0, none⟩) (by show w.heap.size + 1 + 1 ≠ w.heap.size; omega) (.bool (nOf zb))).far (p := ⟨w.heap.size, 1, none⟩) (by show w.heap.size + 1 + 1 ≠ w.heap.size; omega) (.slice B' m' d')).far (p := ⟨w.heap.size + 1, 0, none⟩) (by show w.heap.size + 1 + 1 ≠ w.heap.size + 1; omega) (.bool (nOf za))).far (p := ⟨w.heap.size + 1, 1, none⟩) (by show w.heap.size + 1 + 1 ≠ w.heap.size + 1; omega) (.slice A' n' c')
        clear c1 c2 c3 c4 f1 f2 f3 f4 l1 l2 t1 t2 q1 q2 hmn X1 X2 X3 S1 S2 BW
        generalize ((((wc.drewN q).setCell ⟨w.heap.size, 0, none⟩ (.bool (nOf zb))).setCell ⟨w.heap.size, 1, none⟩ (.slice B' m' d')).setCell ⟨w.heap.size + 1, 0, none⟩ (.bool (nOf za))).setCell ⟨w.heap.size + 1, 1, none⟩ (.slice A' n' c') = W at *
        obtain ⟨A', n', c', B', m', d', hx1, hx2, hs1, hs2, hbw⟩ := PE
        have X1 := Lib.hid hx1
        have X2 := Lib.hid hx2
        have X3 := Lib.hid P3
        have S1 := Lib.hid hs1
        have S2 := Lib.hid hs2
        have BW := Lib.hid hbw
        have c1 := hx1.c0
        have c2 := hx1.c1
        have c3 := hx2.c0
        have c4 := hx2.c1
        have l1 := hs1.fit HFB.out
        have l2 := hs2.fit HFA.out
        have hmn : m' ≤ n' := by have := HL.out; rwa [hs1.len, hs2.len] at this
        clear hx1 hx2 P3 hs1 hs2 hbw
        have n1 : ¬ w.heap.size = w.heap.size + 1 + 1 := by omega
        have n2 : ¬ w.heap.size + 1 + 1 = w.heap.size := by omega
        go_region_held3 (fun w' => w'.cell? ⟨w.heap.size, 0, none⟩ = some (.bool (nOf zb)) ∧ w'.cell? ⟨w.heap.size, 1, none⟩ = some (.slice A' n' c') ∧ w'.cell? ⟨w.heap.size + 1, 0, none⟩ = some (.bool (nOf za)) ∧ w'.cell? ⟨w.heap.size + 1, 1, none⟩ = some (.slice B' m' d')) (go_keep)
          (first | (go_at_call 70; refine (difference_any _ _ _ _ _ _ (lOf zb) (lOf za) _ (by first | exact S1.out | exact S1.out.drew) (by first | exact S2.out | exact S2.out.drew) (lOf_ok _) (lOf_ok _) (by omega) hmn HV.out).mono ?_; rintro e w3 ⟨R, k, r, rfl, hR, hb⟩; have HR := Lib.hid hR; have BB := Lib.hid (show Below W.heap.size W w3 from (by first | exact hb | exact (Below.refl _ _).drew.trans (hb.mono (Nat.le_refl _)))); have d1 := (X1.out.below BB.out).c0; have d2 := (X1.out.below BB.out).c1; have d3 := (X2.out.below BB.out).c0; have d4 := (X2.out.below BB.out).c1; clear hR hb) | (go_at_call 71; refine (signed_any (nOf zb) R k r ((val (lOf zb) - val (lOf za)).toNat) _ HR.out).mono ?_; rintro e w4 ⟨rfl, hR, hb⟩; rw [HE.out] at hR ⊢; have HR4 := Lib.hid hR; have BC := Lib.hid (below_up BB.out hb); have d1 := (X1.out.below BC.out).c0; have d2 := (X1.out.below BC.out).c1; have d3 := (X2.out.below BC.out).c0; have d4 := (X2.out.below BC.out).c1; clear hR hb) | (go_at_call 118; refine (limited_any (za + zb) R k r _ HR4.out).mono ?_; rintro e w5 ⟨T, kt, rt, rfl, hR, hb⟩; have HR5 := Lib.hid hR; have BD := Lib.hid (below_up BC.out hb); have d1 := (X1.out.below BD.out).c0; have d2 := (X1.out.below BD.out).c1; have d3 := (X2.out.below BD.out).c0; have d4 := (X2.out.below BD.out).c1; have d5 := (X3.out.below BD.out).c0; have d6 := (X3.out.below BD.out).c1; have d7 := (X3.out.below BD.out).fz 0; have d8 := (X3.out.below BD.out).fz 1; clear hR hb))
        all_goals
          go_wp2_with fail
          refine bodyPost_ret (v := .tuple #[.agg #[.bool (nOf (fitZ (za + zb))), .slice T kt rt], .bool (fitB (za + zb))]) (by simp [results, Tryd.results186, go_sem, *]) rfl ⟨T, kt, rt, ?_, ?_, ?_⟩
          · rw [HZA.out, HZB.out]
          · rw [HZA.out, HZB.out]; exact HR5.out.box (X3.out.below BD.out).box _ _
          · exact ((below_up BW.out BD.out).setCell (p := ⟨w.heap.size + 1 + 1, 0, none⟩) (by simp; omega) _).setCell (p := ⟨w.heap.size + 1 + 1, 1, none⟩) (by simp; omega) _

      · have HE := Lib.hid (sgn_diff (a := za) (b := zb) hsg (by omega))
        have HC := Lib.hid (cmp_abs_ge hlt)
        have hmn : m' ≤ n' := by have := abs_len (Nat.le_of_not_lt hlt); rwa [S1.out.len, S2.out.len] at this
        have HV : Hid (val (lOf zb) ≤ val (lOf za)) := by show _ ≤ _; rw [val_lOf, val_lOf]; omega
        clear hlt
        go_wp2_with fail
        (refine (compare_any _ _ _ _ _ _ (lOf za) (lOf zb) _ S1.out S2.out (lOf_ok _) (lOf_ok _) (lOf_top _) (lOf_top _)).mono ?_; rintro e w1 ⟨rfl, q, rfl⟩)
        have hcp := HC.out
        generalize cmpI (val (lOf za)) (val (lOf zb)) = v at *
        go_upto_region 6 with fail
        have X1 := Lib.hid (show Bx (wc.drewN q) _ _ _ from X1.out)
        have X2 := Lib.hid (show Bx (wc.drewN q) _ _ _ from X2.out)
        have X3 := Lib.hid (show Bx (wc.drewN q) _ _ _ from X3.out)
        have S1 := Lib.hid (S1.out.drewN q)
        have S2 := Lib.hid (S2.out.drewN q)
        have BW := Lib.hid (below_drewN BW.out q)
        have g1 := X1.out.c0
        have g2 := X1.out.c1
        have g3 := X2.out.c0
        have g4 := X2.out.c1
        clear c1 c2 c3 c4 f1 f2 f3 f4
        generalize wc.drewN q = W at *
        have n1 : ¬ w.heap.size = w.heap.size + 1 + 1 := by omega
        have n2 : ¬ w.heap.size + 1 + 1 = w.heap.size := by omega
        go_region_held3 (fun w' => w'.cell? ⟨w.heap.size, 0, none⟩ = some (.bool (nOf za)) ∧ w'.cell? ⟨w.heap.size, 1, none⟩ = some (.slice A' n' c') ∧ w'.cell? ⟨w.heap.size + 1, 0, none⟩ = some (.bool (nOf zb)) ∧ w'.cell? ⟨w.heap.size + 1, 1, none⟩ = some (.slice B' m' d')) (go_keep)
          (first | (go_at_call 70; refine (difference_any _ _ _ _ _ _ (lOf za) (lOf zb) _ (by first | exact S1.out | exact S1.out.drew) (by first | exact S2.out | exact S2.out.drew) (lOf_ok _) (lOf_ok _) (by omega) hmn HV.out).mono ?_; rintro e w3 ⟨R, k, r, rfl, hR, hb⟩; have HR := Lib.hid hR; have BB := Lib.hid (show Below W.heap.size W w3 from (by first | exact hb | exact (Below.refl _ _).drew.trans (hb.mono (Nat.le_refl _)))); have d1 := (X1.out.below BB.out).c0; have d2 := (X1.out.below BB.out).c1; have d3 := (X2.out.below BB.out).c0; have d4 := (X2.out.below BB.out).c1; clear hR hb) | (go_at_call 71; refine (signed_any (nOf za) R k r ((val (lOf za) - val (lOf zb)).toNat) _ HR.out).mono ?_; rintro e w4 ⟨rfl, hR, hb⟩; rw [HE.out] at hR ⊢; have HR4 := Lib.hid hR; have BC := Lib.hid (below_up BB.out hb); have d1 := (X1.out.below BC.out).c0; have d2 := (X1.out.below BC.out).c1; have d3 := (X2.out.below BC.out).c0; have d4 := (X2.out.below BC.out).c1; clear hR hb) | (go_at_call 118; refine (limited_any (za + zb) R k r _ HR4.out).mono ?_; rintro e w5 ⟨T, kt, rt, rfl, hR, hb⟩; have HR5 := Lib.hid hR; have BD := Lib.hid (below_up BC.out hb); have d1 := (X1.out.below BD.out).c0; have d2 := (X1.out.below BD.out).c1; have d3 := (X2.out.below BD.out).c0; have d4 := (X2.out.below BD.out).c1; have d5 := (X3.out.below BD.out).c0; have d6 := (X3.out.below BD.out).c1; have d7 := (X3.out.below BD.out).fz 0; have d8 := (X3.out.below BD.out).fz 1; clear hR hb))
        all_goals
          go_wp2_with fail
          refine bodyPost_ret (v := .tuple #[.agg #[.bool (nOf (fitZ (za + zb))), .slice T kt rt], .bool (fitB (za + zb))]) (by simp [results, Tryd.results186, go_sem, *]) rfl ⟨T, kt, rt, ?_, ?_, ?_⟩
          · rw [HZA.out, HZB.out]
          · rw [HZA.out, HZB.out]; exact HR5.out.box (X3.out.below BD.out).box _ _
          · exact ((below_up BW.out BD.out).setCell (p := ⟨w.heap.size + 1 + 1, 0, none⟩) (by simp; omega) _).setCell (p := ⟨w.heap.size + 1 + 1, 1, none⟩) (by simp; omega) _


/-- Add, where the second number is in its form. -/
theorem add_of (na : Bool) (A B : Option Addr) (n c m d : Nat) (xs : List Int) (z : Int) (w : World) (ha : Sl w A n c xs) (hb : Sl w B m d (lOf z)) (hz : fitB z = true) :
    Calls Tryd.prog 186 #[.agg #[.bool na, .slice A n c], .agg #[.bool (nOf z), .slice B m d]] w fun e w' => ∃ T k r, e = .returned (.tuple #[.agg #[.bool (nOf (fitZ (zOf na xs + z))), .slice T k r], .bool (fitB (zOf na xs + z))]) ∧ Sl w' T k r (lOf (fitZ (zOf na xs + z))) ∧ Below w.heap.size w w' := by
  have := add_big na (nOf z) A B n c m d xs (lOf z) w ha hb
  rw [zOf_lOf hz] at this
  exact this

set_option maxRecDepth 100000 in
set_option maxHeartbeats 2000000 in
theorem sub_big (na nb : Bool) (A B : Option Addr) (n c m d : Nat) (xs ys : List Int) (w : World) (ha : Sl w A n c xs) (hb : Sl w B m d ys) :
    Calls Tryd.prog 156 #[.agg #[.bool na, .slice A n c], .agg #[.bool nb, .slice B m d]] w fun e w' => ∃ T k r, e = .returned (.tuple #[.agg #[.bool (nOf (fitZ (zOf na xs + -zOf nb ys))), .slice T k r], .bool (fitB (zOf na xs + -zOf nb ys))]) ∧ Sl w' T k r (lOf (fitZ (zOf na xs + -zOf nb ys))) ∧ Below w.heap.size w w' := by
  have HA := Lib.hid ha
  have HB := Lib.hid hb
  have HFA := Lib.hid (fit_zOf na xs)
  have HFB := Lib.hid (fit_zOf nb ys)
  clear ha hb
  go_enter Tryd.func156, Tryd.ntmps156
  go_upto_region 1 with fail
  have X1 := Lib.hid (((Bx.new w (.bool na) (.slice A n c)).alloc (.cells #[.bool nb, .slice B m d] 35)).alloc (.cells #[.bool false, .slice none 0 0] 35))
  have X2 := Lib.hid ((Bx.new (w.alloc (.cells #[.bool na, .slice A n c] 35)) (.bool nb) (.slice B m d)).alloc (.cells #[.bool false, .slice none 0 0] 35))
  have X3 := Lib.hid (Bx.new ((w.alloc (.cells #[.bool na, .slice A n c] 35)).alloc (.cells #[.bool nb, .slice B m d] 35)) (.bool false) (.slice none 0 0))
  have BW : Hid (Below w.heap.size w (((w.alloc (.cells #[.bool na, .slice A n c] 35)).alloc (.cells #[.bool nb, .slice B m d] 35)).alloc (.cells #[.bool false, .slice none 0 0] 35))) := (((Below.refl _ _).alloc (Nat.le_refl _) _).alloc (by simp) _).alloc (by simp; omega) _
  rw [alloc_sz] at X2
  rw [alloc_sz, alloc_sz] at X3
  generalize ((w.alloc (.cells #[.bool na, .slice A n c] 35)).alloc (.cells #[.bool nb, .slice B m d] 35)).alloc (.cells #[.bool false, .slice none 0 0] 35) = W at *
  have HFN : Hid (fitB (-zOf nb ys) = true) := by
    show fitB _ = true
    rw [fitB_neg]; exact HFB.out
  have c1 := X1.out.c0
  have c2 := X1.out.c1
  have c3 := X2.out.c0
  have c4 := X2.out.c1
  have n1 : ¬ w.heap.size = w.heap.size + 1 + 1 := by omega
  have n2 : ¬ w.heap.size + 1 + 1 = w.heap.size := by omega
  go_region_held3 (fun w' => w'.cell? ⟨w.heap.size, 0, none⟩ = some (.bool na) ∧ w'.cell? ⟨w.heap.size, 1, none⟩ = some (.slice A n c) ∧ w'.cell? ⟨w.heap.size + 1, 0, none⟩ = some (.bool nb) ∧ w'.cell? ⟨w.heap.size + 1, 1, none⟩ = some (.slice B m d)) (go_keep)
    (first | (go_at_call 137; refine (neg_big nb B m d ys _ (by first | exact HB.out.below BW.out | exact (HB.out.below BW.out).drew)).mono ?_; rintro e w3 ⟨R, k, r, rfl, hR, hb⟩; have HR := Lib.hid hR; have BB := Lib.hid (show Below W.heap.size W w3 from (by first | exact hb | exact (Below.refl _ _).drew.trans (hb.mono (Nat.le_refl _)))); have d1 := (X1.out.below BB.out).c0; have d2 := (X1.out.below BB.out).c1; have d3 := (X2.out.below BB.out).c0; have d4 := (X2.out.below BB.out).c1; clear hR hb) | (go_at_call 186; refine (add_of na A R n c k r xs (-zOf nb ys) _ (HA.out.below (below_up BW.out BB.out)) HR.out HFN.out).mono ?_; rintro e w5 ⟨T, kt, rt, rfl, hR, hb⟩; have HR5 := Lib.hid hR; have BD := Lib.hid (below_up BB.out hb); have d1 := (X1.out.below BD.out).c0; have d2 := (X1.out.below BD.out).c1; have d3 := (X2.out.below BD.out).c0; have d4 := (X2.out.below BD.out).c1; have d5 := (X3.out.below BD.out).c0; have d6 := (X3.out.below BD.out).c1; have d7 := (X3.out.below BD.out).fz 0; have d8 := (X3.out.below BD.out).fz 1; clear hR hb))
  all_goals
    go_wp2_with fail
    refine bodyPost_ret (v := .tuple #[.agg #[.bool (nOf (fitZ (zOf na xs + -zOf nb ys))), .slice T kt rt], .bool (fitB (zOf na xs + -zOf nb ys))]) (by simp [results, Tryd.results156, go_sem, *]) rfl ⟨T, kt, rt, rfl, ?_, ?_⟩
    · exact HR5.out.box (X3.out.below BD.out).box _ _
    · exact ((below_up BW.out BD.out).setCell (p := ⟨w.heap.size + 1 + 1, 0, none⟩) (by simp; omega) _).setCell (p := ⟨w.heap.size + 1 + 1, 1, none⟩) (by simp; omega) _

end Go.Proofs.YtfenmogbellhdaaDoor
