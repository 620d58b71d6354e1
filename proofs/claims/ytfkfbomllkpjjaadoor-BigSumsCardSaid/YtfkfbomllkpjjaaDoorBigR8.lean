/-
  Contracts of the reference's Add.
-/
import Derived.Test.YtfkfbomllkpjjaaDoorBigR7
import Derived.Test.YtfkfbomllkpjjaaDoorBigH
namespace Go.Proofs.YtfkfbomllkpjjaaDoor
open Go.RowKit
attribute [local go_sem ↓] Go.wp_at_zero Go.wp_at_succ

theorem digs_fit {w : World} {R : Option Addr} {k r n : Nat} (h : Sl w R k r (digs n)) (hn : (n : Int) < pw 400) : k ≤ 100000 := by
  rw [← h.len]
  have := digs_len_le hn
  omega
theorem sum_fit (na nb : Bool) (xs ys : List Int) : (((val (lOf (zOf na xs)) + val (lOf (zOf nb ys))).toNat : Nat) : Int) < pw 400 := by
  have b1 := val_bd (lOf_ok (zOf na xs))
  have b2 := val_bd (lOf_ok (zOf nb ys))
  have p1 := pw_mono (lOf_len (fit_zOf na xs))
  have p2 := pw_mono (lOf_len (fit_zOf nb ys))
  have p3 := pw_mono (show 201 ≤ 400 by omega)
  have p4 : pw 201 = 10000 * pw 200 := pw_succ 200
  have p5 := pw_pos 200
  omega
theorem dif_fit (na nb : Bool) (xs ys : List Int) : (((val (lOf (zOf na xs)) - val (lOf (zOf nb ys))).toNat : Nat) : Int) < pw 400 := by
  have b1 := val_bd (lOf_ok (zOf na xs))
  have b2 := val_bd (lOf_ok (zOf nb ys))
  have p1 := pw_mono (lOf_len (fit_zOf na xs))
  have p3 := pw_mono (show 200 ≤ 400 by omega)
  have p5 := pw_pos 400
  have : (val (lOf (zOf na xs)) - val (lOf (zOf nb ys))).toNat ≤ (val (lOf (zOf na xs))).toNat := by omega
  have h6 : ((val (lOf (zOf na xs))).toNat : Int) = val (lOf (zOf na xs)) := Int.toNat_of_nonneg b1.1
  have h7 := b1.2
  omega
set_option maxRecDepth 100000 in
set_option maxHeartbeats 12000000 in
theorem radd_any (na nb : Bool) (A B : Option Addr) (n c m d : Nat) (xs ys : List Int) (w : World) (ha : Sl w A n c xs) (hb : Sl w B m d ys) :
    Calls Tryd.prog 23 #[.agg #[.bool na, .slice A n c], .agg #[.bool nb, .slice B m d]] w fun e w' => ∃ T k r, e = .returned (.tuple #[.agg #[.bool (nOf (fitZ (zOf na xs + zOf nb ys))), .slice T k r], .bool (fitB (zOf na xs + zOf nb ys))]) ∧ Sl w' T k r (lOf (fitZ (zOf na xs + zOf nb ys))) ∧ Below w.heap.size w w' := by
  have HA := Lib.hid ha
  have HB := Lib.hid hb
  clear ha hb
  go_enter Tryd.func23, Tryd.ntmps23
  go_wp2_with fail
  have X1 := Lib.hid (((Bx.new w (.bool na) (.slice A n c)).alloc (.cells #[.bool nb, .slice B m d] 24)).alloc (.cells #[.bool false, .slice none 0 0] 24))
  have X2 := Lib.hid ((Bx.new (w.alloc (.cells #[.bool na, .slice A n c] 24)) (.bool nb) (.slice B m d)).alloc (.cells #[.bool false, .slice none 0 0] 24))
  have X3 := Lib.hid (Bx.new ((w.alloc (.cells #[.bool na, .slice A n c] 24)).alloc (.cells #[.bool nb, .slice B m d] 24)) (.bool false) (.slice none 0 0))
  have BW : Hid (Below w.heap.size w (((w.alloc (.cells #[.bool na, .slice A n c] 24)).alloc (.cells #[.bool nb, .slice B m d] 24)).alloc (.cells #[.bool false, .slice none 0 0] 24))) := (((Below.refl _ _).alloc (Nat.le_refl _) _).alloc (by simp) _).alloc (by simp; omega) _
  rw [alloc_sz] at X2
  rw [alloc_sz, alloc_sz] at X3
  generalize ((w.alloc (.cells #[.bool na, .slice A n c] 24)).alloc (.cells #[.bool nb, .slice B m d] 24)).alloc (.cells #[.bool false, .slice none 0 0] 24) = W at *
  have HA := Lib.hid (HA.out.below BW.out)
  have HB := Lib.hid (HB.out.below BW.out)
  have d1 := X1.out.c0
  have d2 := X1.out.c1
  have d3 := X2.out.c0
  have d4 := X2.out.c1
  have n1 : ¬ w.heap.size = w.heap.size + 1 + 1 := by omega
  have n2 : ¬ w.heap.size + 1 + 1 = w.heap.size := by omega
  go_region_held3 (fun w' => w'.cell? ⟨w.heap.size, 0, none⟩ = some (.bool na) ∧ w'.cell? ⟨w.heap.size, 1, none⟩ = some (.slice A n c) ∧ w'.cell? ⟨w.heap.size + 1, 0, none⟩ = some (.bool nb) ∧ w'.cell? ⟨w.heap.size + 1, 1, none⟩ = some (.slice B m d)) (go_keep)
    (first | (go_at_call 41; refine (rdigits_any na A n c xs _ (by first | exact HA.out | exact HA.out.drew)).mono ?_; rintro e wx ⟨R, Rk, Rc, rfl, hs, hb⟩; have HR := Lib.hid hs; have B1 := Lib.hid (show Below W.heap.size W wx from (by first | exact hb | exact (Below.refl _ _).drew.trans (hb.mono (Nat.le_refl _)))); have d1 := (X1.out.below B1.out).c0; have d2 := (X1.out.below B1.out).c1; have d3 := (X2.out.below B1.out).c0; have d4 := (X2.out.below B1.out).c1; clear hs hb) | (go_at_call 41; refine (rdigits_any nb B m d ys _ (by first | exact HB.out.below B1.out | exact (HB.out.below B1.out).drew)).mono ?_; rintro e wx ⟨Q, Qk, Qc, rfl, hs, hb⟩; have HQ := Lib.hid hs; have B2 := Lib.hid (show Below W.heap.size W wx from (by first | exact below_up B1.out hb | exact below_up (B1.out.drew) hb)); have d1 := (X1.out.below B2.out).c0; have d2 := (X1.out.below B2.out).c1; have d3 := (X2.out.below B2.out).c0; have d4 := (X2.out.below B2.out).c1; have B2b := Lib.hid hb; clear hs hb))
  have HR := Lib.hid (HR.out.below B2b.out)
  clear B2b B1
  have X1 := Lib.hid (X1.out.below B2.out)
  have HA := Lib.hid (HA.out.below B2.out)
  have X2 := Lib.hid (X2.out.below B2.out)
  have HB := Lib.hid (HB.out.below B2.out)
  have BW := Lib.hid (below_up BW.out B2.out)
  clear d1 d2 d3 d4
  have d1 := X1.out.c0
  have d2 := X1.out.c1
  have d3 := X2.out.c0
  have d4 := X2.out.c1
  have X3 := Lib.hid (X3.out.below B2.out)
  clear B2
  obtain ⟨W, hW⟩ : ∃ V : World, V = wx := ⟨_, rfl⟩
  subst hW
  go_wp2_with fail
  go_region_held3 (fun w' => w'.cell? ⟨w.heap.size, 0, none⟩ = some (.bool na) ∧ w'.cell? ⟨w.heap.size, 1, none⟩ = some (.slice A n c) ∧ w'.cell? ⟨w.heap.size + 1, 0, none⟩ = some (.bool nb) ∧ w'.cell? ⟨w.heap.size + 1, 1, none⟩ = some (.slice B m d)) (go_keep)
    (first | (go_at_call 43; refine (rnegative_any na A n c xs _ (by first | exact HA.out | exact HA.out.drew)).mono ?_; rintro e wx ⟨rfl, hb⟩; have B1 := Lib.hid (show Below W.heap.size W wx from (by first | exact hb | exact (Below.refl _ _).drew.trans (hb.mono (Nat.le_refl _)))); have d1 := (X1.out.below B1.out).c0; have d2 := (X1.out.below B1.out).c1; have d3 := (X2.out.below B1.out).c0; have d4 := (X2.out.below B1.out).c1; clear hb) | (go_at_call 43; refine (rnegative_any nb B m d ys _ (by first | exact HB.out.below B1.out | exact (HB.out.below B1.out).drew)).mono ?_; rintro e wx ⟨rfl, hb⟩; have B2 := Lib.hid (show Below W.heap.size W wx from (by first | exact below_up B1.out hb | exact below_up (B1.out.drew) hb)); have d1 := (X1.out.below B2.out).c0; have d2 := (X1.out.below B2.out).c1; have d3 := (X2.out.below B2.out).c0; have d4 := (X2.out.below B2.out).c1; clear hb))
  clear B1
  have HR := Lib.hid (HR.out.below B2.out)
  have HQ := Lib.hid (HQ.out.below B2.out)
  have X1 := Lib.hid (X1.out.below B2.out)
  have HA := Lib.hid (HA.out.below B2.out)
  have X2 := Lib.hid (X2.out.below B2.out)
  have HB := Lib.hid (HB.out.below B2.out)
  have BW := Lib.hid (below_up BW.out B2.out)
  clear d1 d2 d3 d4
  have d1 := X1.out.c0
  have d2 := X1.out.c1
  have d3 := X2.out.c0
  have d4 := X2.out.c1
  have X3 := Lib.hid (X3.out.below B2.out)
  clear B2
  obtain ⟨W, hW⟩ : ∃ V : World, V = wx := ⟨_, rfl⟩
  subst hW
  cases hsg : (nOf (zOf na xs) == nOf (zOf nb ys)) with
  | true =>
    have HE := Lib.hid (sgn_sum hsg)
    clear hsg
    go_wp2_with fail
    (refine (rnegative_any na A n c xs _ HA.out).mono ?_; rintro e wx ⟨rfl, hb⟩)
    have B1 := Lib.hid (show Below W.heap.size W wx from hb)
    clear hb d1 d2 d3 d4
    go_wp2_with fail
    (refine (plus_any R Q Rk Rc Qk Qc (lOf (zOf na xs)) (lOf (zOf nb ys)) _ (HR.out.below B1.out) (HQ.out.below B1.out) (lOf_ok _) (lOf_ok _) (by have := HR.out.fit (fit_zOf na xs); omega) (by have := HQ.out.fit (fit_zOf nb ys); omega)).mono ?_; rintro e wx ⟨P, Pk, Pc, rfl, hs, hb⟩)
    have HP := Lib.hid hs
    have B2 := Lib.hid (below_up B1.out hb)
    clear hs hb
    go_wp2_with fail
    have NC := fun HW => number_any (nOf (zOf na xs)) P Pk Pc (digs (val (lOf (zOf na xs)) + val (lOf (zOf nb ys))).toNat) (val (lOf (zOf na xs)) + val (lOf (zOf nb ys))).toNat wx HW (digs_fit HP.out (sum_fit na nb xs ys)) (digs_ok _) (val_digs _)
    (refine (NC HP.out).mono ?_; clear NC; rintro e wx ⟨T, Tk, Tc, rfl, hs, hb⟩)
    rw [HE.out] at hs
    rw [HE.out]
    have HT := Lib.hid hs
    have B3 := Lib.hid (below_up B2.out hb)
    clear hs hb
    have d5 := (X3.out.below B3.out).c0
    have d6 := (X3.out.below B3.out).c1
    have d7 := (X3.out.below B3.out).fz 0
    have d8 := (X3.out.below B3.out).fz 1
    all_goals
      go_wp2_with fail
      refine bodyPost_ret (v := .tuple #[.agg #[.bool (nOf (fitZ (zOf na xs + zOf nb ys))), .slice T Tk Tc], .bool (fitB (zOf na xs + zOf nb ys))]) (by simp [results, Tryd.results23, go_sem, *]) rfl ⟨T, Tk, Tc, rfl, ?_, ?_⟩
      · exact HT.out.box (X3.out.below B3.out).box _ _
      · exact ((below_up BW.out B3.out).setCell (p := ⟨w.heap.size + 1 + 1, 0, none⟩) (by simp; omega) _).setCell (p := ⟨w.heap.size + 1 + 1, 1, none⟩) (by simp; omega) _
  | false =>
    by_cases hlt : (zOf na xs).natAbs < (zOf nb ys).natAbs
    · have HE : Hid (sgn (nOf (zOf nb ys)) ((val (lOf (zOf nb ys)) - val (lOf (zOf na xs))).toNat : Nat) = zOf na xs + zOf nb ys) := by
        have := sgn_diff (a := zOf nb ys) (b := zOf na xs) (by rw [← hsg]; cases nOf (zOf na xs) <;> cases nOf (zOf nb ys) <;> rfl) (by omega)
        rw [Int.add_comm (zOf na xs)]; exact this
      have HC := Lib.hid (cmp_abs_lt hlt)
      have hmn : Rk ≤ Qk := by have := abs_len (Nat.le_of_lt hlt); rwa [HR.out.len, HQ.out.len] at this
      have HV : Hid (val (lOf (zOf na xs)) ≤ val (lOf (zOf nb ys))) := by show _ ≤ _; rw [val_lOf, val_lOf]; omega
      clear hlt hsg
      go_wp2_with fail
      (refine (order_any R Q Rk Rc Qk Qc (lOf (zOf na xs)) (lOf (zOf nb ys)) _ HR.out HQ.out (lOf_ok _) (lOf_ok _) (lOf_top _) (lOf_top _)).mono ?_; rintro e w1 ⟨rfl, q, rfl⟩)
      rw [HC.out]
      have X1 := Lib.hid (show Bx (W.drewN q) _ _ _ from X1.out)
      have X2 := Lib.hid (show Bx (W.drewN q) _ _ _ from X2.out)
      have X3 := Lib.hid (show Bx (W.drewN q) _ _ _ from X3.out)
      have HR := Lib.hid (HR.out.drewN q)
      have HQ := Lib.hid (HQ.out.drewN q)
      have HA := Lib.hid (HA.out.drewN q)
      have HB := Lib.hid (HB.out.drewN q)
      have BW := Lib.hid (below_drewN BW.out q)
      clear d1 d2 d3 d4
      generalize W.drewN q = W at *
      have d1 := X1.out.c0
      have d2 := X1.out.c1
      have d3 := X2.out.c0
      have d4 := X2.out.c1
      go_wp2_with fail
      (refine (rnegative_any nb B m d ys _ HB.out).mono ?_; rintro e wx ⟨rfl, hb⟩)
      have B1 := Lib.hid (show Below W.heap.size W wx from hb)
      clear hb d1 d2 d3 d4
      go_wp2_with fail
      (refine (minus_any Q R Qk Qc Rk Rc (lOf (zOf nb ys)) (lOf (zOf na xs)) _ (HQ.out.below B1.out) (HR.out.below B1.out) (lOf_ok _) (lOf_ok _) (by have := HQ.out.fit (fit_zOf nb ys); omega) hmn HV.out).mono ?_; rintro e wx ⟨P, Pk, Pc, rfl, hs, hb⟩)
      have HP := Lib.hid hs
      have B2 := Lib.hid (below_up B1.out hb)
      clear hs hb
      go_wp2_with fail
      have NC := fun HW => number_any (nOf (zOf nb ys)) P Pk Pc (digs (val (lOf (zOf nb ys)) - val (lOf (zOf na xs))).toNat) (val (lOf (zOf nb ys)) - val (lOf (zOf na xs))).toNat wx HW (digs_fit HP.out (dif_fit nb na ys xs)) (digs_ok _) (val_digs _)
      (refine (NC HP.out).mono ?_; clear NC; rintro e wx ⟨T, Tk, Tc, rfl, hs, hb⟩)
      rw [HE.out] at hs
      rw [HE.out]
      have HT := Lib.hid hs
      have B3 := Lib.hid (below_up B2.out hb)
      clear hs hb
      have d5 := (X3.out.below B3.out).c0
      have d6 := (X3.out.below B3.out).c1
      have d7 := (X3.out.below B3.out).fz 0
      have d8 := (X3.out.below B3.out).fz 1
      all_goals
        go_wp2_with fail
        refine bodyPost_ret (v := .tuple #[.agg #[.bool (nOf (fitZ (zOf na xs + zOf nb ys))), .slice T Tk Tc], .bool (fitB (zOf na xs + zOf nb ys))]) (by simp [results, Tryd.results23, go_sem, *]) rfl ⟨T, Tk, Tc, rfl, ?_, ?_⟩
        · exact HT.out.box (X3.out.below B3.out).box _ _
        · exact ((below_up BW.out B3.out).setCell (p := ⟨w.heap.size + 1 + 1, 0, none⟩) (by simp; omega) _).setCell (p := ⟨w.heap.size + 1 + 1, 1, none⟩) (by simp; omega) _
    · have HE := Lib.hid (sgn_diff (a := zOf na xs) (b := zOf nb ys) hsg (by omega))
      have HC := Lib.hid (cmp_abs_ge hlt)
      have hmn : Qk ≤ Rk := by have := abs_len (Nat.le_of_not_lt hlt); rwa [HR.out.len, HQ.out.len] at this
      have HV : Hid (val (lOf (zOf nb ys)) ≤ val (lOf (zOf na xs))) := by show _ ≤ _; rw [val_lOf, val_lOf]; omega
      clear hlt hsg
      go_wp2_with fail
      (refine (order_any R Q Rk Rc Qk Qc (lOf (zOf na xs)) (lOf (zOf nb ys)) _ HR.out HQ.out (lOf_ok _) (lOf_ok _) (lOf_top _) (lOf_top _)).mono ?_; rintro e w1 ⟨rfl, q, rfl⟩)
      have hcp := HC.out
      generalize cmpI (val (lOf (zOf na xs))) (val (lOf (zOf nb ys))) = v at *
      have X1 := Lib.hid (show Bx (W.drewN q) _ _ _ from X1.out)
      have X2 := Lib.hid (show Bx (W.drewN q) _ _ _ from X2.out)
      have X3 := Lib.hid (show Bx (W.drewN q) _ _ _ from X3.out)
      have HR := Lib.hid (HR.out.drewN q)
      have HQ := Lib.hid (HQ.out.drewN q)
      have HA := Lib.hid (HA.out.drewN q)
      have HB := Lib.hid (HB.out.drewN q)
      have BW := Lib.hid (below_drewN BW.out q)
      clear d1 d2 d3 d4
      generalize W.drewN q = W at *
      have d1 := X1.out.c0
      have d2 := X1.out.c1
      have d3 := X2.out.c0
      have d4 := X2.out.c1
      go_wp2_with fail
      (refine (rnegative_any na A n c xs _ HA.out).mono ?_; rintro e wx ⟨rfl, hb⟩)
      have B1 := Lib.hid (show Below W.heap.size W wx from hb)
      clear hb d1 d2 d3 d4
      go_wp2_with fail
      (refine (minus_any R Q Rk Rc Qk Qc (lOf (zOf na xs)) (lOf (zOf nb ys)) _ (HR.out.below B1.out) (HQ.out.below B1.out) (lOf_ok _) (lOf_ok _) (by have := HR.out.fit (fit_zOf na xs); omega) hmn HV.out).mono ?_; rintro e wx ⟨P, Pk, Pc, rfl, hs, hb⟩)
      have HP := Lib.hid hs
      have B2 := Lib.hid (below_up B1.out hb)
      clear hs hb
      go_wp2_with fail
      have NC := fun HW => number_any (nOf (zOf na xs)) P Pk Pc (digs (val (lOf (zOf na xs)) - val (lOf (zOf nb ys))).toNat) (val (lOf (zOf na xs)) - val (lOf (zOf nb ys))).toNat wx HW (digs_fit HP.out (dif_fit na nb xs ys)) (digs_ok _) (val_digs _)
      (refine (NC HP.out).mono ?_; clear NC; rintro e wx ⟨T, Tk, Tc, rfl, hs, hb⟩)
      rw [HE.out] at hs
      rw [HE.out]
      have HT := Lib.hid hs
      have B3 := Lib.hid (below_up B2.out hb)
      clear hs hb
      have d5 := (X3.out.below B3.out).c0
      have d6 := (X3.out.below B3.out).c1
      have d7 := (X3.out.below B3.out).fz 0
      have d8 := (X3.out.below B3.out).fz 1
      all_goals
        go_wp2_with fail
        refine bodyPost_ret (v := .tuple #[.agg #[.bool (nOf (fitZ (zOf na xs + zOf nb ys))), .slice T Tk Tc], .bool (fitB (zOf na xs + zOf nb ys))]) (by simp [results, Tryd.results23, go_sem, *]) rfl ⟨T, Tk, Tc, rfl, ?_, ?_⟩
        · exact HT.out.box (X3.out.below B3.out).box _ _
        · exact ((below_up BW.out B3.out).setCell (p := ⟨w.heap.size + 1 + 1, 0, none⟩) (by simp; omega) _).setCell (p := ⟨w.heap.size + 1 + 1, 1, none⟩) (by simp; omega) _
end Go.Proofs.YtfkfbomllkpjjaaDoor
