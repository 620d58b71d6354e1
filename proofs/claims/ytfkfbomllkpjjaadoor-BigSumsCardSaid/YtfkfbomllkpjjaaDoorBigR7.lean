/-
  Contracts of the reference's Mul.
-/
import Derived.Test.YtfkfbomllkpjjaaDoorBigR5
import Derived.Test.YtfkfbomllkpjjaaDoorBigI
namespace Go.Proofs.YtfkfbomllkpjjaaDoor
open Go.RowKit
attribute [local go_sem ↓] Go.wp_at_zero Go.wp_at_succ

theorem prod_fit {na nb : Bool} {xs ys : List Int} {w : World} {R : Option Addr} {k r : Nat} (h : Sl w R k r (digs (val (lOf (zOf na xs)) * val (lOf (zOf nb ys))).toNat)) : k ≤ 100000 := by
  have h1 : (lOf (zOf na xs)).length ≤ 200 := lOf_len (fit_zOf na xs)
  have h2 : (lOf (zOf nb ys)).length ≤ 200 := lOf_len (fit_zOf nb ys)
  have b1 := val_bd (lOf_ok (zOf na xs))
  have b2 := val_bd (lOf_ok (zOf nb ys))
  rw [← h.len]
  have hlt : val (lOf (zOf na xs)) * val (lOf (zOf nb ys)) < pw ((lOf (zOf na xs)).length + (lOf (zOf nb ys)).length) := by
    rw [pw_add]
    exact Int.lt_of_le_of_lt (Int.mul_le_mul_of_nonneg_right (Int.le_of_lt b1.2) b2.1) (Int.mul_lt_mul_of_pos_left b2.2 (pw_pos _))
  have := digs_len_le (n := (val (lOf (zOf na xs)) * val (lOf (zOf nb ys))).toNat) (k := (lOf (zOf na xs)).length + (lOf (zOf nb ys)).length) (by have := Int.mul_nonneg b1.1 b2.1; omega)
  omega
set_option maxRecDepth 100000 in
set_option maxHeartbeats 8000000 in
theorem rmul_any (na nb : Bool) (A B : Option Addr) (n c m d : Nat) (xs ys : List Int) (w : World) (ha : Sl w A n c xs) (hb : Sl w B m d ys) :
    Calls Tryd.prog 29 #[.agg #[.bool na, .slice A n c], .agg #[.bool nb, .slice B m d]] w fun e w' => ∃ T k r, e = .returned (.tuple #[.agg #[.bool (nOf (fitZ (zOf na xs * zOf nb ys))), .slice T k r], .bool (fitB (zOf na xs * zOf nb ys))]) ∧ Sl w' T k r (lOf (fitZ (zOf na xs * zOf nb ys))) ∧ Below w.heap.size w w' := by
  have HA := Lib.hid ha
  have HB := Lib.hid hb
  clear ha hb
  go_enter Tryd.func29, Tryd.ntmps29
  go_wp2_with fail
  have X1 := Lib.hid (((Bx.new w (.bool na) (.slice A n c)).alloc (.cells #[.bool nb, .slice B m d] 24)).alloc (.cells #[.bool false, .slice none 0 0] 24))
  have X2 := Lib.hid ((Bx.new (w.alloc (.cells #[.bool na, .slice A n c] 24)) (.bool nb) (.slice B m d)).alloc (.cells #[.bool false, .slice none 0 0] 24))
  have X3 := Lib.hid (Bx.new ((w.alloc (.cells #[.bool na, .slice A n c] 24)).alloc (.cells #[.bool nb, .slice B m d] 24)) (.bool false) (.slice none 0 0))
  have BW : Hid (Below w.heap.size w (((w.alloc (.cells #[.bool na, .slice A n c] 24)).alloc (.cells #[.bool nb, .slice B m d] 24)).alloc (.cells #[.bool false, .slice none 0 0] 24))) := (((Below.refl _ _).alloc (Nat.le_refl _) _).alloc (by simp) _).alloc (by simp; omega) _
  rw [alloc_sz] at X2
  rw [alloc_sz, alloc_sz] at X3
  generalize ((w.alloc (.cells #[.bool na, .slice A n c] 24)).alloc (.cells #[.bool nb, .slice B m d] 24)).alloc (.cells #[.bool false, .slice none 0 0] 24) = W at *
  have HA := Lib.hid (HA.out.below BW.out)
  have HB := Lib.hid (HB.out.below BW.out)
  have d1 := X1.out.c0
  have d2 := X1.out.c1
  have d3 := X2.out.c0
  have d4 := X2.out.c1
  have n1 : ¬ w.heap.size = w.heap.size + 1 + 1 := by omega
  have n2 : ¬ w.heap.size + 1 + 1 = w.heap.size := by omega
  go_region_held3 (fun w' => w'.cell? ⟨w.heap.size, 0, none⟩ = some (.bool na) ∧ w'.cell? ⟨w.heap.size, 1, none⟩ = some (.slice A n c) ∧ w'.cell? ⟨w.heap.size + 1, 0, none⟩ = some (.bool nb) ∧ w'.cell? ⟨w.heap.size + 1, 1, none⟩ = some (.slice B m d)) (go_keep)
    (first | (go_at_call 43; refine (rnegative_any na A n c xs _ (by first | exact HA.out | exact HA.out.drew)).mono ?_; rintro e wx ⟨rfl, hb⟩; have B1 := Lib.hid (show Below W.heap.size W wx from (by first | exact hb | exact (Below.refl _ _).drew.trans (hb.mono (Nat.le_refl _)))); have d1 := (X1.out.below B1.out).c0; have d2 := (X1.out.below B1.out).c1; have d3 := (X2.out.below B1.out).c0; have d4 := (X2.out.below B1.out).c1; clear hb) | (go_at_call 43; refine (rnegative_any nb B m d ys _ (by first | exact HB.out.below B1.out | exact (HB.out.below B1.out).drew)).mono ?_; rintro e wx ⟨rfl, hb⟩; have B2 := Lib.hid (show Below W.heap.size W wx from (by first | exact below_up B1.out hb | exact below_up (B1.out.drew) hb)); have d1 := (X1.out.below B2.out).c0; have d2 := (X1.out.below B2.out).c1; have d3 := (X2.out.below B2.out).c0; have d4 := (X2.out.below B2.out).c1; clear hb) | (go_at_call 41; refine (rdigits_any na A n c xs _ (by first | exact HA.out.below B2.out | exact (HA.out.below B2.out).drew)).mono ?_; rintro e wx ⟨R, Rk, Rc, rfl, hs, hb⟩; have HR := Lib.hid hs; have B3 := Lib.hid (show Below W.heap.size W wx from (by first | exact below_up B2.out hb | exact below_up (B2.out.drew) hb)); have d1 := (X1.out.below B3.out).c0; have d2 := (X1.out.below B3.out).c1; have d3 := (X2.out.below B3.out).c0; have d4 := (X2.out.below B3.out).c1; clear hs hb) | (go_at_call 41; refine (rdigits_any nb B m d ys _ (by first | exact HB.out.below B3.out | exact (HB.out.below B3.out).drew)).mono ?_; rintro e wx ⟨Q, Qk, Qc, rfl, hs, hb⟩; have HQ := Lib.hid hs; have B4 := Lib.hid (show Below W.heap.size W wx from (by first | exact below_up B3.out hb | exact below_up (B3.out.drew) hb)); have d1 := (X1.out.below B4.out).c0; have d2 := (X1.out.below B4.out).c1; have d3 := (X2.out.below B4.out).c0; have d4 := (X2.out.below B4.out).c1; have B4b := Lib.hid hb; clear hs hb) | (go_at_call 55; refine (times_any R Q Rk Rc Qk Qc (lOf (zOf na xs)) (lOf (zOf nb ys)) _ (HR.out.below B4b.out) HQ.out (lOf_ok _) (lOf_ok _) (by have := HR.out.fit (fit_zOf na xs); omega) (by have := HQ.out.fit (fit_zOf nb ys); omega)).mono ?_; rintro e wx ⟨P, Pk, Pc, rfl, hs, hb⟩; have HP := Lib.hid hs; have B5 := Lib.hid (show Below W.heap.size W wx from (by first | exact below_up B4.out hb | exact below_up (B4.out.drew) hb)); have d1 := (X1.out.below B5.out).c0; have d2 := (X1.out.below B5.out).c1; have d3 := (X2.out.below B5.out).c0; have d4 := (X2.out.below B5.out).c1; clear hs hb) | (go_at_call 47; have NC := fun HW => number_any (nOf (zOf na xs) != nOf (zOf nb ys)) P Pk Pc (digs (val (lOf (zOf na xs)) * val (lOf (zOf nb ys))).toNat) (val (lOf (zOf na xs)) * val (lOf (zOf nb ys))).toNat wx HW (prod_fit HP.out) (digs_ok _) (val_digs _); refine (NC (by first | exact HP.out | exact HP.out.drew)).mono ?_; clear NC; rintro e wx ⟨T, Tk, Tc, rfl, hs, hb⟩; rw [sgn_prod] at hs; rw [sgn_prod]; have HT := Lib.hid hs; have B6 := Lib.hid (show Below W.heap.size W wx from (by first | exact below_up B5.out hb | exact below_up (B5.out.drew) hb)); have d1 := (X1.out.below B6.out).c0; have d2 := (X1.out.below B6.out).c1; have d3 := (X2.out.below B6.out).c0; have d4 := (X2.out.below B6.out).c1; have d5 := (X3.out.below B6.out).c0; have d6 := (X3.out.below B6.out).c1; have d7 := (X3.out.below B6.out).fz 0; have d8 := (X3.out.below B6.out).fz 1; clear hs hb))
  all_goals
    go_wp2_with fail
    refine bodyPost_ret (v := .tuple #[.agg #[.bool (nOf (fitZ (zOf na xs * zOf nb ys))), .slice T Tk Tc], .bool (fitB (zOf na xs * zOf nb ys))]) (by simp [results, Tryd.results29, go_sem, *]) rfl ⟨T, Tk, Tc, rfl, ?_, ?_⟩
    · exact HT.out.box (X3.out.below B6.out).box _ _
    · exact ((below_up BW.out B6.out).setCell (p := ⟨w.heap.size + 1 + 1, 0, none⟩) (by simp; omega) _).setCell (p := ⟨w.heap.size + 1 + 1, 1, none⟩) (by simp; omega) _
end Go.Proofs.YtfkfbomllkpjjaaDoor
