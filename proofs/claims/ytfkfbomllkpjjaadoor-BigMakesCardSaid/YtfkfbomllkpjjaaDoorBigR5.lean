/-
  Contracts of the reference's Cmp.
-/
import Derived.Test.YtfkfbomllkpjjaaDoorBigR4
namespace Go.Proofs.YtfkfbomllkpjjaaDoor
open Go.RowKit
attribute [local go_sem ↓] Go.wp_at_zero Go.wp_at_succ

set_option maxRecDepth 100000 in
set_option maxHeartbeats 8000000 in
theorem rcmp_any (na nb : Bool) (A B : Option Addr) (n c m d : Nat) (xs ys : List Int) (w : World) (ha : Sl w A n c xs) (hb : Sl w B m d ys) :
    Calls Tryd.prog 27 #[.agg #[.bool na, .slice A n c], .agg #[.bool nb, .slice B m d]] w fun e w' => e = .returned (.int .i64 (cmpI (zOf na xs) (zOf nb ys))) ∧ Below w.heap.size w w' := by
  have HA := Lib.hid ha
  have HB := Lib.hid hb
  clear ha hb
  go_enter Tryd.func27, Tryd.ntmps27
  go_wp2_with fail
  have X1 := Lib.hid ((Bx.new w (.bool na) (.slice A n c)).alloc (.cells #[.bool nb, .slice B m d] 24))
  have X2 := Lib.hid (Bx.new (w.alloc (.cells #[.bool na, .slice A n c] 24)) (.bool nb) (.slice B m d))
  have BW : Hid (Below w.heap.size w ((w.alloc (.cells #[.bool na, .slice A n c] 24)).alloc (.cells #[.bool nb, .slice B m d] 24))) := ((Below.refl _ _).alloc (Nat.le_refl _) _).alloc (by simp) _
  rw [alloc_sz] at X2
  generalize (w.alloc (.cells #[.bool na, .slice A n c] 24)).alloc (.cells #[.bool nb, .slice B m d] 24) = W at *
  have HA := Lib.hid (HA.out.below BW.out)
  have HB := Lib.hid (HB.out.below BW.out)
  have d1 := X1.out.c0
  have d2 := X1.out.c1
  have d3 := X2.out.c0
  have d4 := X2.out.c1
  generalize hza : zOf na xs = za at *
  generalize hzb : zOf nb ys = zb at *
  have HZA := Lib.hid hza
  have HZB := Lib.hid hzb
  clear hza hzb
  go_region_held3 (fun w' => w'.cell? ⟨w.heap.size, 0, none⟩ = some (.bool na) ∧ w'.cell? ⟨w.heap.size, 1, none⟩ = some (.slice A n c) ∧ w'.cell? ⟨w.heap.size + 1, 0, none⟩ = some (.bool nb) ∧ w'.cell? ⟨w.heap.size + 1, 1, none⟩ = some (.slice B m d)) (go_keep)
    (first | (go_at_call 43; refine (rnegative_any na A n c xs _ (by first | exact HA.out | exact HA.out.drew)).mono ?_; rintro e wx ⟨rfl, hb⟩; have B1 := Lib.hid (show Below W.heap.size W wx from (by first | exact hb | exact (Below.refl _ _).drew.trans (hb.mono (Nat.le_refl _)))); have d1 := (X1.out.below B1.out).c0; have d2 := (X1.out.below B1.out).c1; have d3 := (X2.out.below B1.out).c0; have d4 := (X2.out.below B1.out).c1; clear hb) | (go_at_call 43; refine (rnegative_any nb B m d ys _ (by first | exact HB.out.below B1.out | exact (HB.out.below B1.out).drew)).mono ?_; rintro e wx ⟨rfl, hb⟩; have B2 := Lib.hid (show Below W.heap.size W wx from (by first | exact below_up B1.out hb | exact below_up (B1.out.drew) hb)); have d1 := (X1.out.below B2.out).c0; have d2 := (X1.out.below B2.out).c1; have d3 := (X2.out.below B2.out).c0; have d4 := (X2.out.below B2.out).c1; clear hb))
  clear B1
  have X1 := Lib.hid (X1.out.below B2.out)
  have HA := Lib.hid (HA.out.below B2.out)
  have X2 := Lib.hid (X2.out.below B2.out)
  have HB := Lib.hid (HB.out.below B2.out)
  have BW := Lib.hid (below_up BW.out B2.out)
  clear d1 d2 d3 d4
  have d1 := X1.out.c0
  have d2 := X1.out.c1
  have d3 := X2.out.c0
  have d4 := X2.out.c1
  clear B2
  rw [HZA.out, HZB.out]
  cases hna : nOf za
  case false =>
    cases hnb : nOf zb
    case false =>
      have EA : Hid (nOf (zOf na xs) = false) := by show _ = _; rw [HZA.out]; exact hna
      have EB : Hid (nOf (zOf nb ys) = false) := by show _ = _; rw [HZB.out]; exact hnb
      have E := Lib.hid (cmp_pos hna hnb)
      clear hna hnb
      go_wp2_with fail
      (refine (rnegative_any na A n c xs _ HA.out).mono ?_; rintro e wy ⟨rfl, hb⟩)
      rw [EA.out]
      have B3 := Lib.hid hb
      clear hb
      have X1 := Lib.hid (X1.out.below B3.out)
      have HA := Lib.hid (HA.out.below B3.out)
      have X2 := Lib.hid (X2.out.below B3.out)
      have HB := Lib.hid (HB.out.below B3.out)
      have BW := Lib.hid (below_up BW.out B3.out)
      clear d1 d2 d3 d4
      have d1 := X1.out.c0
      have d2 := X1.out.c1
      have d3 := X2.out.c0
      have d4 := X2.out.c1
      clear B3
      go_wp2_with fail
      obtain ⟨W, rfl⟩ : ∃ V : World, V = wy := ⟨_, rfl⟩
      go_region_held3 (fun w' => w'.cell? ⟨w.heap.size, 0, none⟩ = some (.bool na) ∧ w'.cell? ⟨w.heap.size, 1, none⟩ = some (.slice A n c) ∧ w'.cell? ⟨w.heap.size + 1, 0, none⟩ = some (.bool nb) ∧ w'.cell? ⟨w.heap.size + 1, 1, none⟩ = some (.slice B m d)) (go_keep)
        (first | (go_at_call 41; refine (rdigits_any na A n c xs _ (by first | exact HA.out | exact HA.out.drew)).mono ?_; rintro e wx ⟨R, Rk, Rc, rfl, hs, hb⟩; have HR := Lib.hid hs; have B4 := Lib.hid (show Below W.heap.size W wx from (by first | exact hb | exact (Below.refl _ _).drew.trans (hb.mono (Nat.le_refl _)))); have d1 := (X1.out.below B4.out).c0; have d2 := (X1.out.below B4.out).c1; have d3 := (X2.out.below B4.out).c0; have d4 := (X2.out.below B4.out).c1; clear hs hb) | (go_at_call 41; refine (rdigits_any nb B m d ys _ (by first | exact HB.out.below B4.out | exact (HB.out.below B4.out).drew)).mono ?_; rintro e wx ⟨Q, Qk, Qc, rfl, hs, hb⟩; have HQ := Lib.hid hs; have B5 := Lib.hid (show Below W.heap.size W wx from (by first | exact below_up B4.out hb | exact below_up (B4.out.drew) hb)); have d1 := (X1.out.below B5.out).c0; have d2 := (X1.out.below B5.out).c1; have d3 := (X2.out.below B5.out).c0; have d4 := (X2.out.below B5.out).c1; have B5b := Lib.hid hb; clear hs hb) | (go_at_call 42; refine (order_any R Q Rk Rc Qk Qc (lOf (zOf na xs)) (lOf (zOf nb ys)) _ (HR.out.below B5b.out) HQ.out (lOf_ok _) (lOf_ok _) (lOf_top _) (lOf_top _)).mono ?_; rintro e wz ⟨rfl, q, rfl⟩; have B6 := Lib.hid (below_drewN B5.out q); have d1 := (X1.out.below B6.out).c0; have d2 := (X1.out.below B6.out).c1; have d3 := (X2.out.below B6.out).c0; have d4 := (X2.out.below B6.out).c1))
      all_goals
        go_wp2_with fail
        go_ret
        exact ⟨ret_int (by rw [HZA.out, HZB.out]; exact E.out), below_up BW.out B6.out⟩
    case true =>
      have EA : Hid (nOf (zOf na xs) = false) := by show _ = _; rw [HZA.out]; exact hna
      have EB : Hid (nOf (zOf nb ys) = true) := by show _ = _; rw [HZB.out]; exact hnb
      have E := Lib.hid (cmp_gt hna hnb)
      clear hna hnb
      go_wp2_with fail
      (refine (rnegative_any na A n c xs _ HA.out).mono ?_; rintro e wy ⟨rfl, hb⟩)
      rw [EA.out]
      have B3 := Lib.hid hb
      clear hb
      have X1 := Lib.hid (X1.out.below B3.out)
      have HA := Lib.hid (HA.out.below B3.out)
      have X2 := Lib.hid (X2.out.below B3.out)
      have HB := Lib.hid (HB.out.below B3.out)
      have BW := Lib.hid (below_up BW.out B3.out)
      clear d1 d2 d3 d4
      have d1 := X1.out.c0
      have d2 := X1.out.c1
      have d3 := X2.out.c0
      have d4 := X2.out.c1
      clear B3
      go_wp2_with fail
      go_ret
      exact ⟨ret_int (by rw [HZA.out, HZB.out]; exact E.out.symm), BW.out⟩
  case true =>
    cases hnb : nOf zb
    case false =>
      have EA : Hid (nOf (zOf na xs) = true) := by show _ = _; rw [HZA.out]; exact hna
      have EB : Hid (nOf (zOf nb ys) = false) := by show _ = _; rw [HZB.out]; exact hnb
      have E := Lib.hid (cmp_lt hna hnb)
      clear hna hnb
      go_wp2_with fail
      (refine (rnegative_any na A n c xs _ HA.out).mono ?_; rintro e wy ⟨rfl, hb⟩)
      rw [EA.out]
      have B3 := Lib.hid hb
      clear hb
      have X1 := Lib.hid (X1.out.below B3.out)
      have HA := Lib.hid (HA.out.below B3.out)
      have X2 := Lib.hid (X2.out.below B3.out)
      have HB := Lib.hid (HB.out.below B3.out)
      have BW := Lib.hid (below_up BW.out B3.out)
      clear d1 d2 d3 d4
      have d1 := X1.out.c0
      have d2 := X1.out.c1
      have d3 := X2.out.c0
      have d4 := X2.out.c1
      clear B3
      go_wp2_with fail
      go_ret
      exact ⟨ret_int (by rw [HZA.out, HZB.out]; exact E.out.symm), BW.out⟩
    case true =>
      have EA : Hid (nOf (zOf na xs) = true) := by show _ = _; rw [HZA.out]; exact hna
      have EB : Hid (nOf (zOf nb ys) = true) := by show _ = _; rw [HZB.out]; exact hnb
      have E := Lib.hid (cmp_neg hna hnb)
      clear hna hnb
      go_wp2_with fail
      (refine (rnegative_any na A n c xs _ HA.out).mono ?_; rintro e wy ⟨rfl, hb⟩)
      rw [EA.out]
      have B3 := Lib.hid hb
      clear hb
      have X1 := Lib.hid (X1.out.below B3.out)
      have HA := Lib.hid (HA.out.below B3.out)
      have X2 := Lib.hid (X2.out.below B3.out)
      have HB := Lib.hid (HB.out.below B3.out)
      have BW := Lib.hid (below_up BW.out B3.out)
      clear d1 d2 d3 d4
      have d1 := X1.out.c0
      have d2 := X1.out.c1
      have d3 := X2.out.c0
      have d4 := X2.out.c1
      clear B3
      go_wp2_with fail
      obtain ⟨W, rfl⟩ : ∃ V : World, V = wy := ⟨_, rfl⟩
      go_region_held3 (fun w' => w'.cell? ⟨w.heap.size, 0, none⟩ = some (.bool na) ∧ w'.cell? ⟨w.heap.size, 1, none⟩ = some (.slice A n c) ∧ w'.cell? ⟨w.heap.size + 1, 0, none⟩ = some (.bool nb) ∧ w'.cell? ⟨w.heap.size + 1, 1, none⟩ = some (.slice B m d)) (go_keep)
        (first | (go_at_call 41; refine (rdigits_any nb B m d ys _ (by first | exact HB.out | exact HB.out.drew)).mono ?_; rintro e wx ⟨R, Rk, Rc, rfl, hs, hb⟩; have HR := Lib.hid hs; have B4 := Lib.hid (show Below W.heap.size W wx from (by first | exact hb | exact (Below.refl _ _).drew.trans (hb.mono (Nat.le_refl _)))); have d1 := (X1.out.below B4.out).c0; have d2 := (X1.out.below B4.out).c1; have d3 := (X2.out.below B4.out).c0; have d4 := (X2.out.below B4.out).c1; clear hs hb) | (go_at_call 41; refine (rdigits_any na A n c xs _ (by first | exact HA.out.below B4.out | exact (HA.out.below B4.out).drew)).mono ?_; rintro e wx ⟨Q, Qk, Qc, rfl, hs, hb⟩; have HQ := Lib.hid hs; have B5 := Lib.hid (show Below W.heap.size W wx from (by first | exact below_up B4.out hb | exact below_up (B4.out.drew) hb)); have d1 := (X1.out.below B5.out).c0; have d2 := (X1.out.below B5.out).c1; have d3 := (X2.out.below B5.out).c0; have d4 := (X2.out.below B5.out).c1; have B5b := Lib.hid hb; clear hs hb) | (go_at_call 42; refine (order_any R Q Rk Rc Qk Qc (lOf (zOf nb ys)) (lOf (zOf na xs)) _ (HR.out.below B5b.out) HQ.out (lOf_ok _) (lOf_ok _) (lOf_top _) (lOf_top _)).mono ?_; rintro e wz ⟨rfl, q, rfl⟩; have B6 := Lib.hid (below_drewN B5.out q); have d1 := (X1.out.below B6.out).c0; have d2 := (X1.out.below B6.out).c1; have d3 := (X2.out.below B6.out).c0; have d4 := (X2.out.below B6.out).c1))
      all_goals
        go_wp2_with fail
        go_ret
        exact ⟨ret_int (by rw [HZA.out, HZB.out]; exact E.out), below_up BW.out B6.out⟩
end Go.Proofs.YtfkfbomllkpjjaaDoor
