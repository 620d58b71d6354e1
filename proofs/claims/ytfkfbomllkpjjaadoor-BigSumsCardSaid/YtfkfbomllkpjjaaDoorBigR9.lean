/-
  Contracts of the reference's Sub.
-/
import Derived.Test.YtfkfbomllkpjjaaDoorBigR8
import Derived.Test.YtfkfbomllkpjjaaDoorBigR6
namespace Go.Proofs.YtfkfbomllkpjjaaDoor
open Go.RowKit
attribute [local go_sem ↓] Go.wp_at_zero Go.wp_at_succ

theorem radd_of (na : Bool) (A B : Option Addr) (n c m d : Nat) (xs : List Int) (z : Int) (w : World) (ha : Sl w A n c xs) (hb : Sl w B m d (lOf z)) (hz : fitB z = true) :
    Calls Tryd.prog 23 #[.agg #[.bool na, .slice A n c], .agg #[.bool (nOf z), .slice B m d]] w fun e w' => ∃ T k r, e = .returned (.tuple #[.agg #[.bool (nOf (fitZ (zOf na xs + z))), .slice T k r], .bool (fitB (zOf na xs + z))]) ∧ Sl w' T k r (lOf (fitZ (zOf na xs + z))) ∧ Below w.heap.size w w' := by
  have := radd_any na (nOf z) A B n c m d xs (lOf z) w ha hb
  rw [zOf_lOf hz] at this
  exact this
set_option maxRecDepth 100000 in
set_option maxHeartbeats 8000000 in
theorem rsub_any (na nb : Bool) (A B : Option Addr) (n c m d : Nat) (xs ys : List Int) (w : World) (ha : Sl w A n c xs) (hb : Sl w B m d ys) :
    Calls Tryd.prog 25 #[.agg #[.bool na, .slice A n c], .agg #[.bool nb, .slice B m d]] w fun e w' => ∃ T k r, e = .returned (.tuple #[.agg #[.bool (nOf (fitZ (zOf na xs + -zOf nb ys))), .slice T k r], .bool (fitB (zOf na xs + -zOf nb ys))]) ∧ Sl w' T k r (lOf (fitZ (zOf na xs + -zOf nb ys))) ∧ Below w.heap.size w w' := by
  have HA := Lib.hid ha
  have HB := Lib.hid hb
  have HFN : Hid (fitB (-zOf nb ys) = true) := by
    show fitB _ = true
    rw [fitB_neg]; exact fit_zOf nb ys
  clear ha hb
  go_enter Tryd.func25, Tryd.ntmps25
  go_wp2_with fail
  have X1 := Lib.hid (((Bx.new w (.bool na) (.slice A n c)).alloc (.cells #[.bool nb, .slice B m d] 24)).alloc (.cells #[.bool false, .slice none 0 0] 24))
  have X2 := Lib.hid ((Bx.new (w.alloc (.cells #[.bool na, .slice A n c] 24)) (.bool nb) (.slice B m d)).alloc (.cells #[.bool false, .slice none 0 0] 24))
  have X3 := Lib.hid (Bx.new ((w.alloc (.cells #[.bool na, .slice A n c] 24)).alloc (.cells #[.bool nb, .slice B m d] 24)) (.bool false) (.slice none 0 0))
  have BW : Hid (Below w.heap.size w (((w.alloc (.cells #[.bool na, .slice A n c] 24)).alloc (.cells #[.bool nb, .slice B m d] 24)).alloc (.cells #[.bool false, .slice none 0 0] 24))) := (((Below.refl _ _).alloc (Nat.le_refl _) _).alloc (by simp) _).alloc (by simp; omega) _
  rw [alloc_sz] at X2
  rw [alloc_sz, alloc_sz] at X3
  generalize ((w.alloc (.cells #[.bool na, .slice A n c] 24)).alloc (.cells #[.bool nb, .slice B m d] 24)).alloc (.cells #[.bool false, .slice none 0 0] 24) = W at *
  have HA := Lib.hid (HA.out.below BW.out)
  have HB := Lib.hid (HB.out.below BW.out)
  have d1 := X1.out.c0
  have d2 := X1.out.c1
  have d3 := X2.out.c0
  have d4 := X2.out.c1
  have n1 : ¬ w.heap.size = w.heap.size + 1 + 1 := by omega
  have n2 : ¬ w.heap.size + 1 + 1 = w.heap.size := by omega
  go_region_held3 (fun w' => w'.cell? ⟨w.heap.size, 0, none⟩ = some (.bool na) ∧ w'.cell? ⟨w.heap.size, 1, none⟩ = some (.slice A n c) ∧ w'.cell? ⟨w.heap.size + 1, 0, none⟩ = some (.bool nb) ∧ w'.cell? ⟨w.heap.size + 1, 1, none⟩ = some (.slice B m d)) (go_keep)
    (first | (go_at_call 21; refine (rneg_any nb B m d ys _ (by first | exact HB.out | exact HB.out.drew)).mono ?_; rintro e wx ⟨R, Rk, Rc, rfl, hs, hb⟩; have HR := Lib.hid hs; have B1 := Lib.hid (show Below W.heap.size W wx from (by first | exact hb | exact (Below.refl _ _).drew.trans (hb.mono (Nat.le_refl _)))); have d1 := (X1.out.below B1.out).c0; have d2 := (X1.out.below B1.out).c1; have d3 := (X2.out.below B1.out).c0; have d4 := (X2.out.below B1.out).c1; clear hs hb) | (go_at_call 23; refine (radd_of na A R n c Rk Rc xs (-zOf nb ys) _ (HA.out.below B1.out) HR.out HFN.out).mono ?_; rintro e wx ⟨T, Tk, Tc, rfl, hs, hb⟩; have HT := Lib.hid hs; have B2 := Lib.hid (show Below W.heap.size W wx from (by first | exact below_up B1.out hb | exact below_up (B1.out.drew) hb)); have d1 := (X1.out.below B2.out).c0; have d2 := (X1.out.below B2.out).c1; have d3 := (X2.out.below B2.out).c0; have d4 := (X2.out.below B2.out).c1; have d5 := (X3.out.below B2.out).c0; have d6 := (X3.out.below B2.out).c1; have d7 := (X3.out.below B2.out).fz 0; have d8 := (X3.out.below B2.out).fz 1; clear hs hb))
  all_goals
    go_wp2_with fail
    refine bodyPost_ret (v := .tuple #[.agg #[.bool (nOf (fitZ (zOf na xs + -zOf nb ys))), .slice T Tk Tc], .bool (fitB (zOf na xs + -zOf nb ys))]) (by simp [results, Tryd.results25, go_sem, *]) rfl ⟨T, Tk, Tc, rfl, ?_, ?_⟩
    · exact HT.out.box (X3.out.below B2.out).box _ _
    · exact ((below_up BW.out B2.out).setCell (p := ⟨w.heap.size + 1 + 1, 0, none⟩) (by simp; omega) _).setCell (p := ⟨w.heap.size + 1 + 1, 1, none⟩) (by simp; omega) _
end Go.Proofs.YtfkfbomllkpjjaaDoor
