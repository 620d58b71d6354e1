/-
  Contracts of the reference's Neg, Mul.
-/
import Derived.Test.YtfkfbomllkpjjaaDoorBigR5
namespace Go.Proofs.YtfkfbomllkpjjaaDoor
open Go.RowKit
attribute [local go_sem ↓] Go.wp_at_zero Go.wp_at_succ

theorem sgn_lOf (z : Int) : val (lOf z) = ((z.natAbs : Nat) : Int) := val_lOf z
theorem lOf_len_of {w : World} {A : Option Addr} {n c : Nat} {z : Int} (h : Sl w A n c (lOf z)) (hz : fitB z = true) : n ≤ 100000 := by have := h.fit hz; omega
set_option maxRecDepth 100000 in
set_option maxHeartbeats 12000000 in
theorem rneg_any (na : Bool) (A : Option Addr) (n c : Nat) (xs : List Int) (w : World) (ha : Sl w A n c xs) :
    Calls Tryd.prog 21 #[.agg #[.bool na, .slice A n c]] w fun e w' => ∃ B m d, e = .returned (.agg #[.bool (nOf (-zOf na xs)), .slice B m d]) ∧ Sl w' B m d (lOf (-zOf na xs)) ∧ Below w.heap.size w w' := by
  have HA := Lib.hid ha
  have HF := Lib.hid (fit_zOf na xs)
  have HFN : Hid (fitB (-zOf na xs) = true) := by
    show fitB _ = true
    rw [fitB_neg]; exact HF.out
  clear ha
  go_enter Tryd.func21, Tryd.ntmps21
  go_wp2_with fail
  have X1 := Lib.hid ((Bx.new w (.bool na) (.slice A n c)).alloc (.cells #[.bool false, .slice none 0 0] 24))
  have X2 := Lib.hid (Bx.new (w.alloc (.cells #[.bool na, .slice A n c] 24)) (.bool false) (.slice none 0 0))
  have BW : Hid (Below w.heap.size w ((w.alloc (.cells #[.bool na, .slice A n c] 24)).alloc (.cells #[.bool false, .slice none 0 0] 24))) := ((Below.refl _ _).alloc (Nat.le_refl _) _).alloc (by simp) _
  rw [alloc_sz] at X2
  generalize (w.alloc (.cells #[.bool na, .slice A n c] 24)).alloc (.cells #[.bool false, .slice none 0 0] 24) = W at *
  have HA := Lib.hid (HA.out.below BW.out)
  have d1 := X1.out.c0
  have d2 := X1.out.c1
  go_region_held3 (fun w' => w'.cell? ⟨w.heap.size, 0, none⟩ = some (.bool na) ∧ w'.cell? ⟨w.heap.size, 1, none⟩ = some (.slice A n c)) (go_keep)
    (first | (go_at_call 43; have XQ := XO; refine (rnegative_any na A n c xs _ (by first | exact HA.out | exact (HA.out).drew)).mono ?_; rintro e wx ⟨rfl, hb⟩; skip; have B1 := Lib.hid (show Below W.heap.size W wx from (by first | exact hb | exact (Below.refl _ _).drew.trans (hb.mono (Nat.le_refl _)))); have d1 := (X1.out.below B1.out).c0; have d2 := (X1.out.below B1.out).c1; have XO := Lib.hid (by first | exact XQ.out.below hb | exact XQ.out.drew.below hb); clear XQ; have e1 := XO.out.c0; have e2 := XO.out.c1; have e3 := XO.out.fz 0; have e4 := XO.out.fz 1; clear hb) | (go_at_call 43; have XN := Lib.hid (Bx.new W (.bool false) (.slice none 0 0)); have z1 := X2.out.lt; have n1 : ¬ w.heap.size = W.heap.size := (by omega); have n2 : ¬ W.heap.size = w.heap.size := (by omega); have n3 : ¬ w.heap.size + 1 = W.heap.size := (by omega); have n4 : ¬ W.heap.size = w.heap.size + 1 := (by omega); have no : w.heap.size ≤ W.heap.size := (by omega); clear z1; refine (rnegative_any na A n c xs _ (by first | exact (HA.out).alloc _ | exact ((HA.out).alloc _).drew | exact ((HA.out).drew).alloc _)).mono ?_; rintro e wx ⟨rfl, hb⟩; skip; have B1 := Lib.hid (show Below W.heap.size W wx from (by first | exact below_box1 hb | exact below_box1 ((Below.refl _ _).drew.trans (hb.mono (Nat.le_refl _))))); have d1 := (X1.out.below B1.out).c0; have d2 := (X1.out.below B1.out).c1; have XO := Lib.hid (by first | exact XN.out.below hb | exact XN.out.drew.below hb); have e1 := XO.out.c0; have e2 := XO.out.c1; have e3 := XO.out.fz 0; have e4 := XO.out.fz 1; clear hb) | (go_at_call 43; refine (rnegative_any na A n c xs _ (by first | exact HA.out | exact (HA.out).drew)).mono ?_; rintro e wx ⟨rfl, hb⟩; skip; have B1 := Lib.hid (show Below W.heap.size W wx from (by first | exact hb | exact (Below.refl _ _).drew.trans (hb.mono (Nat.le_refl _)))); have d1 := (X1.out.below B1.out).c0; have d2 := (X1.out.below B1.out).c1; clear hb) | (go_at_call 41; have XQ := XO; refine (rdigits_any na A n c xs _ (by first | exact HA.out.below B1.out | exact (HA.out.below B1.out).drew)).mono ?_; rintro e wx ⟨R, Rk, Rc, rfl, hs, hb⟩; have HR := Lib.hid hs; have B2 := Lib.hid (show Below W.heap.size W wx from (by first | exact below_up B1.out hb | exact below_up (B1.out.drew) hb)); have d1 := (X1.out.below B2.out).c0; have d2 := (X1.out.below B2.out).c1; have XO := Lib.hid (by first | exact XQ.out.below hb | exact XQ.out.drew.below hb); clear XQ; have e1 := XO.out.c0; have e2 := XO.out.c1; have e3 := XO.out.fz 0; have e4 := XO.out.fz 1; clear hs hb) | (go_at_call 41; have XN := Lib.hid (Bx.new wx (.bool false) (.slice none 0 0)); have z2 := B1.out.size; have z1 := X2.out.lt; have n1 : ¬ w.heap.size = wx.heap.size := (by omega); have n2 : ¬ wx.heap.size = w.heap.size := (by omega); have n3 : ¬ w.heap.size + 1 = wx.heap.size := (by omega); have n4 : ¬ wx.heap.size = w.heap.size + 1 := (by omega); have no : w.heap.size ≤ wx.heap.size := (by omega); clear z1 z2; refine (rdigits_any na A n c xs _ (by first | exact (HA.out.below B1.out).alloc _ | exact ((HA.out.below B1.out).alloc _).drew | exact ((HA.out.below B1.out).drew).alloc _)).mono ?_; rintro e wx ⟨R, Rk, Rc, rfl, hs, hb⟩; have HR := Lib.hid hs; have B2 := Lib.hid (show Below W.heap.size W wx from (by first | exact below_up (B1.out.alloc B1.out.size _) hb | exact below_up ((B1.out.alloc B1.out.size _).drew) hb)); have d1 := (X1.out.below B2.out).c0; have d2 := (X1.out.below B2.out).c1; have XO := Lib.hid (by first | exact XN.out.below hb | exact XN.out.drew.below hb); have e1 := XO.out.c0; have e2 := XO.out.c1; have e3 := XO.out.fz 0; have e4 := XO.out.fz 1; clear hs hb) | (go_at_call 41; refine (rdigits_any na A n c xs _ (by first | exact HA.out.below B1.out | exact (HA.out.below B1.out).drew)).mono ?_; rintro e wx ⟨R, Rk, Rc, rfl, hs, hb⟩; have HR := Lib.hid hs; have B2 := Lib.hid (show Below W.heap.size W wx from (by first | exact below_up B1.out hb | exact below_up (B1.out.drew) hb)); have d1 := (X1.out.below B2.out).c0; have d2 := (X1.out.below B2.out).c1; clear hs hb) | (go_at_call 47; have XQ := XO; refine (number_any _ R Rk Rc (lOf (zOf na xs)) (zOf na xs).natAbs _ (by first | exact HR.out | exact (HR.out).drew) (lOf_len_of HR.out HF.out) (lOf_ok _) (val_lOf _)).mono ?_; rintro e wx ⟨T, Tk, Tc, rfl, hs, hb⟩; rw [sgn_not, fitZ_of HFN.out] at hs; rw [sgn_not, fitZ_of HFN.out]; have HT := Lib.hid hs; have B3 := Lib.hid (show Below W.heap.size W wx from (by first | exact below_up B2.out hb | exact below_up (B2.out.drew) hb)); have d1 := (X1.out.below B3.out).c0; have d2 := (X1.out.below B3.out).c1; have XO := Lib.hid (by first | exact XQ.out.below hb | exact XQ.out.drew.below hb); clear XQ; have e1 := XO.out.c0; have e2 := XO.out.c1; have e3 := XO.out.fz 0; have e4 := XO.out.fz 1; clear hs hb) | (go_at_call 47; have XN := Lib.hid (Bx.new wx (.bool false) (.slice none 0 0)); have z2 := B2.out.size; have z1 := X2.out.lt; have n1 : ¬ w.heap.size = wx.heap.size := (by omega); have n2 : ¬ wx.heap.size = w.heap.size := (by omega); have n3 : ¬ w.heap.size + 1 = wx.heap.size := (by omega); have n4 : ¬ wx.heap.size = w.heap.size + 1 := (by omega); have no : w.heap.size ≤ wx.heap.size := (by omega); clear z1 z2; refine (number_any _ R Rk Rc (lOf (zOf na xs)) (zOf na xs).natAbs _ (by first | exact (HR.out).alloc _ | exact ((HR.out).alloc _).drew | exact ((HR.out).drew).alloc _) (lOf_len_of HR.out HF.out) (lOf_ok _) (val_lOf _)).mono ?_; rintro e wx ⟨T, Tk, Tc, rfl, hs, hb⟩; rw [sgn_not, fitZ_of HFN.out] at hs; rw [sgn_not, fitZ_of HFN.out]; have HT := Lib.hid hs; have B3 := Lib.hid (show Below W.heap.size W wx from (by first | exact below_up (B2.out.alloc B2.out.size _) hb | exact below_up ((B2.out.alloc B2.out.size _).drew) hb)); have d1 := (X1.out.below B3.out).c0; have d2 := (X1.out.below B3.out).c1; have XO := Lib.hid (by first | exact XN.out.below hb | exact XN.out.drew.below hb); have e1 := XO.out.c0; have e2 := XO.out.c1; have e3 := XO.out.fz 0; have e4 := XO.out.fz 1; clear hs hb) | (go_at_call 47; refine (number_any _ R Rk Rc (lOf (zOf na xs)) (zOf na xs).natAbs _ (by first | exact HR.out | exact (HR.out).drew) (lOf_len_of HR.out HF.out) (lOf_ok _) (val_lOf _)).mono ?_; rintro e wx ⟨T, Tk, Tc, rfl, hs, hb⟩; rw [sgn_not, fitZ_of HFN.out] at hs; rw [sgn_not, fitZ_of HFN.out]; have HT := Lib.hid hs; have B3 := Lib.hid (show Below W.heap.size W wx from (by first | exact below_up B2.out hb | exact below_up (B2.out.drew) hb)); have d1 := (X1.out.below B3.out).c0; have d2 := (X1.out.below B3.out).c1; clear hs hb))
  all_goals
    have Y2 := Lib.hid (X2.out.below B3.out)
    have d5 := Y2.out.c0
    have d6 := Y2.out.c1
    have d7 := Y2.out.fz 0
    have d8 := Y2.out.fz 1
    have z2 := B3.out.size
    have z1 := X2.out.lt
    have m3 : ¬ w.heap.size + 1 = wx.heap.size := by omega
    have m4 : ¬ wx.heap.size = w.heap.size + 1 := by omega
    have mo : w.heap.size ≤ wx.heap.size := by omega
    clear z1 z2
    have Y3 := Lib.hid (Y2.out.alloc (.cells #[.bool (nOf (-zOf na xs)), .slice T Tk Tc] 24))
    have g5 := Y3.out.c0
    have g6 := Y3.out.c1
    have g7 := Y3.out.fz 0
    have g8 := Y3.out.fz 1
    go_wp2_with fail
    refine bodyPost_ret (v := .agg #[.bool (nOf (-zOf na xs)), .slice T Tk Tc]) (by simp [results, Tryd.results21, go_sem, *]) rfl ⟨T, Tk, Tc, rfl, ?_, ?_⟩
    · first
        | exact (HT.out.alloc _).box (Y2.out.alloc _).box _ _
        | exact (HT.out.box XO.out.box _ _).box ((Y2.out.far (by exact n3) _).far (by exact n3) _).box _ _
    · first
        | exact (((below_up BW.out B3.out).alloc mo _).setCell (by simp) _).setCell (by simp) _
        | exact ((((below_up BW.out B3.out).setCell (by exact no) _).setCell (by exact no) _).setCell (by simp) _).setCell (by simp) _

end Go.Proofs.YtfkfbomllkpjjaaDoor
