/-
  Contracts of the program's Neg and Sub, Add.
-/
import Derived.Test.YtfenmogbellhdaaDoorBigF
namespace Go.Proofs.YtfenmogbellhdaaDoor
open Go.RowKit
attribute [local go_sem ↓] Go.wp_at_zero Go.wp_at_succ

theorem lOf_len {z : Int} (h : fitB z = true) : (lOf z).length ≤ 200 := of_decide_eq_true h
theorem Sl.fit {w : World} {A : Option Addr} {n c : Nat} {z : Int} (h : Sl w A n c (lOf z)) (hz : fitB z = true) : n ≤ 200 := by rw [← h.len]; exact lOf_len hz
theorem sgn_not (z : Int) : sgn (!nOf z) (z.natAbs : Nat) = -z := by
  unfold sgn nOf
  by_cases h : z < 0
  · simp [h]; omega
  · simp [h]; omega
theorem sgn_same (z : Int) : sgn (nOf z) (z.natAbs : Nat) = z := by
  unfold sgn nOf
  by_cases h : z < 0
  · simp [h]; omega
  · simp [h]; omega
theorem Own.drew {w : World} {g : Nat} {l : List Int} (h : Own w g l) : Own w.drew g l := h
theorem Bx.drew {w : World} {b : Nat} {x y : Value} (h : Bx w b x y) : Bx w.drew b x y := h

theorem Own.copy {w : World} {g m : Nat} {l : List Int} (h : Own w g (l ++ List.replicate (m - m) 0)) (hl : l.length = m) (hm : m ≤ 100000) : Sl w (some ⟨g, 0, none⟩) m m l := by
  rw [Nat.sub_self, List.replicate_zero, List.append_nil] at h
  exact h.all hl (Nat.le_refl _) (by omega)

set_option maxRecDepth 100000 in
set_option maxHeartbeats 1000000 in
theorem neg_big (na : Bool) (A : Option Addr) (n c : Nat) (xs : List Int) (w : World) (ha : Sl w A n c xs) :
    Calls Tryd.prog 137 #[.agg #[.bool na, .slice A n c]] w fun e w' => ∃ B m d, e = .returned (.agg #[.bool (nOf (-zOf na xs)), .slice B m d]) ∧ Sl w' B m d (lOf (-zOf na xs)) ∧ Below w.heap.size w w' := by
  have HA := Lib.hid ha
  have HF := Lib.hid (fit_zOf na xs)
  clear ha
  go_enter Tryd.func137, Tryd.ntmps137
  go_wp2_with fail
  have X1 := Lib.hid ((Bx.new w (.bool na) (.slice A n c)).alloc (.cells #[.bool false, .slice none 0 0] 35))
  have X2 := Lib.hid (Bx.new (w.alloc (.cells #[.bool na, .slice A n c] 35)) (.bool false) (.slice none 0 0))
  have BW : Hid (Below w.heap.size w ((w.alloc (.cells #[.bool na, .slice A n c] 35)).alloc (.cells #[.bool false, .slice none 0 0] 35))) := ((Below.refl _ _).alloc (Nat.le_refl _) _).alloc (by simp) _
  rw [alloc_sz] at X2
  generalize (w.alloc (.cells #[.bool na, .slice A n c] 35)).alloc (.cells #[.bool false, .slice none 0 0] 35) = W at *
  (refine (sound_any na A n c xs _ (HA.out.below BW.out)).mono ?_; rintro e w1 ⟨B, m, d, rfl, hs, hb⟩)
  have Y1 := X1.out.below hb
  have Y2 := X2.out.below hb
  have HS := Lib.hid (hs.box Y1.box (.bool (nOf (zOf na xs))) (.slice B m d))
  have BW1 := Lib.hid (((below_up BW.out hb).setCell (p := ⟨w.heap.size, 0, none⟩) (Nat.le_refl _) (.bool (nOf (zOf na xs)))).setCell (p := ⟨w.heap.size, 1, none⟩) (Nat.le_refl _) (.slice B m d))
  have Z1 := Lib.hid (Y1.set_ (.bool (nOf (zOf na xs))) (.slice B m d))
  have Z2 := Lib.hid ((Y2.far (p := ⟨w.heap.size, 0, none⟩) (by show w.heap.size + 1 ≠ w.heap.size; omega) (.bool (nOf (zOf na xs)))).far (p := ⟨w.heap.size, 1, none⟩) (by show w.heap.size + 1 ≠ w.heap.size; omega) (.slice B m d))
  have c1 := Y1.c0
  have c2 := Y1.c1
  have f1 := Y1.fz 0
  have f2 := Y1.fz 1
  have hfit := HS.out.fit HF.out
  have htop := HS.out.top
  have hcap := HS.out.cap
  clear hs hb Y1 Y2 X1 X2 BW
  go_upto_region 2 with fail
  clear c1 c2 f1 f2
  generalize (w1.setCell ⟨w.heap.size, 0, none⟩ (.bool (nOf (zOf na xs)))).setCell ⟨w.heap.size, 1, none⟩ (.slice B m d) = W2 at *
  generalize hz : zOf na xs = z at *
  have HZ := Lib.hid hz
  clear hz
  have c1 := Z1.out.c0
  have c2 := Z1.out.c1
  go_region_held3 (fun w' => w'.cell? ⟨w.heap.size, 0, none⟩ = some (.bool (nOf z)) ∧ w'.cell? ⟨w.heap.size, 1, none⟩ = some (.slice B m d)) (go_keep)
    (first | (go_at_call 80; refine (copied_any B m d m (lOf z) _ _ (by first | exact HS.out | exact HS.out.drew) (Nat.le_refl _) (by omega) rfl).mono ?_; rintro e w3 ⟨g, rfl, hg, how, hb⟩; have HO := Lib.hid how; have BB := Lib.hid (show Below W2.heap.size W2 w3 from (by first | exact hb | exact (Below.refl _ _).drew.trans (hb.mono (Nat.le_refl _)))); have d1 := (Z1.out.below BB.out).c0; have d2 := (Z1.out.below BB.out).c1; clear hg how hb) | (go_at_call 71; refine (signed_any _ (some ⟨g, 0, none⟩) m m z.natAbs _ (HO.out.copy HS.out.len (by omega))).mono ?_; rintro e w4 ⟨rfl, h1, h2⟩; have HS4 := Lib.hid h1; have BC := Lib.hid (below_up BB.out h2); have d1 := (Z1.out.below BC.out).c0; have d2 := (Z1.out.below BC.out).c1; have d3 := (Z2.out.below BC.out).c0; have d4 := (Z2.out.below BC.out).c1; have d5 := (Z2.out.below BC.out).fz 0; have d6 := (Z2.out.below BC.out).fz 1; clear h1 h2))
  go_wp2_with fail
  refine bodyPost_ret (v := .agg #[.bool (nOf (sgn (!nOf z) (z.natAbs : Nat))), .slice (some ⟨g, 0, none⟩) m m]) (by simp [results, Tryd.results137, go_sem, *]) rfl ⟨some ⟨g, 0, none⟩, m, m, ?_, ?_, ?_⟩
  · rw [HZ.out, sgn_not]
  · have := HS4.out.box (Z2.out.below BC.out).box (.bool (nOf (sgn (!nOf z) (z.natAbs : Nat)))) (.slice (some ⟨g, 0, none⟩) m m)
    rw [HZ.out, ← sgn_not]
    exact this
  · exact ((below_up BW1.out BC.out).setCell (p := ⟨w.heap.size + 1, 0, none⟩) (by simp) _).setCell (p := ⟨w.heap.size + 1, 1, none⟩) (by simp) _
end Go.Proofs.YtfenmogbellhdaaDoor
