/-
  Contracts of the program's Neg, Cmp, Add, Sub, Mul.
-/
import Derived.Test.YtfenmogbellhdaaDoorBigE
import Derived.Deep.RegionHeld3
import Derived.Deep.DrawnRows
import Derived.Deep.DeepCutAuto
namespace Go.Proofs.YtfenmogbellhdaaDoor
open Go.RowKit
attribute [local go_sem ↓] Go.wp_at_zero Go.wp_at_succ

theorem alloc_sz (w : World) (o : Obj) : (w.alloc o).heap.size = w.heap.size + 1 := by simp
/-- Block b holds a number's struct, whole. -/
def Bx (w : World) (b : Nat) (x y : Value) : Prop := w.heap[b]? = some (.cells #[x, y] 35 (0, 0))
theorem Bx.c0 {w : World} {b : Nat} {x y : Value} (h : Bx w b x y) : w.cell? ⟨b, 0, none⟩ = some x := by
  unfold Bx at h; simp [World.cell?, h]
theorem Bx.c1 {w : World} {b : Nat} {x y : Value} (h : Bx w b x y) : w.cell? ⟨b, 1, none⟩ = some y := by
  unfold Bx at h; simp [World.cell?, h]
theorem Bx.fz {w : World} {b : Nat} {x y : Value} (h : Bx w b x y) (i : Nat) : w.frozen? ⟨b, i, none⟩ = false := by
  unfold Bx at h; simp [World.frozen?, h]
theorem Bx.lt {w : World} {b : Nat} {x y : Value} (h : Bx w b x y) : b < w.heap.size := by
  rcases Nat.lt_or_ge b w.heap.size with hlt | hge
  · exact hlt
  · unfold Bx at h; rw [Array.getElem?_eq_none hge] at h; cases h
theorem Bx.new (w : World) (x y : Value) : Bx (w.alloc (.cells #[x, y] 35)) w.heap.size x y := heap_alloc_new w _
theorem Bx.below {w w' : World} {b : Nat} {x y : Value} (h : Bx w b x y) (hb : Below w.heap.size w w') : Bx w' b x y := (hb.block b h.lt).trans h
theorem Bx.belowD {w w' : World} {b : Nat} {x y : Value} (h : Bx w b x y) (hb : Below w.drew.heap.size w.drew w') : Bx w' b x y := Bx.below (w := w.drew) h hb
theorem Sl.drew {w : World} {A : Option Addr} {n c : Nat} {xs : List Int} (h : Sl w A n c xs) : Sl w.drew A n c xs := ⟨h.len, h.cap, h.top, h.cells⟩
theorem below_drew_on {B : Nat} {w w1 w2 : World} (h : Below B w w1) (k : Below w1.drew.heap.size w1.drew w2) (hB : B ≤ w1.heap.size) : Below B w w2 := h.drew.trans (k.mono hB)
theorem Bx.alloc {w : World} {b : Nat} {x y : Value} (h : Bx w b x y) (o : Obj) : Bx (w.alloc o) b x y := h.below ((Below.refl _ _).alloc (Nat.le_refl _) o)
theorem Bx.set_ {w : World} {b : Nat} {x y : Value} (h : Bx w b x y) (u v : Value) : Bx ((w.setCell ⟨b, 0, none⟩ u).setCell ⟨b, 1, none⟩ v) b u v := by
  unfold Bx at h ⊢
  simp [World.setCell, Array.getElem?_modify, h]
theorem Bx.far {w : World} {b : Nat} {x y : Value} (h : Bx w b x y) {p : Addr} (hp : b ≠ p.block) (u : Value) : Bx (w.setCell p u) b x y := (Below.heap_setCell w p u b hp).trans h
theorem Bx.box {w : World} {b : Nat} {x : Bool} {A : Option Addr} {n c : Nat} (h : Bx w b (.bool x) (.slice A n c)) : Box w b := ⟨⟨x, h.c0⟩, A, n, c, h.c1⟩

theorem nOf_true {z : Int} (h : nOf z = true) : z < 0 := of_decide_eq_true h
theorem nOf_false {z : Int} (h : nOf z = false) : 0 ≤ z := by have := of_decide_eq_false h; omega
theorem cmp_neg {a b : Int} (ha : nOf a = true) (hb : nOf b = true) : cmpI (val (lOf b)) (val (lOf a)) = cmpI a b := by
  have := nOf_true ha
  have := nOf_true hb
  rw [val_lOf, val_lOf]
  unfold cmpI
  simp only [show ((b.natAbs : Int) < (a.natAbs : Int)) ↔ a < b by omega, show ((a.natAbs : Int) < (b.natAbs : Int)) ↔ b < a by omega]
theorem cmp_pos {a b : Int} (ha : nOf a = false) (hb : nOf b = false) : cmpI (val (lOf a)) (val (lOf b)) = cmpI a b := by
  have := nOf_false ha
  have := nOf_false hb
  rw [val_lOf, val_lOf]
  unfold cmpI
  simp only [show ((b.natAbs : Int) < (a.natAbs : Int)) ↔ b < a by omega, show ((a.natAbs : Int) < (b.natAbs : Int)) ↔ a < b by omega]
theorem cmp_lt {a b : Int} (ha : nOf a = true) (hb : nOf b = false) : cmpI a b = -1 := cmpI_lt (by have := nOf_true ha; have := nOf_false hb; omega)
theorem cmp_gt {a b : Int} (ha : nOf a = false) (hb : nOf b = true) : cmpI a b = 1 := cmpI_gt (by have := nOf_false ha; have := nOf_true hb; omega)
theorem below_up {w W w1 : World} (h : Below w.heap.size w W) (k : Below W.heap.size W w1) : Below w.heap.size w w1 := h.trans (k.mono h.size)
/-- Behind 'a, b = sound(a), sound(b)': two boxes with two numbers. -/
def Pair (w : World) (b1 b2 : Nat) (za zb : Int) (wx : World) : Prop :=
  ∃ A n c B m d, Bx wx b1 (.bool (nOf za)) (.slice A n c) ∧ Bx wx b2 (.bool (nOf zb)) (.slice B m d) ∧ Sl wx A n c (lOf za) ∧ Sl wx B m d (lOf zb) ∧ Below w.heap.size w wx
theorem pair_end {w W w2 : World} {b1 b2 : Nat} {x1 x2 : Bool} {A B : Option Addr} {n c m d : Nat} {za zb : Int} {R1 R2 : Option Addr} {k1 r1 k2 r2 : Nat}
    (hW : Below w.heap.size w W) (h2 : Below W.heap.size W w2) (X1 : Bx W b1 (.bool x1) (.slice A n c)) (X2 : Bx W b2 (.bool x2) (.slice B m d)) (hne : b1 ≠ b2) (hb1 : w.heap.size ≤ b1) (hb2 : w.heap.size ≤ b2)
    (s1 : Sl w2 R1 k1 r1 (lOf za)) (s2 : Sl w2 R2 k2 r2 (lOf zb)) :
    Pair w b1 b2 za zb ((((w2.setCell ⟨b1, 0, none⟩ (.bool (nOf za))).setCell ⟨b1, 1, none⟩ (.slice R1 k1 r1)).setCell ⟨b2, 0, none⟩ (.bool (nOf zb))).setCell ⟨b2, 1, none⟩ (.slice R2 k2 r2)) := by
  have Z1 := X1.below h2
  have Z2 := X2.below h2
  have Y1 := Z1.set_ (.bool (nOf za)) (.slice R1 k1 r1)
  have Y2 := (Z2.far (p := ⟨b1, 0, none⟩) (Ne.symm hne) (.bool (nOf za))).far (p := ⟨b1, 1, none⟩) (Ne.symm hne) (.slice R1 k1 r1)
  refine ⟨R1, k1, r1, R2, k2, r2, (Y1.far hne _).far hne _, Y2.set_ _ _, (s1.box Z1.box _ _).box Y2.box _ _, (s2.box Z1.box _ _).box Y2.box _ _, ?_⟩
  exact (((((hW.trans (h2.mono hW.size)).setCell (p := ⟨b1, 0, none⟩) hb1 _).setCell (p := ⟨b1, 1, none⟩) hb1 _).setCell (p := ⟨b2, 0, none⟩) hb2 _).setCell (p := ⟨b2, 1, none⟩) hb2 _)
theorem Pair.of_drew {w wx : World} {b1 b2 : Nat} {za zb : Int} (h : Pair w b1 b2 za zb wx) : Pair w b1 b2 za zb wx.drew := by
  obtain ⟨A, n, c, B, m, d, h1, h2, h3, h4, h5⟩ := h
  exact ⟨A, n, c, B, m, d, h1, h2, h3.drew, h4.drew, h5.drew⟩

set_option maxRecDepth 100000 in
set_option maxHeartbeats 1000000 in
theorem cmp_big (na nb : Bool) (A B : Option Addr) (n c m d : Nat) (xs ys : List Int) (w : World) (ha : Sl w A n c xs) (hb : Sl w B m d ys) :
    Calls Tryd.prog 144 #[.agg #[.bool na, .slice A n c], .agg #[.bool nb, .slice B m d]] w fun e w' => e = .returned (.int .i64 (cmpI (zOf na xs) (zOf nb ys))) ∧ Below w.heap.size w w' := by
  have HA := Lib.hid ha
  have HB := Lib.hid hb
  clear ha hb
  go_enter Tryd.func144, Tryd.ntmps144
  go_upto_region 1 with fail
  have X1 := Lib.hid ((Bx.new w (.bool na) (.slice A n c)).alloc (.cells #[.bool nb, .slice B m d] 35))
  have X2 := Lib.hid (Bx.new (w.alloc (.cells #[.bool na, .slice A n c] 35)) (.bool nb) (.slice B m d))
  have BW : Hid (Below w.heap.size w ((w.alloc (.cells #[.bool na, .slice A n c] 35)).alloc (.cells #[.bool nb, .slice B m d] 35))) := ((Below.refl _ _).alloc (Nat.le_refl _) _).alloc (by simp) _
  rw [alloc_sz] at X2
  generalize (w.alloc (.cells #[.bool na, .slice A n c] 35)).alloc (.cells #[.bool nb, .slice B m d] 35) = W at *
  go_cut [] (fun wx => Pair w w.heap.size (w.heap.size + 1) (zOf na xs) (zOf nb ys) wx)
  case first =>
    have c1 := X1.out.c0
    have c2 := X1.out.c1
    have c3 := X2.out.c0
    have c4 := X2.out.c1
    go_region_with (first | (go_at_call 67; refine (sound_any na A n c xs _ (by first | exact HA.out.below BW.out | exact ((HA.out.below BW.out).drew))).mono ?_; rintro e w1 ⟨R, k, r, rfl, hR, hb⟩; have HR := Lib.hid hR; have BB := Lib.hid (show Below W.heap.size W w1 from (by first | exact hb | exact (Below.refl _ _).drew.trans (hb.mono (Nat.le_refl _)))); have d1 := (X1.out.below BB.out).c0; have d2 := (X1.out.below BB.out).c1; have d3 := (X2.out.below BB.out).c0; have d4 := (X2.out.below BB.out).c1; clear hR hb) | (go_at_call 67; refine (sound_any nb B m d ys _ (by first | exact HB.out.below (below_up BW.out BB.out) | exact ((HB.out.below (below_up BW.out BB.out)).drew))).mono ?_; rintro e w2 ⟨R2, k2, r2, rfl, hR, hb⟩; have HR2 := Lib.hid hR; have HR1 := Lib.hid (show Sl w2 _ _ _ _ from (by first | exact HR.out.below hb | exact Sl.below (w := w1.drew) HR.out.drew hb)); have BC := Lib.hid (show Below W.heap.size W w2 from (by first | exact BB.out.trans (hb.mono BB.out.size) | exact BB.out.drew.trans (hb.mono BB.out.size))); have e1 := (X1.out.below BC.out).c0; have e2 := (X1.out.below BC.out).c1; have e3 := (X2.out.below BC.out).c0; have e4 := (X2.out.below BC.out).c1; have e5 := (X1.out.below BC.out).fz 0; have e6 := (X1.out.below BC.out).fz 1; have e7 := (X2.out.below BC.out).fz 0; have e8 := (X2.out.below BC.out).fz 1; clear hR hb))
    all_goals (go_wp2_with fail; go_meet; exact pair_end BW.out BC.out X1.out X2.out (by omega) (Nat.le_refl _) (by omega) HR1.out HR2.out)
  case rest =>
    clear X1 X2 BW HA HB
    generalize hza : zOf na xs = za at *
    generalize hzb : zOf nb ys = zb at *
    have HZA := Lib.hid hza
    have HZB := Lib.hid hzb
    clear hza hzb
    obtain ⟨A', n', c', B', m', d', hx1, hx2, hs1, hs2, hbw⟩ := hcut
    have HX1 := Lib.hid hx1
    have HX2 := Lib.hid hx2
    have HS1 := Lib.hid hs1
    have HS2 := Lib.hid hs2
    have HBW := Lib.hid hbw
    have c1 := hx1.c0
    have c2 := hx1.c1
    have c3 := hx2.c0
    have c4 := hx2.c1
    clear hx1 hx2 hs1 hs2 hbw
    cases hna : nOf za with
    | true =>
      rw [hna] at c1
      cases hnb : nOf zb with
      | true =>
        rw [hnb] at c3
        have E := Lib.hid (cmp_neg hna hnb)
        clear hna hnb
        go_wp2_with fail
        (refine (compare_any _ _ _ _ _ _ (lOf zb) (lOf za) _ HS2.out HS1.out (lOf_ok _) (lOf_ok _) (lOf_top _) (lOf_top _)).mono ?_; rintro e w1 ⟨rfl, q, rfl⟩)
        go_wp2_with fail
        go_ret
        exact ⟨ret_int (by rw [HZA.out, HZB.out]; exact E.out), below_drewN HBW.out _⟩
      | false =>
        rw [hnb] at c3
        have E := Lib.hid (cmp_lt hna hnb)
        clear hna hnb
        go_wp2_with fail
        go_ret
        exact ⟨ret_int (by rw [HZA.out, HZB.out]; exact E.out.symm), HBW.out⟩
    | false =>
      rw [hna] at c1
      cases hnb : nOf zb with
      | true =>
        rw [hnb] at c3
        have E := Lib.hid (cmp_gt hna hnb)
        clear hna hnb
        go_wp2_with fail
        go_ret
        exact ⟨ret_int (by rw [HZA.out, HZB.out]; exact E.out.symm), HBW.out⟩
      | false =>
        rw [hnb] at c3
        have E := Lib.hid (cmp_pos hna hnb)
        clear hna hnb
        go_wp2_with fail
        (refine (compare_any _ _ _ _ _ _ (lOf za) (lOf zb) _ HS1.out HS2.out (lOf_ok _) (lOf_ok _) (lOf_top _) (lOf_top _)).mono ?_; rintro e w1 ⟨rfl, q, rfl⟩)
        go_wp2_with fail
        go_ret
        exact ⟨ret_int (by rw [HZA.out, HZB.out]; exact E.out), below_drewN HBW.out _⟩
end Go.Proofs.YtfenmogbellhdaaDoor
