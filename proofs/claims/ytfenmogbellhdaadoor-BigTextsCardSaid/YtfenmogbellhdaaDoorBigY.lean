/-
  The examples of the chapter hold: the statements' common function returns true.
-/
import Derived.Test.YtfenmogbellhdaaDoorBigX
import Derived.Test.YtfenmogbellhdaaDoorBigV
import Derived.Test.YtfenmogbellhdaaDoorBigH
import Derived.Test.YtfenmogbellhdaaDoorBigI
import Derived.Test.YtfenmogbellhdaaDoorBigL
import Derived.Test.YtfenmogbellhdaaDoorBigM
namespace Go.Proofs.YtfenmogbellhdaaDoor
open Go.RowKit

theorem fit_small {z : Int} (h1 : -10000000000000000 < z) (h2 : z < 10000000000000000) : fitB z = true := by
  rw [fitB_iff]
  have := pw_mono (show 4 ≤ 200 by omega)
  have e : pw 4 = 10000000000000000 := rfl
  omega
theorem lOf_lit {z : Int} {l : List Int} (h : dOk l) (t : topOk l) (v : val l = z.natAbs) : lOf z = l := by
  unfold lOf
  rw [← digs_val h t, v]
  congr 1
theorem add_ok (na nb : Bool) (A B : Option Addr) (n c m d : Nat) (xs ys : List Int) (za zb z : Int) (w : World) (ha : Sl w A n c xs) (hb : Sl w B m d ys) (hza : zOf na xs = za) (hzb : zOf nb ys = zb) (hz : za + zb = z) (hf : fitB z = true) :
    Calls Tryd.prog 186 #[.agg #[.bool na, .slice A n c], .agg #[.bool nb, .slice B m d]] w fun e w' => ∃ T k r, e = .returned (.tuple #[.agg #[.bool (nOf z), .slice T k r], .bool true]) ∧ Sl w' T k r (lOf z) ∧ Below w.heap.size w w' := by
  have := add_big na nb A B n c m d xs ys w ha hb
  rw [hza, hzb, hz, fitZ_of hf, hf] at this
  exact this
theorem sub_ok (na nb : Bool) (A B : Option Addr) (n c m d : Nat) (xs ys : List Int) (za zb z : Int) (w : World) (ha : Sl w A n c xs) (hb : Sl w B m d ys) (hza : zOf na xs = za) (hzb : zOf nb ys = zb) (hz : za + -zb = z) (hf : fitB z = true) :
    Calls Tryd.prog 156 #[.agg #[.bool na, .slice A n c], .agg #[.bool nb, .slice B m d]] w fun e w' => ∃ T k r, e = .returned (.tuple #[.agg #[.bool (nOf z), .slice T k r], .bool true]) ∧ Sl w' T k r (lOf z) ∧ Below w.heap.size w w' := by
  have := sub_big na nb A B n c m d xs ys w ha hb
  rw [hza, hzb, hz, fitZ_of hf, hf] at this
  exact this
theorem mul_ok (na nb : Bool) (A B : Option Addr) (n c m d : Nat) (xs ys : List Int) (za zb z : Int) (w : World) (ha : Sl w A n c xs) (hb : Sl w B m d ys) (hza : zOf na xs = za) (hzb : zOf nb ys = zb) (hz : za * zb = z) (hf : fitB z = true) :
    Calls Tryd.prog 66 #[.agg #[.bool na, .slice A n c], .agg #[.bool nb, .slice B m d]] w fun e w' => ∃ T k r, e = .returned (.tuple #[.agg #[.bool (nOf z), .slice T k r], .bool true]) ∧ Sl w' T k r (lOf z) ∧ Below w.heap.size w w' := by
  have := mul_big na nb A B n c m d xs ys w ha hb
  rw [hza, hzb, hz, fitZ_of hf, hf] at this
  exact this
theorem div_ok (na nb : Bool) (A B : Option Addr) (n c m d : Nat) (xs ys : List Int) (za zb q r : Int) (w : World) (ha : Sl w A n c xs) (hb : Sl w B m d ys) (hza : zOf na xs = za) (hzb : zOf nb ys = zb) (hq : qZ za zb = q) (hr : rZ za zb = r) (h0 : (zb != 0) = true) :
    Calls Tryd.prog 33 #[.agg #[.bool na, .slice A n c], .agg #[.bool nb, .slice B m d]] w fun e w' => ∃ T k t U l s, e = .returned (.tuple #[.agg #[.bool (nOf q), .slice T k t], .agg #[.bool (nOf r), .slice U l s], .bool true]) ∧ Sl w' T k t (lOf q) ∧ Sl w' U l s (lOf r) ∧ Below w.heap.size w w' := by
  have := div_big na nb A B n c m d xs ys w ha hb
  rw [hza, hzb, hq, hr, h0] at this
  exact this
theorem gcd_ok (na nb : Bool) (A B : Option Addr) (n c m d : Nat) (xs ys : List Int) (za zb z : Int) (w : World) (ha : Sl w A n c xs) (hb : Sl w B m d ys) (hza : zOf na xs = za) (hzb : zOf nb ys = zb) (hz : gZ za zb = z) :
    Calls Tryd.prog 36 #[.agg #[.bool na, .slice A n c], .agg #[.bool nb, .slice B m d]] w fun e w' => ∃ T k r, e = .returned (.agg #[.bool (nOf z), .slice T k r]) ∧ Sl w' T k r (lOf z) ∧ Below w.heap.size w w' := by
  have := gcd_big na nb A B n c m d xs ys w ha hb
  rw [hza, hzb, hz] at this
  exact this
/-- Same of a number in its form and of one whose sign and digits are those. -/
theorem same_ok (na nb : Bool) (A B : Option Addr) (n c m d : Nat) (xs ys : List Int) (w : World) (ha : Sl w A n c xs) (hb : Sl w B m d ys) (h1 : na = nb) (h2 : xs = ys) :
    Calls Tryd.prog 35 #[.agg #[.bool na, .slice A n c], .agg #[.bool nb, .slice B m d]] w fun e w' => e = .returned (.bool true) ∧ Below w.heap.size w w' := by
  subst h1; subst h2
  have := same_any na na A B n c m d xs xs w ha hb
  rw [show (na == na && xs == xs) = true by simp] at this
  exact this
theorem text_lit (na : Bool) (A : Option Addr) (n c : Nat) (xs : List Int) (z : Int) (l : List UInt8) (w : World) (ha : Sl w A n c xs) (htab : Tab w) (hz : zOf na xs = z) (hl : Lib.itoa z = l) :
    Calls Tryd.prog 40 #[.agg #[.bool na, .slice A n c]] w fun e w' => e = .returned (.string ⟨l.toArray⟩) ∧ Below w.heap.size w w' := by
  have := text_big na A n c xs w ha htab
  rw [hz, hl] at this
  exact this
theorem itoa_ex : Lib.itoa (-10001) = [45, 49, 48, 48, 48, 49] := by
  rw [itoa_form, if_pos (by decide)]
  show 45 :: Lib.decDigits 10001 = _
  rw [dec_big (by decide), dec_big (u := 10001 / 10) (by decide), dec_big (u := 10001 / 10 / 10) (by decide), dec_big (u := 10001 / 10 / 10 / 10) (by decide), dec_small (u := 10001 / 10 / 10 / 10 / 10) (by decide)]
  rfl
theorem parse_00 {ok : Bool} {z : Int} (h : PSpec [48, 48] ok z) : ok = false := by
  rcases h with ⟨_, _, he⟩ | ⟨h, _⟩
  · exfalso
    have h2 := (itoa_cut z).2
    rw [he] at h2
    have h3 : digits [48, 48] = [48, 48] := by decide
    rw [h3] at h2
    have h4 := dg_dec z.natAbs
    rw [← h2] at h4
    have h5 : dg [48, 48] = 0 := by decide
    rw [h5] at h4
    rw [show z.natAbs = 0 by omega, dec_small (by decide)] at h2
    exact absurd h2 (by decide)
  · exact h

set_option maxRecDepth 100000 in
set_option maxHeartbeats 2000000 in
theorem awake_any (w : World) (htab : Tab w) : Calls Tryd.prog 32 #[] w fun e w' => e = .returned (.bool true) ∧ Below w.heap.size w w' := by
  have TB := Lib.hid htab
  have BW := Lib.hid (Below.refl w.heap.size w)
  clear htab
  go_enter Tryd.func32, Tryd.ntmps32
  go_wp2_with fail
  (refine (of_any (-10001) _ (by omega) (by omega)).mono ?_; rintro e w1 ⟨A1, n1, c1, rfl, hs, hb⟩)
  have S1 := Lib.hid hs
  have TB := Lib.hid (tab_on TB.out hb)
  have BW := Lib.hid (below_on BW.out hb)
  clear hs hb
  go_upto_region 2 with fail
  have S1 := Lib.hid (S1.out.alloc (.cells #[.bool (nOf (-10001)), .slice A1 n1 c1] 35))
  have X1 := Lib.hid (Bx.new w1 (.bool (nOf (-10001))) (.slice A1 n1 c1))
  have TB : Hid (Tab (w1.alloc (.cells #[.bool (nOf (-10001)), .slice A1 n1 c1] 35))) := tab_on TB.out ((Below.refl _ _).alloc (Nat.le_refl _) _)
  have BW := Lib.hid (BW.out.alloc BW.out.size (.cells #[.bool (nOf (-10001)), .slice A1 n1 c1] 35))
  generalize hWW : (w1.alloc (.cells #[.bool (nOf (-10001)), .slice A1 n1 c1] 35)) = W1 at *
  clear hWW
  go_wp2_with fail
  (refine (of_any 9999 _ (by omega) (by omega)).mono ?_; rintro e w2 ⟨A2, n2, c2, rfl, hs, hb⟩)
  have S2 := Lib.hid hs
  have S1 := Lib.hid (S1.out.below hb)
  have X1 := Lib.hid (X1.out.below hb)
  have TB := Lib.hid (tab_on TB.out hb)
  have BW := Lib.hid (below_on BW.out hb)
  clear hs hb
  go_wp2_with fail
  (refine (of_any 9999 _ (by omega) (by omega)).mono ?_; rintro e w3 ⟨A3, n3, c3, rfl, hs, hb⟩)
  have S3 := Lib.hid hs
  have S1 := Lib.hid (S1.out.below hb)
  have X1 := Lib.hid (X1.out.below hb)
  have S2 := Lib.hid (S2.out.below hb)
  have TB := Lib.hid (tab_on TB.out hb)
  have BW := Lib.hid (below_on BW.out hb)
  clear hs hb
  go_wp2_with fail
  (refine (mul_ok _ _ _ _ _ _ _ _ _ _ 9999 9999 99980001 _ S2.out S3.out (zOf_lOf (fit_small (by omega) (by omega))) (zOf_lOf (fit_small (by omega) (by omega))) (by decide) (fit_small (by omega) (by omega))).mono ?_; rintro e w4 ⟨A4, n4, c4, rfl, hs, hb⟩)
  have S4 := Lib.hid hs
  have S1 := Lib.hid (S1.out.below hb)
  have X1 := Lib.hid (X1.out.below hb)
  have TB := Lib.hid (tab_on TB.out hb)
  have BW := Lib.hid (below_on BW.out hb)
  clear hs hb S2 S3
  go_upto_region 3 with fail
  have S1 := Lib.hid (S1.out.alloc (.cells #[.bool (nOf 99980001), .slice A4 n4 c4] 35))
  have X1 := Lib.hid (X1.out.alloc (.cells #[.bool (nOf 99980001), .slice A4 n4 c4] 35))
  have S4 := Lib.hid (S4.out.alloc (.cells #[.bool (nOf 99980001), .slice A4 n4 c4] 35))
  have X2 := Lib.hid (Bx.new w4 (.bool (nOf 99980001)) (.slice A4 n4 c4))
  have TB : Hid (Tab (w4.alloc (.cells #[.bool (nOf 99980001), .slice A4 n4 c4] 35))) := tab_on TB.out ((Below.refl _ _).alloc (Nat.le_refl _) _)
  have BW := Lib.hid (BW.out.alloc BW.out.size (.cells #[.bool (nOf 99980001), .slice A4 n4 c4] 35))
  generalize hWW : (w4.alloc (.cells #[.bool (nOf 99980001), .slice A4 n4 c4] 35)) = W2 at *
  clear hWW
  go_wp2_with fail
  (refine (of_any (-7) _ (by omega) (by omega)).mono ?_; rintro e w5 ⟨A5, n5, c5, rfl, hs, hb⟩)
  have S5 := Lib.hid hs
  have S1 := Lib.hid (S1.out.below hb)
  have X1 := Lib.hid (X1.out.below hb)
  have S4 := Lib.hid (S4.out.below hb)
  have X2 := Lib.hid (X2.out.below hb)
  have TB := Lib.hid (tab_on TB.out hb)
  have BW := Lib.hid (below_on BW.out hb)
  clear hs hb
  go_wp2_with fail
  (refine (of_any 2 _ (by omega) (by omega)).mono ?_; rintro e w6 ⟨A6, n6, c6, rfl, hs, hb⟩)
  have S6 := Lib.hid hs
  have S1 := Lib.hid (S1.out.below hb)
  have X1 := Lib.hid (X1.out.below hb)
  have S4 := Lib.hid (S4.out.below hb)
  have X2 := Lib.hid (X2.out.below hb)
  have S5 := Lib.hid (S5.out.below hb)
  have TB := Lib.hid (tab_on TB.out hb)
  have BW := Lib.hid (below_on BW.out hb)
  clear hs hb
  go_wp2_with fail
  (refine (div_ok _ _ _ _ _ _ _ _ _ _ (-7) 2 (-4) 1 _ S5.out S6.out (zOf_lOf (fit_small (by omega) (by omega))) (zOf_lOf (fit_small (by omega) (by omega))) (by decide) (by decide) (by decide)).mono ?_; rintro e w7 ⟨A7, n7, c7, A8, n8, c8, rfl, hs, hs8, hb⟩)
  have S7 := Lib.hid hs
  have S8 := Lib.hid hs8
  have S1 := Lib.hid (S1.out.below hb)
  have X1 := Lib.hid (X1.out.below hb)
  have S4 := Lib.hid (S4.out.below hb)
  have X2 := Lib.hid (X2.out.below hb)
  have TB := Lib.hid (tab_on TB.out hb)
  have BW := Lib.hid (below_on BW.out hb)
  clear hs hs8 hb S5 S6
  go_upto_region 4 with fail
  have S1 := Lib.hid (S1.out.alloc (.cells #[.bool (nOf (-4)), .slice A7 n7 c7] 35))
  have X1 := Lib.hid (X1.out.alloc (.cells #[.bool (nOf (-4)), .slice A7 n7 c7] 35))
  have S4 := Lib.hid (S4.out.alloc (.cells #[.bool (nOf (-4)), .slice A7 n7 c7] 35))
  have X2 := Lib.hid (X2.out.alloc (.cells #[.bool (nOf (-4)), .slice A7 n7 c7] 35))
  have S7 := Lib.hid (S7.out.alloc (.cells #[.bool (nOf (-4)), .slice A7 n7 c7] 35))
  have S8 := Lib.hid (S8.out.alloc (.cells #[.bool (nOf (-4)), .slice A7 n7 c7] 35))
  have X4 := Lib.hid (Bx.new w7 (.bool (nOf (-4))) (.slice A7 n7 c7))
  have TB : Hid (Tab (w7.alloc (.cells #[.bool (nOf (-4)), .slice A7 n7 c7] 35))) := tab_on TB.out ((Below.refl _ _).alloc (Nat.le_refl _) _)
  have BW := Lib.hid (BW.out.alloc BW.out.size (.cells #[.bool (nOf (-4)), .slice A7 n7 c7] 35))
  have S1 := Lib.hid (S1.out.alloc (.cells #[.bool (nOf 1), .slice A8 n8 c8] 35))
  have X1 := Lib.hid (X1.out.alloc (.cells #[.bool (nOf 1), .slice A8 n8 c8] 35))
  have S4 := Lib.hid (S4.out.alloc (.cells #[.bool (nOf 1), .slice A8 n8 c8] 35))
  have X2 := Lib.hid (X2.out.alloc (.cells #[.bool (nOf 1), .slice A8 n8 c8] 35))
  have S7 := Lib.hid (S7.out.alloc (.cells #[.bool (nOf 1), .slice A8 n8 c8] 35))
  have S8 := Lib.hid (S8.out.alloc (.cells #[.bool (nOf 1), .slice A8 n8 c8] 35))
  have X4 := Lib.hid (X4.out.alloc (.cells #[.bool (nOf 1), .slice A8 n8 c8] 35))
  have X5 := Lib.hid (Bx.new (w7.alloc (.cells #[.bool (nOf (-4)), .slice A7 n7 c7] 35)) (.bool (nOf 1)) (.slice A8 n8 c8))
  rw [alloc_sz] at X5
  have TB : Hid (Tab ((w7.alloc (.cells #[.bool (nOf (-4)), .slice A7 n7 c7] 35)).alloc (.cells #[.bool (nOf 1), .slice A8 n8 c8] 35))) := tab_on TB.out ((Below.refl _ _).alloc (Nat.le_refl _) _)
  have BW := Lib.hid (BW.out.alloc BW.out.size (.cells #[.bool (nOf 1), .slice A8 n8 c8] 35))
  generalize hWW : ((w7.alloc (.cells #[.bool (nOf (-4)), .slice A7 n7 c7] 35)).alloc (.cells #[.bool (nOf 1), .slice A8 n8 c8] 35)) = W4 at *
  clear hWW
  go_wp2_with fail
  (refine (parse_big ⟨#[48, 48]⟩ _ (by decide) TB.out).mono ?_; rintro e w8 ⟨z9, ok9, A9, n9, c9, rfl, hs, hp, hb⟩)
  obtain rfl : ok9 = false := parse_00 hp
  clear hs hp
  have S1 := Lib.hid (S1.out.below hb)
  have X1 := Lib.hid (X1.out.below hb)
  have S4 := Lib.hid (S4.out.below hb)
  have X2 := Lib.hid (X2.out.below hb)
  have S7 := Lib.hid (S7.out.below hb)
  have S8 := Lib.hid (S8.out.below hb)
  have X4 := Lib.hid (X4.out.below hb)
  have X5 := Lib.hid (X5.out.below hb)
  have TB := Lib.hid (tab_on TB.out hb)
  have BW := Lib.hid (below_on BW.out hb)
  clear hb
  go_upto_region 5 with fail
  have S1 := Lib.hid (S1.out.alloc (.cells #[.bool (nOf z9), .slice A9 n9 c9] 35))
  have X1 := Lib.hid (X1.out.alloc (.cells #[.bool (nOf z9), .slice A9 n9 c9] 35))
  have S4 := Lib.hid (S4.out.alloc (.cells #[.bool (nOf z9), .slice A9 n9 c9] 35))
  have X2 := Lib.hid (X2.out.alloc (.cells #[.bool (nOf z9), .slice A9 n9 c9] 35))
  have S7 := Lib.hid (S7.out.alloc (.cells #[.bool (nOf z9), .slice A9 n9 c9] 35))
  have S8 := Lib.hid (S8.out.alloc (.cells #[.bool (nOf z9), .slice A9 n9 c9] 35))
  have X4 := Lib.hid (X4.out.alloc (.cells #[.bool (nOf z9), .slice A9 n9 c9] 35))
  have X5 := Lib.hid (X5.out.alloc (.cells #[.bool (nOf z9), .slice A9 n9 c9] 35))
  have X9 := Lib.hid (Bx.new w8 (.bool (nOf z9)) (.slice A9 n9 c9))
  have TB : Hid (Tab (w8.alloc (.cells #[.bool (nOf z9), .slice A9 n9 c9] 35))) := tab_on TB.out ((Below.refl _ _).alloc (Nat.le_refl _) _)
  have BW := Lib.hid (BW.out.alloc BW.out.size (.cells #[.bool (nOf z9), .slice A9 n9 c9] 35))
  generalize hWW : (w8.alloc (.cells #[.bool (nOf z9), .slice A9 n9 c9] 35)) = W5 at *
  clear hWW
  have d1 := X1.out.c0
  have d2 := X1.out.c1
  go_wp2_with fail
  (refine (same_ok _ _ _ _ _ _ 2 2 _ [1, 1] _ (S1.out.alloc _) ((Own.new W5 [1, 1]).all rfl (Nat.le_refl _) (by omega)) rfl (lOf_lit (z := -10001) (by unfold dOk; simp) (by unfold topOk; simp) (by rfl))).mono ?_; rintro e w9 ⟨rfl, hb'⟩)
  have hb := below_box1 hb'
  clear hb'
  clear d1 d2
  have S1 := Lib.hid (S1.out.below hb)
  have X1 := Lib.hid (X1.out.below hb)
  have S4 := Lib.hid (S4.out.below hb)
  have X2 := Lib.hid (X2.out.below hb)
  have S7 := Lib.hid (S7.out.below hb)
  have S8 := Lib.hid (S8.out.below hb)
  have X4 := Lib.hid (X4.out.below hb)
  have X5 := Lib.hid (X5.out.below hb)
  have X9 := Lib.hid (X9.out.below hb)
  have TB := Lib.hid (tab_on TB.out hb)
  have BW := Lib.hid (below_on BW.out hb)
  clear hb
  have d1 := X1.out.c0
  have d2 := X1.out.c1
  go_wp2_with fail
  (refine (text_lit _ _ _ _ _ (-10001) [45, 49, 48, 48, 48, 49] _ S1.out TB.out (zOf_lOf (fit_small (by omega) (by omega))) itoa_ex).mono ?_; rintro e w10 ⟨rfl, hb⟩)
  clear d1 d2
  have S1 := Lib.hid (S1.out.below hb)
  have X1 := Lib.hid (X1.out.below hb)
  have S4 := Lib.hid (S4.out.below hb)
  have X2 := Lib.hid (X2.out.below hb)
  have S7 := Lib.hid (S7.out.below hb)
  have S8 := Lib.hid (S8.out.below hb)
  have X4 := Lib.hid (X4.out.below hb)
  have X5 := Lib.hid (X5.out.below hb)
  have X9 := Lib.hid (X9.out.below hb)
  have TB := Lib.hid (tab_on TB.out hb)
  have BW := Lib.hid (below_on BW.out hb)
  clear hb
  have d1 := X2.out.c0
  have d2 := X2.out.c1
  go_wp2_with fail
  (refine (same_ok _ _ _ _ _ _ 2 2 _ [1, 9998] _ (S4.out.alloc _) ((Own.new w10 [1, 9998]).all rfl (Nat.le_refl _) (by omega)) rfl (lOf_lit (z := 99980001) (by unfold dOk; simp) (by unfold topOk; simp) (by rfl))).mono ?_; rintro e w11 ⟨rfl, hb'⟩)
  have hb := below_box1 hb'
  clear hb'
  clear d1 d2
  have S1 := Lib.hid (S1.out.below hb)
  have X1 := Lib.hid (X1.out.below hb)
  have S4 := Lib.hid (S4.out.below hb)
  have X2 := Lib.hid (X2.out.below hb)
  have S7 := Lib.hid (S7.out.below hb)
  have S8 := Lib.hid (S8.out.below hb)
  have X4 := Lib.hid (X4.out.below hb)
  have X5 := Lib.hid (X5.out.below hb)
  have X9 := Lib.hid (X9.out.below hb)
  have TB := Lib.hid (tab_on TB.out hb)
  have BW := Lib.hid (below_on BW.out hb)
  clear hb
  have d1 := X4.out.c0
  have d2 := X4.out.c1
  go_wp2_with fail
  (refine (same_ok _ _ _ _ _ _ 1 1 _ [4] _ (S7.out.alloc _) ((Own.new w11 [4]).all rfl (Nat.le_refl _) (by omega)) rfl (lOf_lit (z := -4) (by unfold dOk; simp) (by unfold topOk; simp) (by rfl))).mono ?_; rintro e w12 ⟨rfl, hb'⟩)
  have hb := below_box1 hb'
  clear hb'
  clear d1 d2
  have S1 := Lib.hid (S1.out.below hb)
  have X1 := Lib.hid (X1.out.below hb)
  have S4 := Lib.hid (S4.out.below hb)
  have X2 := Lib.hid (X2.out.below hb)
  have S7 := Lib.hid (S7.out.below hb)
  have S8 := Lib.hid (S8.out.below hb)
  have X4 := Lib.hid (X4.out.below hb)
  have X5 := Lib.hid (X5.out.below hb)
  have X9 := Lib.hid (X9.out.below hb)
  have TB := Lib.hid (tab_on TB.out hb)
  have BW := Lib.hid (below_on BW.out hb)
  clear hb
  have d1 := X5.out.c0
  have d2 := X5.out.c1
  go_wp2_with fail
  (refine (same_ok _ _ _ _ _ _ 1 1 _ [1] _ (S8.out.alloc _) ((Own.new w12 [1]).all rfl (Nat.le_refl _) (by omega)) rfl (lOf_lit (z := 1) (by unfold dOk; simp) (by unfold topOk; simp) (by rfl))).mono ?_; rintro e w13 ⟨rfl, hb'⟩)
  have hb := below_box1 hb'
  clear hb'
  clear d1 d2
  have S1 := Lib.hid (S1.out.below hb)
  have X1 := Lib.hid (X1.out.below hb)
  have S4 := Lib.hid (S4.out.below hb)
  have X2 := Lib.hid (X2.out.below hb)
  have S7 := Lib.hid (S7.out.below hb)
  have S8 := Lib.hid (S8.out.below hb)
  have X4 := Lib.hid (X4.out.below hb)
  have X5 := Lib.hid (X5.out.below hb)
  have X9 := Lib.hid (X9.out.below hb)
  have TB := Lib.hid (tab_on TB.out hb)
  have BW := Lib.hid (below_on BW.out hb)
  clear hb
  go_wp2_with fail
  (refine (of_any (-12) _ (by omega) (by omega)).mono ?_; rintro e w14 ⟨Aw14, nw14, cw14, rfl, hs, hb⟩)
  have S20 := Lib.hid hs
  have S1 := Lib.hid (S1.out.below hb)
  have X1 := Lib.hid (X1.out.below hb)
  have S4 := Lib.hid (S4.out.below hb)
  have X2 := Lib.hid (X2.out.below hb)
  have S7 := Lib.hid (S7.out.below hb)
  have S8 := Lib.hid (S8.out.below hb)
  have X4 := Lib.hid (X4.out.below hb)
  have X5 := Lib.hid (X5.out.below hb)
  have X9 := Lib.hid (X9.out.below hb)
  have TB := Lib.hid (tab_on TB.out hb)
  have BW := Lib.hid (below_on BW.out hb)
  clear hs hb
  go_wp2_with fail
  (refine (of_any (18) _ (by omega) (by omega)).mono ?_; rintro e w15 ⟨Aw15, nw15, cw15, rfl, hs, hb⟩)
  have S21 := Lib.hid hs
  have S1 := Lib.hid (S1.out.below hb)
  have X1 := Lib.hid (X1.out.below hb)
  have S4 := Lib.hid (S4.out.below hb)
  have X2 := Lib.hid (X2.out.below hb)
  have S7 := Lib.hid (S7.out.below hb)
  have S8 := Lib.hid (S8.out.below hb)
  have X4 := Lib.hid (X4.out.below hb)
  have X5 := Lib.hid (X5.out.below hb)
  have X9 := Lib.hid (X9.out.below hb)
  have S20 := Lib.hid (S20.out.below hb)
  have TB := Lib.hid (tab_on TB.out hb)
  have BW := Lib.hid (below_on BW.out hb)
  clear hs hb
  go_wp2_with fail
  (refine (gcd_ok _ _ _ _ _ _ _ _ _ _ (-12) 18 6 _ S20.out S21.out (zOf_lOf (fit_small (by omega) (by omega))) (zOf_lOf (fit_small (by omega) (by omega))) (by decide)).mono ?_; rintro e w16 ⟨A16, n16, c16, rfl, hs, hb⟩)
  have S22 := Lib.hid hs
  have S1 := Lib.hid (S1.out.below hb)
  have X1 := Lib.hid (X1.out.below hb)
  have S4 := Lib.hid (S4.out.below hb)
  have X2 := Lib.hid (X2.out.below hb)
  have S7 := Lib.hid (S7.out.below hb)
  have S8 := Lib.hid (S8.out.below hb)
  have X4 := Lib.hid (X4.out.below hb)
  have X5 := Lib.hid (X5.out.below hb)
  have X9 := Lib.hid (X9.out.below hb)
  have S20 := Lib.hid (S20.out.below hb)
  have S21 := Lib.hid (S21.out.below hb)
  have TB := Lib.hid (tab_on TB.out hb)
  have BW := Lib.hid (below_on BW.out hb)
  clear hs hb
  go_wp2_with fail
  (refine (of_any 6 _ (by omega) (by omega)).mono ?_; rintro e w17 ⟨A17, n17, c17, rfl, hs, hb⟩)
  have S23 := Lib.hid hs
  have S1 := Lib.hid (S1.out.below hb)
  have X1 := Lib.hid (X1.out.below hb)
  have S4 := Lib.hid (S4.out.below hb)
  have X2 := Lib.hid (X2.out.below hb)
  have S7 := Lib.hid (S7.out.below hb)
  have S8 := Lib.hid (S8.out.below hb)
  have X4 := Lib.hid (X4.out.below hb)
  have X5 := Lib.hid (X5.out.below hb)
  have X9 := Lib.hid (X9.out.below hb)
  have S20 := Lib.hid (S20.out.below hb)
  have S21 := Lib.hid (S21.out.below hb)
  have S22 := Lib.hid (S22.out.below hb)
  have TB := Lib.hid (tab_on TB.out hb)
  have BW := Lib.hid (below_on BW.out hb)
  clear hs hb
  go_wp2_with fail
  (refine (same_ok _ _ _ _ _ _ _ _ _ _ _ S22.out S23.out rfl rfl).mono ?_; rintro e w18 ⟨rfl, hb⟩)
  have BW := Lib.hid (below_on BW.out hb)
  clear hb
  go_wp2_with fail
  go_ret
  exact ⟨rfl, BW.out⟩

end Go.Proofs.YtfenmogbellhdaaDoor
