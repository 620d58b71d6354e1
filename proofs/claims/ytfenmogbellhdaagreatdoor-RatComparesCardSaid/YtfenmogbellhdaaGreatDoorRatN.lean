/-
  Contracts of rat's functions with their results given; the chapter's examples hold.
-/
import Derived.Test.YtfenmogbellhdaaGreatDoorRatL
import Derived.Test.YtfenmogbellhdaaGreatDoorRatH
import Derived.Test.YtfenmogbellhdaaGreatDoorRatM
namespace Go.Proofs.YtfenmogbellhdaaGreatDoor
open Go.RowKit

theorem Fr.small {p q : Int} (h1 : -10000000000000000 < p) (h2 : p < 10000000000000000) (h3 : 0 < q) (h4 : q < 10000000000000000) (hc : Nat.gcd p.natAbs q.natAbs = 1) : Fr p q :=
  ⟨fit_small h1 h2, fit_small (by omega) h4, h3, hc⟩
theorem lo_ex {p q n d : Int} (hq : q ≠ 0) (hd : 0 < d) (hc : Nat.gcd n.natAbs d.natAbs = 1) (h : n * q = p * d) : loN p q = n ∧ loD p q = d := lo_unique hq hd hc h
theorem res_ex {p q n d : Int} (hq : q ≠ 0) (hd : 0 < d) (hc : Nat.gcd n.natAbs d.natAbs = 1) (h : n * q = p * d) (f1 : fitB n = true) (f2 : fitB d = true) : resN p q = n ∧ resD p q = d ∧ resB p q = true := by
  have hl := lo_unique hq hd hc h
  have hb : resB p q = true := by unfold resB; rw [hl.1, hl.2, f1, f2]; simpa using hq
  exact ⟨by rw [(res_yes hb).1, hl.1], by rw [(res_yes hb).2, hl.2], hb⟩
theorem notfr_24 : validR (nOf 2) (lOf 2) (nOf 4) (lOf 4) = false := by
  unfold validR
  rw [zOf_lOf (z := 2) (fit_small (by omega) (by omega)), zOf_lOf (z := 4) (fit_small (by omega) (by omega))]
  have : decide (gZ 2 4 = 1) = false := by decide
  rw [this, Bool.and_false]
theorem itoa_m2 : Lib.itoa (-2) = [45, 50] := by
  rw [itoa_form, if_pos (by decide)]
  show 45 :: Lib.decDigits 2 = _
  rw [dec_small (by decide)]; rfl
theorem itoa_m3 : Lib.itoa (-3) = [45, 51] := by
  rw [itoa_form, if_pos (by decide)]
  show 45 :: Lib.decDigits 3 = _
  rw [dec_small (by decide)]; rfl
theorem itoa_2 : Lib.itoa 2 = [50] := by
  rw [itoa_form, if_neg (by decide)]
  show Lib.decDigits 2 = _
  rw [dec_small (by decide)]; rfl
theorem rtext_q : rtext (-2) 1 = [45, 50] := by unfold rtext; rw [if_pos rfl]; exact itoa_m2
theorem rtext_a : rtext (-3) 2 = [45, 51, 47, 50] := by unfold rtext; rw [if_neg (by decide), itoa_m3, itoa_2]; rfl
theorem rof_ok (p q n d : Int) (A B : Option Addr) (n1 c1 m1 d1 : Nat) (w : World) (ha : Sl w A n1 c1 (lOf p)) (hb : Sl w B m1 d1 (lOf q)) (hp : fitB p = true) (hq : fitB q = true) (h0 : q ≠ 0) (hn : loN p q = n) (hd : loD p q = d) :
    Calls Tryz.prog 22 #[.agg #[.bool (nOf (p)), .slice A n1 c1], .agg #[.bool (nOf (q)), .slice B m1 d1]] w fun e w' => ∃ T k r U l s, e = .returned (.tuple #[.agg #[.bool (nOf (n)), .slice T k r, .bool (nOf (d)), .slice U l s], .bool (true)]) ∧ Sl w' T k r (lOf (n)) ∧ Sl w' U l s (lOf (d)) ∧ Below w.heap.size w w' := by
  have h := rof_any (nOf p) (nOf q) A B n1 c1 m1 d1 (lOf p) (lOf q) w ha hb
  have hb' : ofB (nOf p) (lOf p) (nOf q) (lOf q) = true := by
    unfold ofB; rw [valid_lOf hp, valid_lOf hq, zOf_lOf hq]; simpa using h0
  rw [(of_yes hb').1, (of_yes hb').2, hb', zOf_lOf hp, zOf_lOf hq, hn, hd] at h
  exact h
theorem rof_zero (p q : Int) (A B : Option Addr) (n1 c1 m1 d1 : Nat) (w : World) (ha : Sl w A n1 c1 (lOf p)) (hb : Sl w B m1 d1 (lOf q)) (h0 : q = 0) :
    Calls Tryz.prog 22 #[.agg #[.bool (nOf (p)), .slice A n1 c1], .agg #[.bool (nOf (q)), .slice B m1 d1]] w fun e w' => ∃ T k r U l s, e = .returned (.tuple #[.agg #[.bool (nOf (0)), .slice T k r, .bool (nOf (0)), .slice U l s], .bool (false)]) ∧ Sl w' T k r (lOf (0)) ∧ Sl w' U l s (lOf (0)) ∧ Below w.heap.size w w' := by
  have h := rof_any (nOf p) (nOf q) A B n1 c1 m1 d1 (lOf p) (lOf q) w ha hb
  have hb' : ofB (nOf p) (lOf p) (nOf q) (lOf q) = false := by
    unfold ofB; subst h0; rw [zOf_lOf fit_zero]; simp
  rw [(of_no hb').1, (of_no hb').2, hb'] at h
  exact h
theorem radd_ok (p q p' q' P1 Q1 P2 Q2 n d : Int) (b : Bool) (A1 B1 A2 B2 : Option Addr) (n1 c1 m1 d1 n2 c2 m2 d2 : Nat) (w : World) (ha : Sl w A1 n1 c1 (lOf p)) (hb : Sl w B1 m1 d1 (lOf q)) (hc : Sl w A2 n2 c2 (lOf p')) (hd : Sl w B2 m2 d2 (lOf q')) (e1 : frN (nOf p) (lOf p) (nOf q) (lOf q) = P1) (e2 : frD (nOf p) (lOf p) (nOf q) (lOf q) = Q1) (e3 : frN (nOf p') (lOf p') (nOf q') (lOf q') = P2) (e4 : frD (nOf p') (lOf p') (nOf q') (lOf q') = Q2) (hn : resN (P1 * Q2 + P2 * Q1) (Q1 * Q2) = n) (hdn : resD (P1 * Q2 + P2 * Q1) (Q1 * Q2) = d) (hb' : resB (P1 * Q2 + P2 * Q1) (Q1 * Q2) = b) :
    Calls Tryz.prog 7 #[.agg #[.bool (nOf (p)), .slice A1 n1 c1, .bool (nOf (q)), .slice B1 m1 d1], .agg #[.bool (nOf (p')), .slice A2 n2 c2, .bool (nOf (q')), .slice B2 m2 d2]] w fun e w' => ∃ T k r U l s, e = .returned (.tuple #[.agg #[.bool (nOf (n)), .slice T k r, .bool (nOf (d)), .slice U l s], .bool (b)]) ∧ Sl w' T k r (lOf (n)) ∧ Sl w' U l s (lOf (d)) ∧ Below w.heap.size w w' := by
  have h := radd_any (nOf p) (nOf q) (nOf p') (nOf q') A1 B1 A2 B2 n1 c1 m1 d1 n2 c2 m2 d2 (lOf p) (lOf q) (lOf p') (lOf q') w ha hb hc hd
  rw [e1, e2, e3, e4, hn, hdn, hb'] at h
  exact h
theorem rsub_ok (p q p' q' P1 Q1 P2 Q2 n d : Int) (b : Bool) (A1 B1 A2 B2 : Option Addr) (n1 c1 m1 d1 n2 c2 m2 d2 : Nat) (w : World) (ha : Sl w A1 n1 c1 (lOf p)) (hb : Sl w B1 m1 d1 (lOf q)) (hc : Sl w A2 n2 c2 (lOf p')) (hd : Sl w B2 m2 d2 (lOf q')) (e1 : frN (nOf p) (lOf p) (nOf q) (lOf q) = P1) (e2 : frD (nOf p) (lOf p) (nOf q) (lOf q) = Q1) (e3 : frN (nOf p') (lOf p') (nOf q') (lOf q') = P2) (e4 : frD (nOf p') (lOf p') (nOf q') (lOf q') = Q2) (hn : resN (P1 * Q2 - P2 * Q1) (Q1 * Q2) = n) (hdn : resD (P1 * Q2 - P2 * Q1) (Q1 * Q2) = d) (hb' : resB (P1 * Q2 - P2 * Q1) (Q1 * Q2) = b) :
    Calls Tryz.prog 9 #[.agg #[.bool (nOf (p)), .slice A1 n1 c1, .bool (nOf (q)), .slice B1 m1 d1], .agg #[.bool (nOf (p')), .slice A2 n2 c2, .bool (nOf (q')), .slice B2 m2 d2]] w fun e w' => ∃ T k r U l s, e = .returned (.tuple #[.agg #[.bool (nOf (n)), .slice T k r, .bool (nOf (d)), .slice U l s], .bool (b)]) ∧ Sl w' T k r (lOf (n)) ∧ Sl w' U l s (lOf (d)) ∧ Below w.heap.size w w' := by
  have h := rsub_any (nOf p) (nOf q) (nOf p') (nOf q') A1 B1 A2 B2 n1 c1 m1 d1 n2 c2 m2 d2 (lOf p) (lOf q) (lOf p') (lOf q') w ha hb hc hd
  rw [e1, e2, e3, e4, hn, hdn, hb'] at h
  exact h
theorem rdiv_ok (p q p' q' P1 Q1 P2 Q2 n d : Int) (b : Bool) (A1 B1 A2 B2 : Option Addr) (n1 c1 m1 d1 n2 c2 m2 d2 : Nat) (w : World) (ha : Sl w A1 n1 c1 (lOf p)) (hb : Sl w B1 m1 d1 (lOf q)) (hc : Sl w A2 n2 c2 (lOf p')) (hd : Sl w B2 m2 d2 (lOf q')) (e1 : frN (nOf p) (lOf p) (nOf q) (lOf q) = P1) (e2 : frD (nOf p) (lOf p) (nOf q) (lOf q) = Q1) (e3 : frN (nOf p') (lOf p') (nOf q') (lOf q') = P2) (e4 : frD (nOf p') (lOf p') (nOf q') (lOf q') = Q2) (hn : resN (P1 * Q2) (Q1 * P2) = n) (hdn : resD (P1 * Q2) (Q1 * P2) = d) (hb' : resB (P1 * Q2) (Q1 * P2) = b) :
    Calls Tryz.prog 25 #[.agg #[.bool (nOf (p)), .slice A1 n1 c1, .bool (nOf (q)), .slice B1 m1 d1], .agg #[.bool (nOf (p')), .slice A2 n2 c2, .bool (nOf (q')), .slice B2 m2 d2]] w fun e w' => ∃ T k r U l s, e = .returned (.tuple #[.agg #[.bool (nOf (n)), .slice T k r, .bool (nOf (d)), .slice U l s], .bool (b)]) ∧ Sl w' T k r (lOf (n)) ∧ Sl w' U l s (lOf (d)) ∧ Below w.heap.size w w' := by
  have h := rdiv_any (nOf p) (nOf q) (nOf p') (nOf q') A1 B1 A2 B2 n1 c1 m1 d1 n2 c2 m2 d2 (lOf p) (lOf q) (lOf p') (lOf q') w ha hb hc hd
  rw [e1, e2, e3, e4, hn, hdn, hb'] at h
  exact h
theorem rcmp_ok (p q p' q' v : Int) (A1 B1 A2 B2 : Option Addr) (n1 c1 m1 d1 n2 c2 m2 d2 : Nat) (w : World) (ha : Sl w A1 n1 c1 (lOf p)) (hb : Sl w B1 m1 d1 (lOf q)) (hc : Sl w A2 n2 c2 (lOf p')) (hd : Sl w B2 m2 d2 (lOf q')) (f1 : Fr p q) (f2 : Fr p' q') (hv : cmpI (p * q') (p' * q) = v) :
    Calls Tryz.prog 12 #[.agg #[.bool (nOf (p)), .slice A1 n1 c1, .bool (nOf (q)), .slice B1 m1 d1], .agg #[.bool (nOf (p')), .slice A2 n2 c2, .bool (nOf (q')), .slice B2 m2 d2]] w fun e w' => e = .returned (.int .i64 v) ∧ Below w.heap.size w w' := by
  have h := rcmp_any (nOf p) (nOf q) (nOf p') (nOf q') A1 B1 A2 B2 n1 c1 m1 d1 n2 c2 m2 d2 (lOf p) (lOf q) (lOf p') (lOf q') w ha hb hc hd
  rw [(fr_of f1).1, (fr_of f1).2, (fr_of f2).1, (fr_of f2).2, hv] at h
  exact h
theorem rtext_ok (l : List UInt8) (p q : Int) (A B : Option Addr) (n c m d : Nat) (w : World) (ha : Sl w A n c (lOf p)) (hb : Sl w B m d (lOf q)) (f : Fr p q) (htab : Tab w) (hl : rtext p q = l) :
    Calls Tryz.prog 19 #[.agg #[.bool (nOf (p)), .slice A n c, .bool (nOf (q)), .slice B m d]] w fun e w' => e = .returned (.string ⟨l.toArray⟩) ∧ Below w.heap.size w w' := by
  have h := rtext_any (nOf p) (nOf q) A B n c m d (lOf p) (lOf q) w ha hb htab
  rw [(fr_of f).1, (fr_of f).2, hl] at h
  exact h
theorem floor_ok (z : Int) (p q : Int) (A B : Option Addr) (n c m d : Nat) (w : World) (ha : Sl w A n c (lOf p)) (hb : Sl w B m d (lOf q)) (f : Fr p q) (hz : qZ p q = z) :
    Calls Tryz.prog 15 #[.agg #[.bool (nOf (p)), .slice A n c, .bool (nOf (q)), .slice B m d]] w fun e w' => ∃ T k r, e = .returned (.agg #[.bool (nOf z), .slice T k r]) ∧ Sl w' T k r (lOf z) ∧ Below w.heap.size w w' := by
  subst hz; exact floor_z p q A B n c m d w ha hb f
theorem ceil_ok (z : Int) (p q : Int) (A B : Option Addr) (n c m d : Nat) (w : World) (ha : Sl w A n c (lOf p)) (hb : Sl w B m d (lOf q)) (f : Fr p q) (hz : -qZ (-p) q = z) :
    Calls Tryz.prog 17 #[.agg #[.bool (nOf (p)), .slice A n c, .bool (nOf (q)), .slice B m d]] w fun e w' => ∃ T k r, e = .returned (.agg #[.bool (nOf z), .slice T k r]) ∧ Sl w' T k r (lOf z) ∧ Below w.heap.size w w' := by
  have h := ceil_any (nOf p) (nOf q) A B n c m d (lOf p) (lOf q) w ha hb
  rw [(fr_of f).1, (fr_of f).2, hz] at h
  exact h
theorem rvalid_ok (b : Bool) (p q : Int) (A B : Option Addr) (n c m d : Nat) (w : World) (ha : Sl w A n c (lOf p)) (hb : Sl w B m d (lOf q)) (h' : validR (nOf p) (lOf p) (nOf q) (lOf q) = b) :
    Calls Tryz.prog 26 #[.agg #[.bool (nOf (p)), .slice A n c, .bool (nOf (q)), .slice B m d]] w fun e w' => e = .returned (.bool b) ∧ Below w.heap.size w w' := by
  have h := rvalid_any (nOf p) (nOf q) A B n c m d (lOf p) (lOf q) w ha hb
  rw [h'] at h
  exact h

set_option maxRecDepth 100000 in
set_option maxHeartbeats 8000000 in
theorem awake3_any (w : World) (htab : Tab w) : Calls Tryz.prog 6 #[] w fun e w' => e = .returned (.bool true) ∧ Below w.heap.size w w' := by
  have TB := Lib.hid htab
  have TB0 := Lib.hid htab
  clear htab
  have BW := Lib.hid (Below.refl w.heap.size w)
  go_enter Tryz.func6, Tryz.ntmps6
  go_upto_region 1 with fail
  go_wp2_with fail
  ((with_reducible refine (of_any (6) _ (by omega) (by omega)).mono ?_); rintro e w1 ⟨A1, n1, c1, rfl, hs, hb⟩)
  have TB := Lib.hid (tab_on TB.out hb)
  have BW := Lib.hid (below_on BW.out hb)
  clear hb
  have S1 := Lib.hid hs
  clear hs
  go_wp2_with fail
  ((with_reducible refine (of_any (-4) _ (by omega) (by omega)).mono ?_); rintro e w2 ⟨A2, n2, c2, rfl, hs, hb⟩)
  have TB := Lib.hid (tab_on TB.out hb)
  have BW := Lib.hid (below_on BW.out hb)
  have S1 := Lib.hid (S1.out.below hb)
  clear hb
  have S2 := Lib.hid hs
  clear hs
  go_wp2_with fail
  ((with_reducible refine (rof_ok 6 (-4) (-3) 2 A1 A2 n1 c1 n2 c2 _ S1.out S2.out (fit_small (by omega) (by omega)) (fit_small (by omega) (by omega)) (by omega) (lo_ex (p := 6) (q := -4) (n := -3) (d := 2) (by omega) (by omega) (by decide) (by decide)).1 (lo_ex (p := 6) (q := -4) (n := -3) (d := 2) (by omega) (by omega) (by decide) (by decide)).2).mono ?_); rintro e w3 ⟨A3, n3, c3, B3, m3, d3, rfl, hs, ht, hb⟩)
  have TB := Lib.hid (tab_on TB.out hb)
  have BW := Lib.hid (below_on BW.out hb)
  have S1 := Lib.hid (S1.out.below hb)
  have S2 := Lib.hid (S2.out.below hb)
  clear hb
  have S3 := Lib.hid hs
  have T3 := Lib.hid ht
  clear hs ht
  go_upto_region 2 with fail
  have TB := Lib.hid (tab_on TB.out ((Below.refl _ _).alloc (Nat.le_refl _) (.cells #[.bool (nOf (-3)), .slice A3 n3 c3, .bool (nOf (2)), .slice B3 m3 d3] 26)))
  have BW := Lib.hid (BW.out.alloc BW.out.size (.cells #[.bool (nOf (-3)), .slice A3 n3 c3, .bool (nOf (2)), .slice B3 m3 d3] 26))
  have S1 := Lib.hid (S1.out.alloc (.cells #[.bool (nOf (-3)), .slice A3 n3 c3, .bool (nOf (2)), .slice B3 m3 d3] 26))
  have S2 := Lib.hid (S2.out.alloc (.cells #[.bool (nOf (-3)), .slice A3 n3 c3, .bool (nOf (2)), .slice B3 m3 d3] 26))
  have S3 := Lib.hid (S3.out.alloc (.cells #[.bool (nOf (-3)), .slice A3 n3 c3, .bool (nOf (2)), .slice B3 m3 d3] 26))
  have T3 := Lib.hid (T3.out.alloc (.cells #[.bool (nOf (-3)), .slice A3 n3 c3, .bool (nOf (2)), .slice B3 m3 d3] 26))
  have XA := Lib.hid (Bk.new 26 w3 #[.bool (nOf (-3)), .slice A3 n3 c3, .bool (nOf (2)), .slice B3 m3 d3])
  generalize (w3.alloc (.cells #[.bool (nOf (-3)), .slice A3 n3 c3, .bool (nOf (2)), .slice B3 m3 d3] 26)) = V2 at *
  clear S1 S2
  go_wp2_with fail
  ((with_reducible refine (of_any (0) _ (by omega) (by omega)).mono ?_); rintro e w4 ⟨A4, n4, c4, rfl, hs, hb⟩)
  have TB := Lib.hid (tab_on TB.out hb)
  have BW := Lib.hid (below_on BW.out hb)
  have S3 := Lib.hid (S3.out.below hb)
  have T3 := Lib.hid (T3.out.below hb)
  have XA := Lib.hid (XA.out.below hb)
  clear hb
  have S4 := Lib.hid hs
  clear hs
  go_wp2_with fail
  ((with_reducible refine (of_any (-7) _ (by omega) (by omega)).mono ?_); rintro e w5 ⟨A5, n5, c5, rfl, hs, hb⟩)
  have TB := Lib.hid (tab_on TB.out hb)
  have BW := Lib.hid (below_on BW.out hb)
  have S3 := Lib.hid (S3.out.below hb)
  have T3 := Lib.hid (T3.out.below hb)
  have XA := Lib.hid (XA.out.below hb)
  have S4 := Lib.hid (S4.out.below hb)
  clear hb
  have S5 := Lib.hid hs
  clear hs
  go_wp2_with fail
  ((with_reducible refine (rof_ok 0 (-7) 0 1 A4 A5 n4 c4 n5 c5 _ S4.out S5.out (fit_small (by omega) (by omega)) (fit_small (by omega) (by omega)) (by omega) (lo_ex (p := 0) (q := -7) (n := 0) (d := 1) (by omega) (by omega) (by decide) (by decide)).1 (lo_ex (p := 0) (q := -7) (n := 0) (d := 1) (by omega) (by omega) (by decide) (by decide)).2).mono ?_); rintro e w6 ⟨A6, n6, c6, B6, m6, d6, rfl, hs, ht, hb⟩)
  have TB := Lib.hid (tab_on TB.out hb)
  have BW := Lib.hid (below_on BW.out hb)
  have S3 := Lib.hid (S3.out.below hb)
  have T3 := Lib.hid (T3.out.below hb)
  have XA := Lib.hid (XA.out.below hb)
  have S4 := Lib.hid (S4.out.below hb)
  have S5 := Lib.hid (S5.out.below hb)
  clear hb
  have S6 := Lib.hid hs
  have T6 := Lib.hid ht
  clear hs ht
  go_upto_region 3 with fail
  have ln1 := XA.out.lt
  have TB := Lib.hid (tab_on TB.out ((Below.refl _ _).alloc (Nat.le_refl _) (.cells #[.bool (nOf (0)), .slice A6 n6 c6, .bool (nOf (1)), .slice B6 m6 d6] 26)))
  have BW := Lib.hid (BW.out.alloc BW.out.size (.cells #[.bool (nOf (0)), .slice A6 n6 c6, .bool (nOf (1)), .slice B6 m6 d6] 26))
  have S3 := Lib.hid (S3.out.alloc (.cells #[.bool (nOf (0)), .slice A6 n6 c6, .bool (nOf (1)), .slice B6 m6 d6] 26))
  have T3 := Lib.hid (T3.out.alloc (.cells #[.bool (nOf (0)), .slice A6 n6 c6, .bool (nOf (1)), .slice B6 m6 d6] 26))
  have XA := Lib.hid (XA.out.alloc (.cells #[.bool (nOf (0)), .slice A6 n6 c6, .bool (nOf (1)), .slice B6 m6 d6] 26))
  have S4 := Lib.hid (S4.out.alloc (.cells #[.bool (nOf (0)), .slice A6 n6 c6, .bool (nOf (1)), .slice B6 m6 d6] 26))
  have S5 := Lib.hid (S5.out.alloc (.cells #[.bool (nOf (0)), .slice A6 n6 c6, .bool (nOf (1)), .slice B6 m6 d6] 26))
  have S6 := Lib.hid (S6.out.alloc (.cells #[.bool (nOf (0)), .slice A6 n6 c6, .bool (nOf (1)), .slice B6 m6 d6] 26))
  have T6 := Lib.hid (T6.out.alloc (.cells #[.bool (nOf (0)), .slice A6 n6 c6, .bool (nOf (1)), .slice B6 m6 d6] 26))
  have XZ := Lib.hid (Bk.new 26 w6 #[.bool (nOf (0)), .slice A6 n6 c6, .bool (nOf (1)), .slice B6 m6 d6])
  generalize (w6.alloc (.cells #[.bool (nOf (0)), .slice A6 n6 c6, .bool (nOf (1)), .slice B6 m6 d6] 26)) = V3 at *
  clear S4 S5
  go_wp2_with fail
  ((with_reducible refine (of_any (1) _ (by omega) (by omega)).mono ?_); rintro e w7 ⟨A7, n7, c7, rfl, hs, hb⟩)
  have TB := Lib.hid (tab_on TB.out hb)
  have BW := Lib.hid (below_on BW.out hb)
  have S3 := Lib.hid (S3.out.below hb)
  have T3 := Lib.hid (T3.out.below hb)
  have XA := Lib.hid (XA.out.below hb)
  have S6 := Lib.hid (S6.out.below hb)
  have T6 := Lib.hid (T6.out.below hb)
  have XZ := Lib.hid (XZ.out.below hb)
  clear hb
  have S7 := Lib.hid hs
  clear hs
  go_wp2_with fail
  ((with_reducible refine (of_any (0) _ (by omega) (by omega)).mono ?_); rintro e w8 ⟨A8, n8, c8, rfl, hs, hb⟩)
  have TB := Lib.hid (tab_on TB.out hb)
  have BW := Lib.hid (below_on BW.out hb)
  have S3 := Lib.hid (S3.out.below hb)
  have T3 := Lib.hid (T3.out.below hb)
  have XA := Lib.hid (XA.out.below hb)
  have S6 := Lib.hid (S6.out.below hb)
  have T6 := Lib.hid (T6.out.below hb)
  have XZ := Lib.hid (XZ.out.below hb)
  have S7 := Lib.hid (S7.out.below hb)
  clear hb
  have S8 := Lib.hid hs
  clear hs
  go_wp2_with fail
  ((with_reducible refine (rof_zero 1 0 A7 A8 n7 c7 n8 c8 _ S7.out S8.out rfl).mono ?_); rintro e w9 ⟨A9, n9, c9, B9, m9, d9, rfl, hs, ht, hb⟩)
  have TB := Lib.hid (tab_on TB.out hb)
  have BW := Lib.hid (below_on BW.out hb)
  have S3 := Lib.hid (S3.out.below hb)
  have T3 := Lib.hid (T3.out.below hb)
  have XA := Lib.hid (XA.out.below hb)
  have S6 := Lib.hid (S6.out.below hb)
  have T6 := Lib.hid (T6.out.below hb)
  have XZ := Lib.hid (XZ.out.below hb)
  have S7 := Lib.hid (S7.out.below hb)
  have S8 := Lib.hid (S8.out.below hb)
  clear hb
  have S9 := Lib.hid hs
  have T9 := Lib.hid ht
  clear hs ht
  go_upto_region 4 with fail
  have ln2 := XA.out.lt
  have ln3 := XZ.out.lt
  have TB := Lib.hid (tab_on TB.out ((Below.refl _ _).alloc (Nat.le_refl _) (.cells #[.bool (nOf (0)), .slice A9 n9 c9, .bool (nOf (0)), .slice B9 m9 d9] 26)))
  have BW := Lib.hid (BW.out.alloc BW.out.size (.cells #[.bool (nOf (0)), .slice A9 n9 c9, .bool (nOf (0)), .slice B9 m9 d9] 26))
  have S3 := Lib.hid (S3.out.alloc (.cells #[.bool (nOf (0)), .slice A9 n9 c9, .bool (nOf (0)), .slice B9 m9 d9] 26))
  have T3 := Lib.hid (T3.out.alloc (.cells #[.bool (nOf (0)), .slice A9 n9 c9, .bool (nOf (0)), .slice B9 m9 d9] 26))
  have XA := Lib.hid (XA.out.alloc (.cells #[.bool (nOf (0)), .slice A9 n9 c9, .bool (nOf (0)), .slice B9 m9 d9] 26))
  have S6 := Lib.hid (S6.out.alloc (.cells #[.bool (nOf (0)), .slice A9 n9 c9, .bool (nOf (0)), .slice B9 m9 d9] 26))
  have T6 := Lib.hid (T6.out.alloc (.cells #[.bool (nOf (0)), .slice A9 n9 c9, .bool (nOf (0)), .slice B9 m9 d9] 26))
  have XZ := Lib.hid (XZ.out.alloc (.cells #[.bool (nOf (0)), .slice A9 n9 c9, .bool (nOf (0)), .slice B9 m9 d9] 26))
  have S7 := Lib.hid (S7.out.alloc (.cells #[.bool (nOf (0)), .slice A9 n9 c9, .bool (nOf (0)), .slice B9 m9 d9] 26))
  have S8 := Lib.hid (S8.out.alloc (.cells #[.bool (nOf (0)), .slice A9 n9 c9, .bool (nOf (0)), .slice B9 m9 d9] 26))
  have S9 := Lib.hid (S9.out.alloc (.cells #[.bool (nOf (0)), .slice A9 n9 c9, .bool (nOf (0)), .slice B9 m9 d9] 26))
  have T9 := Lib.hid (T9.out.alloc (.cells #[.bool (nOf (0)), .slice A9 n9 c9, .bool (nOf (0)), .slice B9 m9 d9] 26))
  have XN := Lib.hid (Bk.new 26 w9 #[.bool (nOf (0)), .slice A9 n9 c9, .bool (nOf (0)), .slice B9 m9 d9])
  generalize (w9.alloc (.cells #[.bool (nOf (0)), .slice A9 n9 c9, .bool (nOf (0)), .slice B9 m9 d9] 26)) = V4 at *
  clear S7 S8
  clear S9 T9
  go_wp2_with fail
  ((with_reducible refine (lfrac_any (1) (6) _ (by omega) (by omega) (by omega) (by omega)).mono ?_); rintro e w10 ⟨A10, n10, c10, B10, m10, d10, rfl, hs, ht, hb⟩)
  have TB := Lib.hid (tab_on TB.out hb)
  have BW := Lib.hid (below_on BW.out hb)
  have S3 := Lib.hid (S3.out.below hb)
  have T3 := Lib.hid (T3.out.below hb)
  have XA := Lib.hid (XA.out.below hb)
  have S6 := Lib.hid (S6.out.below hb)
  have T6 := Lib.hid (T6.out.below hb)
  have XZ := Lib.hid (XZ.out.below hb)
  have XN := Lib.hid (XN.out.below hb)
  clear hb
  have S10 := Lib.hid hs
  have T10 := Lib.hid ht
  clear hs ht
  go_wp2_with fail
  ((with_reducible refine (lfrac_any (1) (3) _ (by omega) (by omega) (by omega) (by omega)).mono ?_); rintro e w11 ⟨A11, n11, c11, B11, m11, d11, rfl, hs, ht, hb⟩)
  have TB := Lib.hid (tab_on TB.out hb)
  have BW := Lib.hid (below_on BW.out hb)
  have S3 := Lib.hid (S3.out.below hb)
  have T3 := Lib.hid (T3.out.below hb)
  have XA := Lib.hid (XA.out.below hb)
  have S6 := Lib.hid (S6.out.below hb)
  have T6 := Lib.hid (T6.out.below hb)
  have XZ := Lib.hid (XZ.out.below hb)
  have XN := Lib.hid (XN.out.below hb)
  have S10 := Lib.hid (S10.out.below hb)
  have T10 := Lib.hid (T10.out.below hb)
  clear hb
  have S11 := Lib.hid hs
  have T11 := Lib.hid ht
  clear hs ht
  go_wp2_with fail
  ((with_reducible refine (radd_ok (1) (6) (1) (3) (1) (6) (1) (3) (1) (2) true A10 B10 A11 B11 n10 c10 m10 d10 n11 c11 m11 d11 _ S10.out T10.out S11.out T11.out (fr_of (Fr.small (p := 1) (q := 6) (by omega) (by omega) (by omega) (by omega) (by decide))).1 (fr_of (Fr.small (p := 1) (q := 6) (by omega) (by omega) (by omega) (by omega) (by decide))).2 (fr_of (Fr.small (p := 1) (q := 3) (by omega) (by omega) (by omega) (by omega) (by decide))).1 (fr_of (Fr.small (p := 1) (q := 3) (by omega) (by omega) (by omega) (by omega) (by decide))).2 (res_ex (p := 1 * 3 + 1 * 6) (q := 6 * 3) (n := 1) (d := 2) (by omega) (by omega) (by decide) (by decide) (fit_small (by omega) (by omega)) (fit_small (by omega) (by omega))).1 (res_ex (p := 1 * 3 + 1 * 6) (q := 6 * 3) (n := 1) (d := 2) (by omega) (by omega) (by decide) (by decide) (fit_small (by omega) (by omega)) (fit_small (by omega) (by omega))).2.1 (res_ex (p := 1 * 3 + 1 * 6) (q := 6 * 3) (n := 1) (d := 2) (by omega) (by omega) (by decide) (by decide) (fit_small (by omega) (by omega)) (fit_small (by omega) (by omega))).2.2).mono ?_); rintro e w12 ⟨A12, n12, c12, B12, m12, d12, rfl, hs, ht, hb⟩)
  have TB := Lib.hid (tab_on TB.out hb)
  have BW := Lib.hid (below_on BW.out hb)
  have S3 := Lib.hid (S3.out.below hb)
  have T3 := Lib.hid (T3.out.below hb)
  have XA := Lib.hid (XA.out.below hb)
  have S6 := Lib.hid (S6.out.below hb)
  have T6 := Lib.hid (T6.out.below hb)
  have XZ := Lib.hid (XZ.out.below hb)
  have XN := Lib.hid (XN.out.below hb)
  have S10 := Lib.hid (S10.out.below hb)
  have T10 := Lib.hid (T10.out.below hb)
  have S11 := Lib.hid (S11.out.below hb)
  have T11 := Lib.hid (T11.out.below hb)
  clear hb
  have S12 := Lib.hid hs
  have T12 := Lib.hid ht
  clear hs ht
  go_upto_region 5 with fail
  have ln4 := XA.out.lt
  have ln5 := XZ.out.lt
  have ln6 := XN.out.lt
  have TB := Lib.hid (tab_on TB.out ((Below.refl _ _).alloc (Nat.le_refl _) (.cells #[.bool (nOf (1)), .slice A12 n12 c12, .bool (nOf (2)), .slice B12 m12 d12] 26)))
  have BW := Lib.hid (BW.out.alloc BW.out.size (.cells #[.bool (nOf (1)), .slice A12 n12 c12, .bool (nOf (2)), .slice B12 m12 d12] 26))
  have S3 := Lib.hid (S3.out.alloc (.cells #[.bool (nOf (1)), .slice A12 n12 c12, .bool (nOf (2)), .slice B12 m12 d12] 26))
  have T3 := Lib.hid (T3.out.alloc (.cells #[.bool (nOf (1)), .slice A12 n12 c12, .bool (nOf (2)), .slice B12 m12 d12] 26))
  have XA := Lib.hid (XA.out.alloc (.cells #[.bool (nOf (1)), .slice A12 n12 c12, .bool (nOf (2)), .slice B12 m12 d12] 26))
  have S6 := Lib.hid (S6.out.alloc (.cells #[.bool (nOf (1)), .slice A12 n12 c12, .bool (nOf (2)), .slice B12 m12 d12] 26))
  have T6 := Lib.hid (T6.out.alloc (.cells #[.bool (nOf (1)), .slice A12 n12 c12, .bool (nOf (2)), .slice B12 m12 d12] 26))
  have XZ := Lib.hid (XZ.out.alloc (.cells #[.bool (nOf (1)), .slice A12 n12 c12, .bool (nOf (2)), .slice B12 m12 d12] 26))
  have XN := Lib.hid (XN.out.alloc (.cells #[.bool (nOf (1)), .slice A12 n12 c12, .bool (nOf (2)), .slice B12 m12 d12] 26))
  have S10 := Lib.hid (S10.out.alloc (.cells #[.bool (nOf (1)), .slice A12 n12 c12, .bool (nOf (2)), .slice B12 m12 d12] 26))
  have T10 := Lib.hid (T10.out.alloc (.cells #[.bool (nOf (1)), .slice A12 n12 c12, .bool (nOf (2)), .slice B12 m12 d12] 26))
  have S11 := Lib.hid (S11.out.alloc (.cells #[.bool (nOf (1)), .slice A12 n12 c12, .bool (nOf (2)), .slice B12 m12 d12] 26))
  have T11 := Lib.hid (T11.out.alloc (.cells #[.bool (nOf (1)), .slice A12 n12 c12, .bool (nOf (2)), .slice B12 m12 d12] 26))
  have S12 := Lib.hid (S12.out.alloc (.cells #[.bool (nOf (1)), .slice A12 n12 c12, .bool (nOf (2)), .slice B12 m12 d12] 26))
  have T12 := Lib.hid (T12.out.alloc (.cells #[.bool (nOf (1)), .slice A12 n12 c12, .bool (nOf (2)), .slice B12 m12 d12] 26))
  have XS := Lib.hid (Bk.new 26 w12 #[.bool (nOf (1)), .slice A12 n12 c12, .bool (nOf (2)), .slice B12 m12 d12])
  generalize (w12.alloc (.cells #[.bool (nOf (1)), .slice A12 n12 c12, .bool (nOf (2)), .slice B12 m12 d12] 26)) = V5 at *
  clear S10 T10 S11 T11
  go_wp2_with fail
  ((with_reducible refine (lfrac_any (1) (2) _ (by omega) (by omega) (by omega) (by omega)).mono ?_); rintro e w13 ⟨A13, n13, c13, B13, m13, d13, rfl, hs, ht, hb⟩)
  have TB := Lib.hid (tab_on TB.out hb)
  have BW := Lib.hid (below_on BW.out hb)
  have S3 := Lib.hid (S3.out.below hb)
  have T3 := Lib.hid (T3.out.below hb)
  have XA := Lib.hid (XA.out.below hb)
  have S6 := Lib.hid (S6.out.below hb)
  have T6 := Lib.hid (T6.out.below hb)
  have XZ := Lib.hid (XZ.out.below hb)
  have XN := Lib.hid (XN.out.below hb)
  have S12 := Lib.hid (S12.out.below hb)
  have T12 := Lib.hid (T12.out.below hb)
  have XS := Lib.hid (XS.out.below hb)
  clear hb
  have S13 := Lib.hid hs
  have T13 := Lib.hid ht
  clear hs ht
  go_wp2_with fail
  ((with_reducible refine (lfrac_any (-1) (4) _ (by omega) (by omega) (by omega) (by omega)).mono ?_); rintro e w14 ⟨A14, n14, c14, B14, m14, d14, rfl, hs, ht, hb⟩)
  have TB := Lib.hid (tab_on TB.out hb)
  have BW := Lib.hid (below_on BW.out hb)
  have S3 := Lib.hid (S3.out.below hb)
  have T3 := Lib.hid (T3.out.below hb)
  have XA := Lib.hid (XA.out.below hb)
  have S6 := Lib.hid (S6.out.below hb)
  have T6 := Lib.hid (T6.out.below hb)
  have XZ := Lib.hid (XZ.out.below hb)
  have XN := Lib.hid (XN.out.below hb)
  have S12 := Lib.hid (S12.out.below hb)
  have T12 := Lib.hid (T12.out.below hb)
  have XS := Lib.hid (XS.out.below hb)
  have S13 := Lib.hid (S13.out.below hb)
  have T13 := Lib.hid (T13.out.below hb)
  clear hb
  have S14 := Lib.hid hs
  have T14 := Lib.hid ht
  clear hs ht
  go_wp2_with fail
  ((with_reducible refine (rdiv_ok (1) (2) (-1) (4) (1) (2) (-1) (4) (-2) (1) true A13 B13 A14 B14 n13 c13 m13 d13 n14 c14 m14 d14 _ S13.out T13.out S14.out T14.out (fr_of (Fr.small (p := 1) (q := 2) (by omega) (by omega) (by omega) (by omega) (by decide))).1 (fr_of (Fr.small (p := 1) (q := 2) (by omega) (by omega) (by omega) (by omega) (by decide))).2 (fr_of (Fr.small (p := -1) (q := 4) (by omega) (by omega) (by omega) (by omega) (by decide))).1 (fr_of (Fr.small (p := -1) (q := 4) (by omega) (by omega) (by omega) (by omega) (by decide))).2 (res_ex (p := 1 * 4) (q := 2 * (-1)) (n := -2) (d := 1) (by omega) (by omega) (by decide) (by decide) (fit_small (by omega) (by omega)) (fit_small (by omega) (by omega))).1 (res_ex (p := 1 * 4) (q := 2 * (-1)) (n := -2) (d := 1) (by omega) (by omega) (by decide) (by decide) (fit_small (by omega) (by omega)) (fit_small (by omega) (by omega))).2.1 (res_ex (p := 1 * 4) (q := 2 * (-1)) (n := -2) (d := 1) (by omega) (by omega) (by decide) (by decide) (fit_small (by omega) (by omega)) (fit_small (by omega) (by omega))).2.2).mono ?_); rintro e w15 ⟨A15, n15, c15, B15, m15, d15, rfl, hs, ht, hb⟩)
  have TB := Lib.hid (tab_on TB.out hb)
  have BW := Lib.hid (below_on BW.out hb)
  have S3 := Lib.hid (S3.out.below hb)
  have T3 := Lib.hid (T3.out.below hb)
  have XA := Lib.hid (XA.out.below hb)
  have S6 := Lib.hid (S6.out.below hb)
  have T6 := Lib.hid (T6.out.below hb)
  have XZ := Lib.hid (XZ.out.below hb)
  have XN := Lib.hid (XN.out.below hb)
  have S12 := Lib.hid (S12.out.below hb)
  have T12 := Lib.hid (T12.out.below hb)
  have XS := Lib.hid (XS.out.below hb)
  have S13 := Lib.hid (S13.out.below hb)
  have T13 := Lib.hid (T13.out.below hb)
  have S14 := Lib.hid (S14.out.below hb)
  have T14 := Lib.hid (T14.out.below hb)
  clear hb
  have S15 := Lib.hid hs
  have T15 := Lib.hid ht
  clear hs ht
  go_upto_region 6 with fail
  have ln7 := XA.out.lt
  have ln8 := XZ.out.lt
  have ln9 := XN.out.lt
  have ln10 := XS.out.lt
  have TB := Lib.hid (tab_on TB.out ((Below.refl _ _).alloc (Nat.le_refl _) (.cells #[.bool (nOf (-2)), .slice A15 n15 c15, .bool (nOf (1)), .slice B15 m15 d15] 26)))
  have BW := Lib.hid (BW.out.alloc BW.out.size (.cells #[.bool (nOf (-2)), .slice A15 n15 c15, .bool (nOf (1)), .slice B15 m15 d15] 26))
  have S3 := Lib.hid (S3.out.alloc (.cells #[.bool (nOf (-2)), .slice A15 n15 c15, .bool (nOf (1)), .slice B15 m15 d15] 26))
  have T3 := Lib.hid (T3.out.alloc (.cells #[.bool (nOf (-2)), .slice A15 n15 c15, .bool (nOf (1)), .slice B15 m15 d15] 26))
  have XA := Lib.hid (XA.out.alloc (.cells #[.bool (nOf (-2)), .slice A15 n15 c15, .bool (nOf (1)), .slice B15 m15 d15] 26))
  have S6 := Lib.hid (S6.out.alloc (.cells #[.bool (nOf (-2)), .slice A15 n15 c15, .bool (nOf (1)), .slice B15 m15 d15] 26))
  have T6 := Lib.hid (T6.out.alloc (.cells #[.bool (nOf (-2)), .slice A15 n15 c15, .bool (nOf (1)), .slice B15 m15 d15] 26))
  have XZ := Lib.hid (XZ.out.alloc (.cells #[.bool (nOf (-2)), .slice A15 n15 c15, .bool (nOf (1)), .slice B15 m15 d15] 26))
  have XN := Lib.hid (XN.out.alloc (.cells #[.bool (nOf (-2)), .slice A15 n15 c15, .bool (nOf (1)), .slice B15 m15 d15] 26))
  have S12 := Lib.hid (S12.out.alloc (.cells #[.bool (nOf (-2)), .slice A15 n15 c15, .bool (nOf (1)), .slice B15 m15 d15] 26))
  have T12 := Lib.hid (T12.out.alloc (.cells #[.bool (nOf (-2)), .slice A15 n15 c15, .bool (nOf (1)), .slice B15 m15 d15] 26))
  have XS := Lib.hid (XS.out.alloc (.cells #[.bool (nOf (-2)), .slice A15 n15 c15, .bool (nOf (1)), .slice B15 m15 d15] 26))
  have S13 := Lib.hid (S13.out.alloc (.cells #[.bool (nOf (-2)), .slice A15 n15 c15, .bool (nOf (1)), .slice B15 m15 d15] 26))
  have T13 := Lib.hid (T13.out.alloc (.cells #[.bool (nOf (-2)), .slice A15 n15 c15, .bool (nOf (1)), .slice B15 m15 d15] 26))
  have S14 := Lib.hid (S14.out.alloc (.cells #[.bool (nOf (-2)), .slice A15 n15 c15, .bool (nOf (1)), .slice B15 m15 d15] 26))
  have T14 := Lib.hid (T14.out.alloc (.cells #[.bool (nOf (-2)), .slice A15 n15 c15, .bool (nOf (1)), .slice B15 m15 d15] 26))
  have S15 := Lib.hid (S15.out.alloc (.cells #[.bool (nOf (-2)), .slice A15 n15 c15, .bool (nOf (1)), .slice B15 m15 d15] 26))
  have T15 := Lib.hid (T15.out.alloc (.cells #[.bool (nOf (-2)), .slice A15 n15 c15, .bool (nOf (1)), .slice B15 m15 d15] 26))
  have XQ := Lib.hid (Bk.new 26 w15 #[.bool (nOf (-2)), .slice A15 n15 c15, .bool (nOf (1)), .slice B15 m15 d15])
  generalize (w15.alloc (.cells #[.bool (nOf (-2)), .slice A15 n15 c15, .bool (nOf (1)), .slice B15 m15 d15] 26)) = V6 at *
  clear S13 T13 S14 T14
  go_wp2_with fail
  ((with_reducible refine (lfrac_any (2) (4) _ (by omega) (by omega) (by omega) (by omega)).mono ?_); rintro e w16 ⟨A16, n16, c16, B16, m16, d16, rfl, hs, ht, hb⟩)
  have TB := Lib.hid (tab_on TB.out hb)
  have BW := Lib.hid (below_on BW.out hb)
  have S3 := Lib.hid (S3.out.below hb)
  have T3 := Lib.hid (T3.out.below hb)
  have XA := Lib.hid (XA.out.below hb)
  have S6 := Lib.hid (S6.out.below hb)
  have T6 := Lib.hid (T6.out.below hb)
  have XZ := Lib.hid (XZ.out.below hb)
  have XN := Lib.hid (XN.out.below hb)
  have S12 := Lib.hid (S12.out.below hb)
  have T12 := Lib.hid (T12.out.below hb)
  have XS := Lib.hid (XS.out.below hb)
  have S15 := Lib.hid (S15.out.below hb)
  have T15 := Lib.hid (T15.out.below hb)
  have XQ := Lib.hid (XQ.out.below hb)
  clear hb
  have S16 := Lib.hid hs
  have T16 := Lib.hid ht
  clear hs ht
  go_wp2_with fail
  ((with_reducible refine (lfrac_any (1) (1) _ (by omega) (by omega) (by omega) (by omega)).mono ?_); rintro e w17 ⟨A17, n17, c17, B17, m17, d17, rfl, hs, ht, hb⟩)
  have TB := Lib.hid (tab_on TB.out hb)
  have BW := Lib.hid (below_on BW.out hb)
  have S3 := Lib.hid (S3.out.below hb)
  have T3 := Lib.hid (T3.out.below hb)
  have XA := Lib.hid (XA.out.below hb)
  have S6 := Lib.hid (S6.out.below hb)
  have T6 := Lib.hid (T6.out.below hb)
  have XZ := Lib.hid (XZ.out.below hb)
  have XN := Lib.hid (XN.out.below hb)
  have S12 := Lib.hid (S12.out.below hb)
  have T12 := Lib.hid (T12.out.below hb)
  have XS := Lib.hid (XS.out.below hb)
  have S15 := Lib.hid (S15.out.below hb)
  have T15 := Lib.hid (T15.out.below hb)
  have XQ := Lib.hid (XQ.out.below hb)
  have S16 := Lib.hid (S16.out.below hb)
  have T16 := Lib.hid (T16.out.below hb)
  clear hb
  have S17 := Lib.hid hs
  have T17 := Lib.hid ht
  clear hs ht
  go_wp2_with fail
  ((with_reducible refine (radd_ok (2) (4) (1) (1) (0) (1) (1) (1) (1) (1) true A16 B16 A17 B17 n16 c16 m16 d16 n17 c17 m17 d17 _ S16.out T16.out S17.out T17.out (fr_invalid notfr_24).1 (fr_invalid notfr_24).2 (fr_of (Fr.small (p := 1) (q := 1) (by omega) (by omega) (by omega) (by omega) (by decide))).1 (fr_of (Fr.small (p := 1) (q := 1) (by omega) (by omega) (by omega) (by omega) (by decide))).2 (res_ex (p := 0 * 1 + 1 * 1) (q := 1 * 1) (n := 1) (d := 1) (by omega) (by omega) (by decide) (by decide) (fit_small (by omega) (by omega)) (fit_small (by omega) (by omega))).1 (res_ex (p := 0 * 1 + 1 * 1) (q := 1 * 1) (n := 1) (d := 1) (by omega) (by omega) (by decide) (by decide) (fit_small (by omega) (by omega)) (fit_small (by omega) (by omega))).2.1 (res_ex (p := 0 * 1 + 1 * 1) (q := 1 * 1) (n := 1) (d := 1) (by omega) (by omega) (by decide) (by decide) (fit_small (by omega) (by omega)) (fit_small (by omega) (by omega))).2.2).mono ?_); rintro e w18 ⟨A18, n18, c18, B18, m18, d18, rfl, hs, ht, hb⟩)
  have TB := Lib.hid (tab_on TB.out hb)
  have BW := Lib.hid (below_on BW.out hb)
  have S3 := Lib.hid (S3.out.below hb)
  have T3 := Lib.hid (T3.out.below hb)
  have XA := Lib.hid (XA.out.below hb)
  have S6 := Lib.hid (S6.out.below hb)
  have T6 := Lib.hid (T6.out.below hb)
  have XZ := Lib.hid (XZ.out.below hb)
  have XN := Lib.hid (XN.out.below hb)
  have S12 := Lib.hid (S12.out.below hb)
  have T12 := Lib.hid (T12.out.below hb)
  have XS := Lib.hid (XS.out.below hb)
  have S15 := Lib.hid (S15.out.below hb)
  have T15 := Lib.hid (T15.out.below hb)
  have XQ := Lib.hid (XQ.out.below hb)
  have S16 := Lib.hid (S16.out.below hb)
  have T16 := Lib.hid (T16.out.below hb)
  have S17 := Lib.hid (S17.out.below hb)
  have T17 := Lib.hid (T17.out.below hb)
  clear hb
  have S18 := Lib.hid hs
  have T18 := Lib.hid ht
  clear hs ht
  go_upto_region 7 with fail
  have ln11 := XA.out.lt
  have ln12 := XZ.out.lt
  have ln13 := XN.out.lt
  have ln14 := XS.out.lt
  have ln15 := XQ.out.lt
  have TB := Lib.hid (tab_on TB.out ((Below.refl _ _).alloc (Nat.le_refl _) (.cells #[.bool (nOf (1)), .slice A18 n18 c18, .bool (nOf (1)), .slice B18 m18 d18] 26)))
  have BW := Lib.hid (BW.out.alloc BW.out.size (.cells #[.bool (nOf (1)), .slice A18 n18 c18, .bool (nOf (1)), .slice B18 m18 d18] 26))
  have S3 := Lib.hid (S3.out.alloc (.cells #[.bool (nOf (1)), .slice A18 n18 c18, .bool (nOf (1)), .slice B18 m18 d18] 26))
  have T3 := Lib.hid (T3.out.alloc (.cells #[.bool (nOf (1)), .slice A18 n18 c18, .bool (nOf (1)), .slice B18 m18 d18] 26))
  have XA := Lib.hid (XA.out.alloc (.cells #[.bool (nOf (1)), .slice A18 n18 c18, .bool (nOf (1)), .slice B18 m18 d18] 26))
  have S6 := Lib.hid (S6.out.alloc (.cells #[.bool (nOf (1)), .slice A18 n18 c18, .bool (nOf (1)), .slice B18 m18 d18] 26))
  have T6 := Lib.hid (T6.out.alloc (.cells #[.bool (nOf (1)), .slice A18 n18 c18, .bool (nOf (1)), .slice B18 m18 d18] 26))
  have XZ := Lib.hid (XZ.out.alloc (.cells #[.bool (nOf (1)), .slice A18 n18 c18, .bool (nOf (1)), .slice B18 m18 d18] 26))
  have XN := Lib.hid (XN.out.alloc (.cells #[.bool (nOf (1)), .slice A18 n18 c18, .bool (nOf (1)), .slice B18 m18 d18] 26))
  have S12 := Lib.hid (S12.out.alloc (.cells #[.bool (nOf (1)), .slice A18 n18 c18, .bool (nOf (1)), .slice B18 m18 d18] 26))
  have T12 := Lib.hid (T12.out.alloc (.cells #[.bool (nOf (1)), .slice A18 n18 c18, .bool (nOf (1)), .slice B18 m18 d18] 26))
  have XS := Lib.hid (XS.out.alloc (.cells #[.bool (nOf (1)), .slice A18 n18 c18, .bool (nOf (1)), .slice B18 m18 d18] 26))
  have S15 := Lib.hid (S15.out.alloc (.cells #[.bool (nOf (1)), .slice A18 n18 c18, .bool (nOf (1)), .slice B18 m18 d18] 26))
  have T15 := Lib.hid (T15.out.alloc (.cells #[.bool (nOf (1)), .slice A18 n18 c18, .bool (nOf (1)), .slice B18 m18 d18] 26))
  have XQ := Lib.hid (XQ.out.alloc (.cells #[.bool (nOf (1)), .slice A18 n18 c18, .bool (nOf (1)), .slice B18 m18 d18] 26))
  have S16 := Lib.hid (S16.out.alloc (.cells #[.bool (nOf (1)), .slice A18 n18 c18, .bool (nOf (1)), .slice B18 m18 d18] 26))
  have T16 := Lib.hid (T16.out.alloc (.cells #[.bool (nOf (1)), .slice A18 n18 c18, .bool (nOf (1)), .slice B18 m18 d18] 26))
  have S17 := Lib.hid (S17.out.alloc (.cells #[.bool (nOf (1)), .slice A18 n18 c18, .bool (nOf (1)), .slice B18 m18 d18] 26))
  have T17 := Lib.hid (T17.out.alloc (.cells #[.bool (nOf (1)), .slice A18 n18 c18, .bool (nOf (1)), .slice B18 m18 d18] 26))
  have S18 := Lib.hid (S18.out.alloc (.cells #[.bool (nOf (1)), .slice A18 n18 c18, .bool (nOf (1)), .slice B18 m18 d18] 26))
  have T18 := Lib.hid (T18.out.alloc (.cells #[.bool (nOf (1)), .slice A18 n18 c18, .bool (nOf (1)), .slice B18 m18 d18] 26))
  have XT := Lib.hid (Bk.new 26 w18 #[.bool (nOf (1)), .slice A18 n18 c18, .bool (nOf (1)), .slice B18 m18 d18])
  generalize (w18.alloc (.cells #[.bool (nOf (1)), .slice A18 n18 c18, .bool (nOf (1)), .slice B18 m18 d18] 26)) = V7 at *
  clear S16 T16 S17 T17
  go_wp2_with fail
  ((with_reducible refine (lfrac_any (1) (2) _ (by omega) (by omega) (by omega) (by omega)).mono ?_); rintro e w19 ⟨A19, n19, c19, B19, m19, d19, rfl, hs, ht, hb⟩)
  have TB := Lib.hid (tab_on TB.out hb)
  have BW := Lib.hid (below_on BW.out hb)
  have S3 := Lib.hid (S3.out.below hb)
  have T3 := Lib.hid (T3.out.below hb)
  have XA := Lib.hid (XA.out.below hb)
  have S6 := Lib.hid (S6.out.below hb)
  have T6 := Lib.hid (T6.out.below hb)
  have XZ := Lib.hid (XZ.out.below hb)
  have XN := Lib.hid (XN.out.below hb)
  have S12 := Lib.hid (S12.out.below hb)
  have T12 := Lib.hid (T12.out.below hb)
  have XS := Lib.hid (XS.out.below hb)
  have S15 := Lib.hid (S15.out.below hb)
  have T15 := Lib.hid (T15.out.below hb)
  have XQ := Lib.hid (XQ.out.below hb)
  have S18 := Lib.hid (S18.out.below hb)
  have T18 := Lib.hid (T18.out.below hb)
  have XT := Lib.hid (XT.out.below hb)
  clear hb
  have S19 := Lib.hid hs
  have T19 := Lib.hid ht
  clear hs ht
  go_wp2_with fail
  ((with_reducible refine (lfrac_any (0) (1) _ (by omega) (by omega) (by omega) (by omega)).mono ?_); rintro e w20 ⟨A20, n20, c20, B20, m20, d20, rfl, hs, ht, hb⟩)
  have TB := Lib.hid (tab_on TB.out hb)
  have BW := Lib.hid (below_on BW.out hb)
  have S3 := Lib.hid (S3.out.below hb)
  have T3 := Lib.hid (T3.out.below hb)
  have XA := Lib.hid (XA.out.below hb)
  have S6 := Lib.hid (S6.out.below hb)
  have T6 := Lib.hid (T6.out.below hb)
  have XZ := Lib.hid (XZ.out.below hb)
  have XN := Lib.hid (XN.out.below hb)
  have S12 := Lib.hid (S12.out.below hb)
  have T12 := Lib.hid (T12.out.below hb)
  have XS := Lib.hid (XS.out.below hb)
  have S15 := Lib.hid (S15.out.below hb)
  have T15 := Lib.hid (T15.out.below hb)
  have XQ := Lib.hid (XQ.out.below hb)
  have S18 := Lib.hid (S18.out.below hb)
  have T18 := Lib.hid (T18.out.below hb)
  have XT := Lib.hid (XT.out.below hb)
  have S19 := Lib.hid (S19.out.below hb)
  have T19 := Lib.hid (T19.out.below hb)
  clear hb
  have S20 := Lib.hid hs
  have T20 := Lib.hid ht
  clear hs ht
  go_wp2_with fail
  ((with_reducible refine (rdiv_ok (1) (2) (0) (1) (1) (2) (0) (1) (0) (0) false A19 B19 A20 B20 n19 c19 m19 d19 n20 c20 m20 d20 _ S19.out T19.out S20.out T20.out (fr_of (Fr.small (p := 1) (q := 2) (by omega) (by omega) (by omega) (by omega) (by decide))).1 (fr_of (Fr.small (p := 1) (q := 2) (by omega) (by omega) (by omega) (by omega) (by decide))).2 (fr_of (Fr.small (p := 0) (q := 1) (by omega) (by omega) (by omega) (by omega) (by decide))).1 (fr_of (Fr.small (p := 0) (q := 1) (by omega) (by omega) (by omega) (by omega) (by decide))).2 (res_no (by decide)).1 (res_no (by decide)).2 (by decide)).mono ?_); rintro e w21 ⟨A21, n21, c21, B21, m21, d21, rfl, hs, ht, hb⟩)
  have TB := Lib.hid (tab_on TB.out hb)
  have BW := Lib.hid (below_on BW.out hb)
  have S3 := Lib.hid (S3.out.below hb)
  have T3 := Lib.hid (T3.out.below hb)
  have XA := Lib.hid (XA.out.below hb)
  have S6 := Lib.hid (S6.out.below hb)
  have T6 := Lib.hid (T6.out.below hb)
  have XZ := Lib.hid (XZ.out.below hb)
  have XN := Lib.hid (XN.out.below hb)
  have S12 := Lib.hid (S12.out.below hb)
  have T12 := Lib.hid (T12.out.below hb)
  have XS := Lib.hid (XS.out.below hb)
  have S15 := Lib.hid (S15.out.below hb)
  have T15 := Lib.hid (T15.out.below hb)
  have XQ := Lib.hid (XQ.out.below hb)
  have S18 := Lib.hid (S18.out.below hb)
  have T18 := Lib.hid (T18.out.below hb)
  have XT := Lib.hid (XT.out.below hb)
  have S19 := Lib.hid (S19.out.below hb)
  have T19 := Lib.hid (T19.out.below hb)
  have S20 := Lib.hid (S20.out.below hb)
  have T20 := Lib.hid (T20.out.below hb)
  clear hb
  have S21 := Lib.hid hs
  have T21 := Lib.hid ht
  clear hs ht
  go_upto_region 8 with fail
  have ln16 := XA.out.lt
  have ln17 := XZ.out.lt
  have ln18 := XN.out.lt
  have ln19 := XS.out.lt
  have ln20 := XQ.out.lt
  have ln21 := XT.out.lt
  have TB := Lib.hid (tab_on TB.out ((Below.refl _ _).alloc (Nat.le_refl _) (.cells #[.bool (nOf (0)), .slice A21 n21 c21, .bool (nOf (0)), .slice B21 m21 d21] 26)))
  have BW := Lib.hid (BW.out.alloc BW.out.size (.cells #[.bool (nOf (0)), .slice A21 n21 c21, .bool (nOf (0)), .slice B21 m21 d21] 26))
  have S3 := Lib.hid (S3.out.alloc (.cells #[.bool (nOf (0)), .slice A21 n21 c21, .bool (nOf (0)), .slice B21 m21 d21] 26))
  have T3 := Lib.hid (T3.out.alloc (.cells #[.bool (nOf (0)), .slice A21 n21 c21, .bool (nOf (0)), .slice B21 m21 d21] 26))
  have XA := Lib.hid (XA.out.alloc (.cells #[.bool (nOf (0)), .slice A21 n21 c21, .bool (nOf (0)), .slice B21 m21 d21] 26))
  have S6 := Lib.hid (S6.out.alloc (.cells #[.bool (nOf (0)), .slice A21 n21 c21, .bool (nOf (0)), .slice B21 m21 d21] 26))
  have T6 := Lib.hid (T6.out.alloc (.cells #[.bool (nOf (0)), .slice A21 n21 c21, .bool (nOf (0)), .slice B21 m21 d21] 26))
  have XZ := Lib.hid (XZ.out.alloc (.cells #[.bool (nOf (0)), .slice A21 n21 c21, .bool (nOf (0)), .slice B21 m21 d21] 26))
  have XN := Lib.hid (XN.out.alloc (.cells #[.bool (nOf (0)), .slice A21 n21 c21, .bool (nOf (0)), .slice B21 m21 d21] 26))
  have S12 := Lib.hid (S12.out.alloc (.cells #[.bool (nOf (0)), .slice A21 n21 c21, .bool (nOf (0)), .slice B21 m21 d21] 26))
  have T12 := Lib.hid (T12.out.alloc (.cells #[.bool (nOf (0)), .slice A21 n21 c21, .bool (nOf (0)), .slice B21 m21 d21] 26))
  have XS := Lib.hid (XS.out.alloc (.cells #[.bool (nOf (0)), .slice A21 n21 c21, .bool (nOf (0)), .slice B21 m21 d21] 26))
  have S15 := Lib.hid (S15.out.alloc (.cells #[.bool (nOf (0)), .slice A21 n21 c21, .bool (nOf (0)), .slice B21 m21 d21] 26))
  have T15 := Lib.hid (T15.out.alloc (.cells #[.bool (nOf (0)), .slice A21 n21 c21, .bool (nOf (0)), .slice B21 m21 d21] 26))
  have XQ := Lib.hid (XQ.out.alloc (.cells #[.bool (nOf (0)), .slice A21 n21 c21, .bool (nOf (0)), .slice B21 m21 d21] 26))
  have S18 := Lib.hid (S18.out.alloc (.cells #[.bool (nOf (0)), .slice A21 n21 c21, .bool (nOf (0)), .slice B21 m21 d21] 26))
  have T18 := Lib.hid (T18.out.alloc (.cells #[.bool (nOf (0)), .slice A21 n21 c21, .bool (nOf (0)), .slice B21 m21 d21] 26))
  have XT := Lib.hid (XT.out.alloc (.cells #[.bool (nOf (0)), .slice A21 n21 c21, .bool (nOf (0)), .slice B21 m21 d21] 26))
  have S19 := Lib.hid (S19.out.alloc (.cells #[.bool (nOf (0)), .slice A21 n21 c21, .bool (nOf (0)), .slice B21 m21 d21] 26))
  have T19 := Lib.hid (T19.out.alloc (.cells #[.bool (nOf (0)), .slice A21 n21 c21, .bool (nOf (0)), .slice B21 m21 d21] 26))
  have S20 := Lib.hid (S20.out.alloc (.cells #[.bool (nOf (0)), .slice A21 n21 c21, .bool (nOf (0)), .slice B21 m21 d21] 26))
  have T20 := Lib.hid (T20.out.alloc (.cells #[.bool (nOf (0)), .slice A21 n21 c21, .bool (nOf (0)), .slice B21 m21 d21] 26))
  have S21 := Lib.hid (S21.out.alloc (.cells #[.bool (nOf (0)), .slice A21 n21 c21, .bool (nOf (0)), .slice B21 m21 d21] 26))
  have T21 := Lib.hid (T21.out.alloc (.cells #[.bool (nOf (0)), .slice A21 n21 c21, .bool (nOf (0)), .slice B21 m21 d21] 26))
  have XD := Lib.hid (Bk.new 26 w21 #[.bool (nOf (0)), .slice A21 n21 c21, .bool (nOf (0)), .slice B21 m21 d21])
  generalize (w21.alloc (.cells #[.bool (nOf (0)), .slice A21 n21 c21, .bool (nOf (0)), .slice B21 m21 d21] 26)) = V8 at *
  clear S19 T19 S20 T20
  clear S21 T21 XD XN
  have e0 : V8.cell? ⟨w3.heap.size, 0, none⟩ = some (.bool (nOf (-3))) := XA.out.c 0 rfl
  have e1 : V8.cell? ⟨w3.heap.size, 1, none⟩ = some (.slice A3 n3 c3) := XA.out.c 1 rfl
  have e2 : V8.cell? ⟨w3.heap.size, 2, none⟩ = some (.bool (nOf (2))) := XA.out.c 2 rfl
  have e3 : V8.cell? ⟨w3.heap.size, 3, none⟩ = some (.slice B3 m3 d3) := XA.out.c 3 rfl
  have e4 : V8.cell? ⟨w6.heap.size, 0, none⟩ = some (.bool (nOf (0))) := XZ.out.c 0 rfl
  have e5 : V8.cell? ⟨w6.heap.size, 1, none⟩ = some (.slice A6 n6 c6) := XZ.out.c 1 rfl
  have e6 : V8.cell? ⟨w6.heap.size, 2, none⟩ = some (.bool (nOf (1))) := XZ.out.c 2 rfl
  have e7 : V8.cell? ⟨w6.heap.size, 3, none⟩ = some (.slice B6 m6 d6) := XZ.out.c 3 rfl
  have e8 : V8.cell? ⟨w12.heap.size, 0, none⟩ = some (.bool (nOf (1))) := XS.out.c 0 rfl
  have e9 : V8.cell? ⟨w12.heap.size, 1, none⟩ = some (.slice A12 n12 c12) := XS.out.c 1 rfl
  have e10 : V8.cell? ⟨w12.heap.size, 2, none⟩ = some (.bool (nOf (2))) := XS.out.c 2 rfl
  have e11 : V8.cell? ⟨w12.heap.size, 3, none⟩ = some (.slice B12 m12 d12) := XS.out.c 3 rfl
  have e12 : V8.cell? ⟨w15.heap.size, 0, none⟩ = some (.bool (nOf (-2))) := XQ.out.c 0 rfl
  have e13 : V8.cell? ⟨w15.heap.size, 1, none⟩ = some (.slice A15 n15 c15) := XQ.out.c 1 rfl
  have e14 : V8.cell? ⟨w15.heap.size, 2, none⟩ = some (.bool (nOf (1))) := XQ.out.c 2 rfl
  have e15 : V8.cell? ⟨w15.heap.size, 3, none⟩ = some (.slice B15 m15 d15) := XQ.out.c 3 rfl
  have e16 : V8.cell? ⟨w18.heap.size, 0, none⟩ = some (.bool (nOf (1))) := XT.out.c 0 rfl
  have e17 : V8.cell? ⟨w18.heap.size, 1, none⟩ = some (.slice A18 n18 c18) := XT.out.c 1 rfl
  have e18 : V8.cell? ⟨w18.heap.size, 2, none⟩ = some (.bool (nOf (1))) := XT.out.c 2 rfl
  have e19 : V8.cell? ⟨w18.heap.size, 3, none⟩ = some (.slice B18 m18 d18) := XT.out.c 3 rfl
  go_region_held3 (fun w' => w'.cell? ⟨w3.heap.size, 0, none⟩ = some (.bool (nOf (-3))) ∧ w'.cell? ⟨w3.heap.size, 1, none⟩ = some (.slice A3 n3 c3) ∧ w'.cell? ⟨w3.heap.size, 2, none⟩ = some (.bool (nOf (2))) ∧ w'.cell? ⟨w3.heap.size, 3, none⟩ = some (.slice B3 m3 d3) ∧ w'.cell? ⟨w6.heap.size, 0, none⟩ = some (.bool (nOf (0))) ∧ w'.cell? ⟨w6.heap.size, 1, none⟩ = some (.slice A6 n6 c6) ∧ w'.cell? ⟨w6.heap.size, 2, none⟩ = some (.bool (nOf (1))) ∧ w'.cell? ⟨w6.heap.size, 3, none⟩ = some (.slice B6 m6 d6) ∧ w'.cell? ⟨w12.heap.size, 0, none⟩ = some (.bool (nOf (1))) ∧ w'.cell? ⟨w12.heap.size, 1, none⟩ = some (.slice A12 n12 c12) ∧ w'.cell? ⟨w12.heap.size, 2, none⟩ = some (.bool (nOf (2))) ∧ w'.cell? ⟨w12.heap.size, 3, none⟩ = some (.slice B12 m12 d12) ∧ w'.cell? ⟨w15.heap.size, 0, none⟩ = some (.bool (nOf (-2))) ∧ w'.cell? ⟨w15.heap.size, 1, none⟩ = some (.slice A15 n15 c15) ∧ w'.cell? ⟨w15.heap.size, 2, none⟩ = some (.bool (nOf (1))) ∧ w'.cell? ⟨w15.heap.size, 3, none⟩ = some (.slice B15 m15 d15) ∧ w'.cell? ⟨w18.heap.size, 0, none⟩ = some (.bool (nOf (1))) ∧ w'.cell? ⟨w18.heap.size, 1, none⟩ = some (.slice A18 n18 c18) ∧ w'.cell? ⟨w18.heap.size, 2, none⟩ = some (.bool (nOf (1))) ∧ w'.cell? ⟨w18.heap.size, 3, none⟩ = some (.slice B18 m18 d18)) (go_keep)
    (first | (go_at_call 24; (with_reducible refine (lfrac_any (-3) (2) _ (by omega) (by omega) (by omega) (by omega)).mono ?_); rintro e a1 ⟨G1, g1, h1, I1, i1, j1, rfl, hs, ht, hb⟩; have BB1 := Lib.hid (show Below V8.heap.size V8 a1 from (by first | exact hb | exact (Below.refl _ _).drew.trans (hb.mono (Nat.le_refl _)))); have U1 := Lib.hid hs; clear hs; have V1 := Lib.hid ht; clear ht; have f0 : a1.cell? ⟨w3.heap.size, 0, none⟩ = some (.bool (nOf (-3))) := (XA.out.below BB1.out).c 0 rfl; have f1 : a1.cell? ⟨w3.heap.size, 1, none⟩ = some (.slice A3 n3 c3) := (XA.out.below BB1.out).c 1 rfl; have f2 : a1.cell? ⟨w3.heap.size, 2, none⟩ = some (.bool (nOf (2))) := (XA.out.below BB1.out).c 2 rfl; have f3 : a1.cell? ⟨w3.heap.size, 3, none⟩ = some (.slice B3 m3 d3) := (XA.out.below BB1.out).c 3 rfl; have f4 : a1.cell? ⟨w6.heap.size, 0, none⟩ = some (.bool (nOf (0))) := (XZ.out.below BB1.out).c 0 rfl; have f5 : a1.cell? ⟨w6.heap.size, 1, none⟩ = some (.slice A6 n6 c6) := (XZ.out.below BB1.out).c 1 rfl; have f6 : a1.cell? ⟨w6.heap.size, 2, none⟩ = some (.bool (nOf (1))) := (XZ.out.below BB1.out).c 2 rfl; have f7 : a1.cell? ⟨w6.heap.size, 3, none⟩ = some (.slice B6 m6 d6) := (XZ.out.below BB1.out).c 3 rfl; have f8 : a1.cell? ⟨w12.heap.size, 0, none⟩ = some (.bool (nOf (1))) := (XS.out.below BB1.out).c 0 rfl; have f9 : a1.cell? ⟨w12.heap.size, 1, none⟩ = some (.slice A12 n12 c12) := (XS.out.below BB1.out).c 1 rfl; have f10 : a1.cell? ⟨w12.heap.size, 2, none⟩ = some (.bool (nOf (2))) := (XS.out.below BB1.out).c 2 rfl; have f11 : a1.cell? ⟨w12.heap.size, 3, none⟩ = some (.slice B12 m12 d12) := (XS.out.below BB1.out).c 3 rfl; have f12 : a1.cell? ⟨w15.heap.size, 0, none⟩ = some (.bool (nOf (-2))) := (XQ.out.below BB1.out).c 0 rfl; have f13 : a1.cell? ⟨w15.heap.size, 1, none⟩ = some (.slice A15 n15 c15) := (XQ.out.below BB1.out).c 1 rfl; have f14 : a1.cell? ⟨w15.heap.size, 2, none⟩ = some (.bool (nOf (1))) := (XQ.out.below BB1.out).c 2 rfl; have f15 : a1.cell? ⟨w15.heap.size, 3, none⟩ = some (.slice B15 m15 d15) := (XQ.out.below BB1.out).c 3 rfl; have f16 : a1.cell? ⟨w18.heap.size, 0, none⟩ = some (.bool (nOf (1))) := (XT.out.below BB1.out).c 0 rfl; have f17 : a1.cell? ⟨w18.heap.size, 1, none⟩ = some (.slice A18 n18 c18) := (XT.out.below BB1.out).c 1 rfl; have f18 : a1.cell? ⟨w18.heap.size, 2, none⟩ = some (.bool (nOf (1))) := (XT.out.below BB1.out).c 2 rfl; have f19 : a1.cell? ⟨w18.heap.size, 3, none⟩ = some (.slice B18 m18 d18) := (XT.out.below BB1.out).c 3 rfl; clear hb) | (go_at_call 11; (with_reducible refine (samer_ok (-3) (2) (-3) (2) A3 B3 G1 I1 n3 c3 m3 d3 g1 h1 i1 j1 _ (S3.out.below BB1.out) (T3.out.below BB1.out) U1.out V1.out rfl rfl).mono ?_); rintro e a2 ⟨rfl, hb⟩; have BB2 := Lib.hid (below_up BB1.out hb); have U1 := Lib.hid (U1.out.below hb); have V1 := Lib.hid (V1.out.below hb); have f0 : a2.cell? ⟨w3.heap.size, 0, none⟩ = some (.bool (nOf (-3))) := (XA.out.below BB2.out).c 0 rfl; have f1 : a2.cell? ⟨w3.heap.size, 1, none⟩ = some (.slice A3 n3 c3) := (XA.out.below BB2.out).c 1 rfl; have f2 : a2.cell? ⟨w3.heap.size, 2, none⟩ = some (.bool (nOf (2))) := (XA.out.below BB2.out).c 2 rfl; have f3 : a2.cell? ⟨w3.heap.size, 3, none⟩ = some (.slice B3 m3 d3) := (XA.out.below BB2.out).c 3 rfl; have f4 : a2.cell? ⟨w6.heap.size, 0, none⟩ = some (.bool (nOf (0))) := (XZ.out.below BB2.out).c 0 rfl; have f5 : a2.cell? ⟨w6.heap.size, 1, none⟩ = some (.slice A6 n6 c6) := (XZ.out.below BB2.out).c 1 rfl; have f6 : a2.cell? ⟨w6.heap.size, 2, none⟩ = some (.bool (nOf (1))) := (XZ.out.below BB2.out).c 2 rfl; have f7 : a2.cell? ⟨w6.heap.size, 3, none⟩ = some (.slice B6 m6 d6) := (XZ.out.below BB2.out).c 3 rfl; have f8 : a2.cell? ⟨w12.heap.size, 0, none⟩ = some (.bool (nOf (1))) := (XS.out.below BB2.out).c 0 rfl; have f9 : a2.cell? ⟨w12.heap.size, 1, none⟩ = some (.slice A12 n12 c12) := (XS.out.below BB2.out).c 1 rfl; have f10 : a2.cell? ⟨w12.heap.size, 2, none⟩ = some (.bool (nOf (2))) := (XS.out.below BB2.out).c 2 rfl; have f11 : a2.cell? ⟨w12.heap.size, 3, none⟩ = some (.slice B12 m12 d12) := (XS.out.below BB2.out).c 3 rfl; have f12 : a2.cell? ⟨w15.heap.size, 0, none⟩ = some (.bool (nOf (-2))) := (XQ.out.below BB2.out).c 0 rfl; have f13 : a2.cell? ⟨w15.heap.size, 1, none⟩ = some (.slice A15 n15 c15) := (XQ.out.below BB2.out).c 1 rfl; have f14 : a2.cell? ⟨w15.heap.size, 2, none⟩ = some (.bool (nOf (1))) := (XQ.out.below BB2.out).c 2 rfl; have f15 : a2.cell? ⟨w15.heap.size, 3, none⟩ = some (.slice B15 m15 d15) := (XQ.out.below BB2.out).c 3 rfl; have f16 : a2.cell? ⟨w18.heap.size, 0, none⟩ = some (.bool (nOf (1))) := (XT.out.below BB2.out).c 0 rfl; have f17 : a2.cell? ⟨w18.heap.size, 1, none⟩ = some (.slice A18 n18 c18) := (XT.out.below BB2.out).c 1 rfl; have f18 : a2.cell? ⟨w18.heap.size, 2, none⟩ = some (.bool (nOf (1))) := (XT.out.below BB2.out).c 2 rfl; have f19 : a2.cell? ⟨w18.heap.size, 3, none⟩ = some (.slice B18 m18 d18) := (XT.out.below BB2.out).c 3 rfl; clear hb) | (go_at_call 24; (with_reducible refine (lfrac_any (0) (1) _ (by omega) (by omega) (by omega) (by omega)).mono ?_); rintro e a3 ⟨G3, g3, h3, I3, i3, j3, rfl, hs, ht, hb⟩; have BB3 := Lib.hid (below_up BB2.out hb); have U1 := Lib.hid (U1.out.below hb); have V1 := Lib.hid (V1.out.below hb); have U3 := Lib.hid hs; clear hs; have V3 := Lib.hid ht; clear ht; have f0 : a3.cell? ⟨w3.heap.size, 0, none⟩ = some (.bool (nOf (-3))) := (XA.out.below BB3.out).c 0 rfl; have f1 : a3.cell? ⟨w3.heap.size, 1, none⟩ = some (.slice A3 n3 c3) := (XA.out.below BB3.out).c 1 rfl; have f2 : a3.cell? ⟨w3.heap.size, 2, none⟩ = some (.bool (nOf (2))) := (XA.out.below BB3.out).c 2 rfl; have f3 : a3.cell? ⟨w3.heap.size, 3, none⟩ = some (.slice B3 m3 d3) := (XA.out.below BB3.out).c 3 rfl; have f4 : a3.cell? ⟨w6.heap.size, 0, none⟩ = some (.bool (nOf (0))) := (XZ.out.below BB3.out).c 0 rfl; have f5 : a3.cell? ⟨w6.heap.size, 1, none⟩ = some (.slice A6 n6 c6) := (XZ.out.below BB3.out).c 1 rfl; have f6 : a3.cell? ⟨w6.heap.size, 2, none⟩ = some (.bool (nOf (1))) := (XZ.out.below BB3.out).c 2 rfl; have f7 : a3.cell? ⟨w6.heap.size, 3, none⟩ = some (.slice B6 m6 d6) := (XZ.out.below BB3.out).c 3 rfl; have f8 : a3.cell? ⟨w12.heap.size, 0, none⟩ = some (.bool (nOf (1))) := (XS.out.below BB3.out).c 0 rfl; have f9 : a3.cell? ⟨w12.heap.size, 1, none⟩ = some (.slice A12 n12 c12) := (XS.out.below BB3.out).c 1 rfl; have f10 : a3.cell? ⟨w12.heap.size, 2, none⟩ = some (.bool (nOf (2))) := (XS.out.below BB3.out).c 2 rfl; have f11 : a3.cell? ⟨w12.heap.size, 3, none⟩ = some (.slice B12 m12 d12) := (XS.out.below BB3.out).c 3 rfl; have f12 : a3.cell? ⟨w15.heap.size, 0, none⟩ = some (.bool (nOf (-2))) := (XQ.out.below BB3.out).c 0 rfl; have f13 : a3.cell? ⟨w15.heap.size, 1, none⟩ = some (.slice A15 n15 c15) := (XQ.out.below BB3.out).c 1 rfl; have f14 : a3.cell? ⟨w15.heap.size, 2, none⟩ = some (.bool (nOf (1))) := (XQ.out.below BB3.out).c 2 rfl; have f15 : a3.cell? ⟨w15.heap.size, 3, none⟩ = some (.slice B15 m15 d15) := (XQ.out.below BB3.out).c 3 rfl; have f16 : a3.cell? ⟨w18.heap.size, 0, none⟩ = some (.bool (nOf (1))) := (XT.out.below BB3.out).c 0 rfl; have f17 : a3.cell? ⟨w18.heap.size, 1, none⟩ = some (.slice A18 n18 c18) := (XT.out.below BB3.out).c 1 rfl; have f18 : a3.cell? ⟨w18.heap.size, 2, none⟩ = some (.bool (nOf (1))) := (XT.out.below BB3.out).c 2 rfl; have f19 : a3.cell? ⟨w18.heap.size, 3, none⟩ = some (.slice B18 m18 d18) := (XT.out.below BB3.out).c 3 rfl; clear hb) | (go_at_call 11; (with_reducible refine (samer_ok (0) (1) (0) (1) A6 B6 G3 I3 n6 c6 m6 d6 g3 h3 i3 j3 _ (S6.out.below BB3.out) (T6.out.below BB3.out) U3.out V3.out rfl rfl).mono ?_); rintro e a4 ⟨rfl, hb⟩; have BB4 := Lib.hid (below_up BB3.out hb); have U1 := Lib.hid (U1.out.below hb); have V1 := Lib.hid (V1.out.below hb); have U3 := Lib.hid (U3.out.below hb); have V3 := Lib.hid (V3.out.below hb); have f0 : a4.cell? ⟨w3.heap.size, 0, none⟩ = some (.bool (nOf (-3))) := (XA.out.below BB4.out).c 0 rfl; have f1 : a4.cell? ⟨w3.heap.size, 1, none⟩ = some (.slice A3 n3 c3) := (XA.out.below BB4.out).c 1 rfl; have f2 : a4.cell? ⟨w3.heap.size, 2, none⟩ = some (.bool (nOf (2))) := (XA.out.below BB4.out).c 2 rfl; have f3 : a4.cell? ⟨w3.heap.size, 3, none⟩ = some (.slice B3 m3 d3) := (XA.out.below BB4.out).c 3 rfl; have f4 : a4.cell? ⟨w6.heap.size, 0, none⟩ = some (.bool (nOf (0))) := (XZ.out.below BB4.out).c 0 rfl; have f5 : a4.cell? ⟨w6.heap.size, 1, none⟩ = some (.slice A6 n6 c6) := (XZ.out.below BB4.out).c 1 rfl; have f6 : a4.cell? ⟨w6.heap.size, 2, none⟩ = some (.bool (nOf (1))) := (XZ.out.below BB4.out).c 2 rfl; have f7 : a4.cell? ⟨w6.heap.size, 3, none⟩ = some (.slice B6 m6 d6) := (XZ.out.below BB4.out).c 3 rfl; have f8 : a4.cell? ⟨w12.heap.size, 0, none⟩ = some (.bool (nOf (1))) := (XS.out.below BB4.out).c 0 rfl; have f9 : a4.cell? ⟨w12.heap.size, 1, none⟩ = some (.slice A12 n12 c12) := (XS.out.below BB4.out).c 1 rfl; have f10 : a4.cell? ⟨w12.heap.size, 2, none⟩ = some (.bool (nOf (2))) := (XS.out.below BB4.out).c 2 rfl; have f11 : a4.cell? ⟨w12.heap.size, 3, none⟩ = some (.slice B12 m12 d12) := (XS.out.below BB4.out).c 3 rfl; have f12 : a4.cell? ⟨w15.heap.size, 0, none⟩ = some (.bool (nOf (-2))) := (XQ.out.below BB4.out).c 0 rfl; have f13 : a4.cell? ⟨w15.heap.size, 1, none⟩ = some (.slice A15 n15 c15) := (XQ.out.below BB4.out).c 1 rfl; have f14 : a4.cell? ⟨w15.heap.size, 2, none⟩ = some (.bool (nOf (1))) := (XQ.out.below BB4.out).c 2 rfl; have f15 : a4.cell? ⟨w15.heap.size, 3, none⟩ = some (.slice B15 m15 d15) := (XQ.out.below BB4.out).c 3 rfl; have f16 : a4.cell? ⟨w18.heap.size, 0, none⟩ = some (.bool (nOf (1))) := (XT.out.below BB4.out).c 0 rfl; have f17 : a4.cell? ⟨w18.heap.size, 1, none⟩ = some (.slice A18 n18 c18) := (XT.out.below BB4.out).c 1 rfl; have f18 : a4.cell? ⟨w18.heap.size, 2, none⟩ = some (.bool (nOf (1))) := (XT.out.below BB4.out).c 2 rfl; have f19 : a4.cell? ⟨w18.heap.size, 3, none⟩ = some (.slice B18 m18 d18) := (XT.out.below BB4.out).c 3 rfl; clear hb) | (go_at_call 24; (with_reducible refine (lfrac_any (1) (2) _ (by omega) (by omega) (by omega) (by omega)).mono ?_); rintro e a5 ⟨G5, g5, h5, I5, i5, j5, rfl, hs, ht, hb⟩; have BB5 := Lib.hid (below_up BB4.out hb); have U1 := Lib.hid (U1.out.below hb); have V1 := Lib.hid (V1.out.below hb); have U3 := Lib.hid (U3.out.below hb); have V3 := Lib.hid (V3.out.below hb); have U5 := Lib.hid hs; clear hs; have V5 := Lib.hid ht; clear ht; have f0 : a5.cell? ⟨w3.heap.size, 0, none⟩ = some (.bool (nOf (-3))) := (XA.out.below BB5.out).c 0 rfl; have f1 : a5.cell? ⟨w3.heap.size, 1, none⟩ = some (.slice A3 n3 c3) := (XA.out.below BB5.out).c 1 rfl; have f2 : a5.cell? ⟨w3.heap.size, 2, none⟩ = some (.bool (nOf (2))) := (XA.out.below BB5.out).c 2 rfl; have f3 : a5.cell? ⟨w3.heap.size, 3, none⟩ = some (.slice B3 m3 d3) := (XA.out.below BB5.out).c 3 rfl; have f4 : a5.cell? ⟨w6.heap.size, 0, none⟩ = some (.bool (nOf (0))) := (XZ.out.below BB5.out).c 0 rfl; have f5 : a5.cell? ⟨w6.heap.size, 1, none⟩ = some (.slice A6 n6 c6) := (XZ.out.below BB5.out).c 1 rfl; have f6 : a5.cell? ⟨w6.heap.size, 2, none⟩ = some (.bool (nOf (1))) := (XZ.out.below BB5.out).c 2 rfl; have f7 : a5.cell? ⟨w6.heap.size, 3, none⟩ = some (.slice B6 m6 d6) := (XZ.out.below BB5.out).c 3 rfl; have f8 : a5.cell? ⟨w12.heap.size, 0, none⟩ = some (.bool (nOf (1))) := (XS.out.below BB5.out).c 0 rfl; have f9 : a5.cell? ⟨w12.heap.size, 1, none⟩ = some (.slice A12 n12 c12) := (XS.out.below BB5.out).c 1 rfl; have f10 : a5.cell? ⟨w12.heap.size, 2, none⟩ = some (.bool (nOf (2))) := (XS.out.below BB5.out).c 2 rfl; have f11 : a5.cell? ⟨w12.heap.size, 3, none⟩ = some (.slice B12 m12 d12) := (XS.out.below BB5.out).c 3 rfl; have f12 : a5.cell? ⟨w15.heap.size, 0, none⟩ = some (.bool (nOf (-2))) := (XQ.out.below BB5.out).c 0 rfl; have f13 : a5.cell? ⟨w15.heap.size, 1, none⟩ = some (.slice A15 n15 c15) := (XQ.out.below BB5.out).c 1 rfl; have f14 : a5.cell? ⟨w15.heap.size, 2, none⟩ = some (.bool (nOf (1))) := (XQ.out.below BB5.out).c 2 rfl; have f15 : a5.cell? ⟨w15.heap.size, 3, none⟩ = some (.slice B15 m15 d15) := (XQ.out.below BB5.out).c 3 rfl; have f16 : a5.cell? ⟨w18.heap.size, 0, none⟩ = some (.bool (nOf (1))) := (XT.out.below BB5.out).c 0 rfl; have f17 : a5.cell? ⟨w18.heap.size, 1, none⟩ = some (.slice A18 n18 c18) := (XT.out.below BB5.out).c 1 rfl; have f18 : a5.cell? ⟨w18.heap.size, 2, none⟩ = some (.bool (nOf (1))) := (XT.out.below BB5.out).c 2 rfl; have f19 : a5.cell? ⟨w18.heap.size, 3, none⟩ = some (.slice B18 m18 d18) := (XT.out.below BB5.out).c 3 rfl; clear hb) | (go_at_call 11; (with_reducible refine (samer_ok (1) (2) (1) (2) A12 B12 G5 I5 n12 c12 m12 d12 g5 h5 i5 j5 _ (S12.out.below BB5.out) (T12.out.below BB5.out) U5.out V5.out rfl rfl).mono ?_); rintro e a6 ⟨rfl, hb⟩; have BB6 := Lib.hid (below_up BB5.out hb); have U1 := Lib.hid (U1.out.below hb); have V1 := Lib.hid (V1.out.below hb); have U3 := Lib.hid (U3.out.below hb); have V3 := Lib.hid (V3.out.below hb); have U5 := Lib.hid (U5.out.below hb); have V5 := Lib.hid (V5.out.below hb); have f0 : a6.cell? ⟨w3.heap.size, 0, none⟩ = some (.bool (nOf (-3))) := (XA.out.below BB6.out).c 0 rfl; have f1 : a6.cell? ⟨w3.heap.size, 1, none⟩ = some (.slice A3 n3 c3) := (XA.out.below BB6.out).c 1 rfl; have f2 : a6.cell? ⟨w3.heap.size, 2, none⟩ = some (.bool (nOf (2))) := (XA.out.below BB6.out).c 2 rfl; have f3 : a6.cell? ⟨w3.heap.size, 3, none⟩ = some (.slice B3 m3 d3) := (XA.out.below BB6.out).c 3 rfl; have f4 : a6.cell? ⟨w6.heap.size, 0, none⟩ = some (.bool (nOf (0))) := (XZ.out.below BB6.out).c 0 rfl; have f5 : a6.cell? ⟨w6.heap.size, 1, none⟩ = some (.slice A6 n6 c6) := (XZ.out.below BB6.out).c 1 rfl; have f6 : a6.cell? ⟨w6.heap.size, 2, none⟩ = some (.bool (nOf (1))) := (XZ.out.below BB6.out).c 2 rfl; have f7 : a6.cell? ⟨w6.heap.size, 3, none⟩ = some (.slice B6 m6 d6) := (XZ.out.below BB6.out).c 3 rfl; have f8 : a6.cell? ⟨w12.heap.size, 0, none⟩ = some (.bool (nOf (1))) := (XS.out.below BB6.out).c 0 rfl; have f9 : a6.cell? ⟨w12.heap.size, 1, none⟩ = some (.slice A12 n12 c12) := (XS.out.below BB6.out).c 1 rfl; have f10 : a6.cell? ⟨w12.heap.size, 2, none⟩ = some (.bool (nOf (2))) := (XS.out.below BB6.out).c 2 rfl; have f11 : a6.cell? ⟨w12.heap.size, 3, none⟩ = some (.slice B12 m12 d12) := (XS.out.below BB6.out).c 3 rfl; have f12 : a6.cell? ⟨w15.heap.size, 0, none⟩ = some (.bool (nOf (-2))) := (XQ.out.below BB6.out).c 0 rfl; have f13 : a6.cell? ⟨w15.heap.size, 1, none⟩ = some (.slice A15 n15 c15) := (XQ.out.below BB6.out).c 1 rfl; have f14 : a6.cell? ⟨w15.heap.size, 2, none⟩ = some (.bool (nOf (1))) := (XQ.out.below BB6.out).c 2 rfl; have f15 : a6.cell? ⟨w15.heap.size, 3, none⟩ = some (.slice B15 m15 d15) := (XQ.out.below BB6.out).c 3 rfl; have f16 : a6.cell? ⟨w18.heap.size, 0, none⟩ = some (.bool (nOf (1))) := (XT.out.below BB6.out).c 0 rfl; have f17 : a6.cell? ⟨w18.heap.size, 1, none⟩ = some (.slice A18 n18 c18) := (XT.out.below BB6.out).c 1 rfl; have f18 : a6.cell? ⟨w18.heap.size, 2, none⟩ = some (.bool (nOf (1))) := (XT.out.below BB6.out).c 2 rfl; have f19 : a6.cell? ⟨w18.heap.size, 3, none⟩ = some (.slice B18 m18 d18) := (XT.out.below BB6.out).c 3 rfl; clear hb) | (go_at_call 19; (with_reducible refine (rtext_ok [45, 50] (-2) 1 A15 B15 n15 c15 m15 d15 _ (S15.out.below BB6.out) (T15.out.below BB6.out) (Fr.small (p := -2) (q := 1) (by omega) (by omega) (by omega) (by omega) (by decide)) (tab_on TB.out BB6.out) rtext_q).mono ?_); rintro e a7 ⟨rfl, hb⟩; have BB7 := Lib.hid (below_up BB6.out hb); have U1 := Lib.hid (U1.out.below hb); have V1 := Lib.hid (V1.out.below hb); have U3 := Lib.hid (U3.out.below hb); have V3 := Lib.hid (V3.out.below hb); have U5 := Lib.hid (U5.out.below hb); have V5 := Lib.hid (V5.out.below hb); have f0 : a7.cell? ⟨w3.heap.size, 0, none⟩ = some (.bool (nOf (-3))) := (XA.out.below BB7.out).c 0 rfl; have f1 : a7.cell? ⟨w3.heap.size, 1, none⟩ = some (.slice A3 n3 c3) := (XA.out.below BB7.out).c 1 rfl; have f2 : a7.cell? ⟨w3.heap.size, 2, none⟩ = some (.bool (nOf (2))) := (XA.out.below BB7.out).c 2 rfl; have f3 : a7.cell? ⟨w3.heap.size, 3, none⟩ = some (.slice B3 m3 d3) := (XA.out.below BB7.out).c 3 rfl; have f4 : a7.cell? ⟨w6.heap.size, 0, none⟩ = some (.bool (nOf (0))) := (XZ.out.below BB7.out).c 0 rfl; have f5 : a7.cell? ⟨w6.heap.size, 1, none⟩ = some (.slice A6 n6 c6) := (XZ.out.below BB7.out).c 1 rfl; have f6 : a7.cell? ⟨w6.heap.size, 2, none⟩ = some (.bool (nOf (1))) := (XZ.out.below BB7.out).c 2 rfl; have f7 : a7.cell? ⟨w6.heap.size, 3, none⟩ = some (.slice B6 m6 d6) := (XZ.out.below BB7.out).c 3 rfl; have f8 : a7.cell? ⟨w12.heap.size, 0, none⟩ = some (.bool (nOf (1))) := (XS.out.below BB7.out).c 0 rfl; have f9 : a7.cell? ⟨w12.heap.size, 1, none⟩ = some (.slice A12 n12 c12) := (XS.out.below BB7.out).c 1 rfl; have f10 : a7.cell? ⟨w12.heap.size, 2, none⟩ = some (.bool (nOf (2))) := (XS.out.below BB7.out).c 2 rfl; have f11 : a7.cell? ⟨w12.heap.size, 3, none⟩ = some (.slice B12 m12 d12) := (XS.out.below BB7.out).c 3 rfl; have f12 : a7.cell? ⟨w15.heap.size, 0, none⟩ = some (.bool (nOf (-2))) := (XQ.out.below BB7.out).c 0 rfl; have f13 : a7.cell? ⟨w15.heap.size, 1, none⟩ = some (.slice A15 n15 c15) := (XQ.out.below BB7.out).c 1 rfl; have f14 : a7.cell? ⟨w15.heap.size, 2, none⟩ = some (.bool (nOf (1))) := (XQ.out.below BB7.out).c 2 rfl; have f15 : a7.cell? ⟨w15.heap.size, 3, none⟩ = some (.slice B15 m15 d15) := (XQ.out.below BB7.out).c 3 rfl; have f16 : a7.cell? ⟨w18.heap.size, 0, none⟩ = some (.bool (nOf (1))) := (XT.out.below BB7.out).c 0 rfl; have f17 : a7.cell? ⟨w18.heap.size, 1, none⟩ = some (.slice A18 n18 c18) := (XT.out.below BB7.out).c 1 rfl; have f18 : a7.cell? ⟨w18.heap.size, 2, none⟩ = some (.bool (nOf (1))) := (XT.out.below BB7.out).c 2 rfl; have f19 : a7.cell? ⟨w18.heap.size, 3, none⟩ = some (.slice B18 m18 d18) := (XT.out.below BB7.out).c 3 rfl; clear hb) | (go_at_call 24; (with_reducible refine (lfrac_any (1) (1) _ (by omega) (by omega) (by omega) (by omega)).mono ?_); rintro e a8 ⟨G8, g8, h8, I8, i8, j8, rfl, hs, ht, hb⟩; have BB8 := Lib.hid (below_up BB7.out hb); have U1 := Lib.hid (U1.out.below hb); have V1 := Lib.hid (V1.out.below hb); have U3 := Lib.hid (U3.out.below hb); have V3 := Lib.hid (V3.out.below hb); have U5 := Lib.hid (U5.out.below hb); have V5 := Lib.hid (V5.out.below hb); have U8 := Lib.hid hs; clear hs; have V8 := Lib.hid ht; clear ht; have f0 : a8.cell? ⟨w3.heap.size, 0, none⟩ = some (.bool (nOf (-3))) := (XA.out.below BB8.out).c 0 rfl; have f1 : a8.cell? ⟨w3.heap.size, 1, none⟩ = some (.slice A3 n3 c3) := (XA.out.below BB8.out).c 1 rfl; have f2 : a8.cell? ⟨w3.heap.size, 2, none⟩ = some (.bool (nOf (2))) := (XA.out.below BB8.out).c 2 rfl; have f3 : a8.cell? ⟨w3.heap.size, 3, none⟩ = some (.slice B3 m3 d3) := (XA.out.below BB8.out).c 3 rfl; have f4 : a8.cell? ⟨w6.heap.size, 0, none⟩ = some (.bool (nOf (0))) := (XZ.out.below BB8.out).c 0 rfl; have f5 : a8.cell? ⟨w6.heap.size, 1, none⟩ = some (.slice A6 n6 c6) := (XZ.out.below BB8.out).c 1 rfl; have f6 : a8.cell? ⟨w6.heap.size, 2, none⟩ = some (.bool (nOf (1))) := (XZ.out.below BB8.out).c 2 rfl; have f7 : a8.cell? ⟨w6.heap.size, 3, none⟩ = some (.slice B6 m6 d6) := (XZ.out.below BB8.out).c 3 rfl; have f8 : a8.cell? ⟨w12.heap.size, 0, none⟩ = some (.bool (nOf (1))) := (XS.out.below BB8.out).c 0 rfl; have f9 : a8.cell? ⟨w12.heap.size, 1, none⟩ = some (.slice A12 n12 c12) := (XS.out.below BB8.out).c 1 rfl; have f10 : a8.cell? ⟨w12.heap.size, 2, none⟩ = some (.bool (nOf (2))) := (XS.out.below BB8.out).c 2 rfl; have f11 : a8.cell? ⟨w12.heap.size, 3, none⟩ = some (.slice B12 m12 d12) := (XS.out.below BB8.out).c 3 rfl; have f12 : a8.cell? ⟨w15.heap.size, 0, none⟩ = some (.bool (nOf (-2))) := (XQ.out.below BB8.out).c 0 rfl; have f13 : a8.cell? ⟨w15.heap.size, 1, none⟩ = some (.slice A15 n15 c15) := (XQ.out.below BB8.out).c 1 rfl; have f14 : a8.cell? ⟨w15.heap.size, 2, none⟩ = some (.bool (nOf (1))) := (XQ.out.below BB8.out).c 2 rfl; have f15 : a8.cell? ⟨w15.heap.size, 3, none⟩ = some (.slice B15 m15 d15) := (XQ.out.below BB8.out).c 3 rfl; have f16 : a8.cell? ⟨w18.heap.size, 0, none⟩ = some (.bool (nOf (1))) := (XT.out.below BB8.out).c 0 rfl; have f17 : a8.cell? ⟨w18.heap.size, 1, none⟩ = some (.slice A18 n18 c18) := (XT.out.below BB8.out).c 1 rfl; have f18 : a8.cell? ⟨w18.heap.size, 2, none⟩ = some (.bool (nOf (1))) := (XT.out.below BB8.out).c 2 rfl; have f19 : a8.cell? ⟨w18.heap.size, 3, none⟩ = some (.slice B18 m18 d18) := (XT.out.below BB8.out).c 3 rfl; clear hb) | (go_at_call 11; (with_reducible refine (samer_ok (1) (1) (1) (1) A18 B18 G8 I8 n18 c18 m18 d18 g8 h8 i8 j8 _ (S18.out.below BB8.out) (T18.out.below BB8.out) U8.out V8.out rfl rfl).mono ?_); rintro e a9 ⟨rfl, hb⟩; have BB9 := Lib.hid (below_up BB8.out hb); have U1 := Lib.hid (U1.out.below hb); have V1 := Lib.hid (V1.out.below hb); have U3 := Lib.hid (U3.out.below hb); have V3 := Lib.hid (V3.out.below hb); have U5 := Lib.hid (U5.out.below hb); have V5 := Lib.hid (V5.out.below hb); have U8 := Lib.hid (U8.out.below hb); have V8 := Lib.hid (V8.out.below hb); have f0 : a9.cell? ⟨w3.heap.size, 0, none⟩ = some (.bool (nOf (-3))) := (XA.out.below BB9.out).c 0 rfl; have f1 : a9.cell? ⟨w3.heap.size, 1, none⟩ = some (.slice A3 n3 c3) := (XA.out.below BB9.out).c 1 rfl; have f2 : a9.cell? ⟨w3.heap.size, 2, none⟩ = some (.bool (nOf (2))) := (XA.out.below BB9.out).c 2 rfl; have f3 : a9.cell? ⟨w3.heap.size, 3, none⟩ = some (.slice B3 m3 d3) := (XA.out.below BB9.out).c 3 rfl; have f4 : a9.cell? ⟨w6.heap.size, 0, none⟩ = some (.bool (nOf (0))) := (XZ.out.below BB9.out).c 0 rfl; have f5 : a9.cell? ⟨w6.heap.size, 1, none⟩ = some (.slice A6 n6 c6) := (XZ.out.below BB9.out).c 1 rfl; have f6 : a9.cell? ⟨w6.heap.size, 2, none⟩ = some (.bool (nOf (1))) := (XZ.out.below BB9.out).c 2 rfl; have f7 : a9.cell? ⟨w6.heap.size, 3, none⟩ = some (.slice B6 m6 d6) := (XZ.out.below BB9.out).c 3 rfl; have f8 : a9.cell? ⟨w12.heap.size, 0, none⟩ = some (.bool (nOf (1))) := (XS.out.below BB9.out).c 0 rfl; have f9 : a9.cell? ⟨w12.heap.size, 1, none⟩ = some (.slice A12 n12 c12) := (XS.out.below BB9.out).c 1 rfl; have f10 : a9.cell? ⟨w12.heap.size, 2, none⟩ = some (.bool (nOf (2))) := (XS.out.below BB9.out).c 2 rfl; have f11 : a9.cell? ⟨w12.heap.size, 3, none⟩ = some (.slice B12 m12 d12) := (XS.out.below BB9.out).c 3 rfl; have f12 : a9.cell? ⟨w15.heap.size, 0, none⟩ = some (.bool (nOf (-2))) := (XQ.out.below BB9.out).c 0 rfl; have f13 : a9.cell? ⟨w15.heap.size, 1, none⟩ = some (.slice A15 n15 c15) := (XQ.out.below BB9.out).c 1 rfl; have f14 : a9.cell? ⟨w15.heap.size, 2, none⟩ = some (.bool (nOf (1))) := (XQ.out.below BB9.out).c 2 rfl; have f15 : a9.cell? ⟨w15.heap.size, 3, none⟩ = some (.slice B15 m15 d15) := (XQ.out.below BB9.out).c 3 rfl; have f16 : a9.cell? ⟨w18.heap.size, 0, none⟩ = some (.bool (nOf (1))) := (XT.out.below BB9.out).c 0 rfl; have f17 : a9.cell? ⟨w18.heap.size, 1, none⟩ = some (.slice A18 n18 c18) := (XT.out.below BB9.out).c 1 rfl; have f18 : a9.cell? ⟨w18.heap.size, 2, none⟩ = some (.bool (nOf (1))) := (XT.out.below BB9.out).c 2 rfl; have f19 : a9.cell? ⟨w18.heap.size, 3, none⟩ = some (.slice B18 m18 d18) := (XT.out.below BB9.out).c 3 rfl; clear hb))
  clear e0 e1 e2 e3 e4 e5 e6 e7 e8 e9 e10 e11 e12 e13 e14 e15 e16 e17 e18 e19
  try clear f0 f1 f2 f3 f4 f5 f6 f7 f8 f9 f10 f11 f12 f13 f14 f15 f16 f17 f18 f19
  have TB := Lib.hid (tab_on TB.out BB9.out)
  have BW := Lib.hid (below_on BW.out BB9.out)
  have S3 := Lib.hid (S3.out.below BB9.out)
  have T3 := Lib.hid (T3.out.below BB9.out)
  have XA := Lib.hid (XA.out.below BB9.out)
  have S6 := Lib.hid (S6.out.below BB9.out)
  have T6 := Lib.hid (T6.out.below BB9.out)
  have XZ := Lib.hid (XZ.out.below BB9.out)
  have S12 := Lib.hid (S12.out.below BB9.out)
  have T12 := Lib.hid (T12.out.below BB9.out)
  have XS := Lib.hid (XS.out.below BB9.out)
  have S15 := Lib.hid (S15.out.below BB9.out)
  have T15 := Lib.hid (T15.out.below BB9.out)
  have XQ := Lib.hid (XQ.out.below BB9.out)
  have S18 := Lib.hid (S18.out.below BB9.out)
  have T18 := Lib.hid (T18.out.below BB9.out)
  have XT := Lib.hid (XT.out.below BB9.out)
  go_upto_region 10 with fail
  have e0 : a9.cell? ⟨w3.heap.size, 0, none⟩ = some (.bool (nOf (-3))) := XA.out.c 0 rfl
  have e1 : a9.cell? ⟨w3.heap.size, 1, none⟩ = some (.slice A3 n3 c3) := XA.out.c 1 rfl
  have e2 : a9.cell? ⟨w3.heap.size, 2, none⟩ = some (.bool (nOf (2))) := XA.out.c 2 rfl
  have e3 : a9.cell? ⟨w3.heap.size, 3, none⟩ = some (.slice B3 m3 d3) := XA.out.c 3 rfl
  go_wp2_with fail
  ((with_reducible refine (rtext_ok [45, 51, 47, 50] (-3) 2 A3 B3 n3 c3 m3 d3 _ S3.out T3.out (Fr.small (p := -3) (q := 2) (by omega) (by omega) (by omega) (by omega) (by decide)) TB.out rtext_a).mono ?_); rintro e w22 ⟨rfl, hb⟩)
  clear e0 e1 e2 e3
  have TB := Lib.hid (tab_on TB.out hb)
  have BW := Lib.hid (below_on BW.out hb)
  have S3 := Lib.hid (S3.out.below hb)
  have T3 := Lib.hid (T3.out.below hb)
  have XA := Lib.hid (XA.out.below hb)
  have S6 := Lib.hid (S6.out.below hb)
  have T6 := Lib.hid (T6.out.below hb)
  have XZ := Lib.hid (XZ.out.below hb)
  have S12 := Lib.hid (S12.out.below hb)
  have T12 := Lib.hid (T12.out.below hb)
  have XS := Lib.hid (XS.out.below hb)
  have S15 := Lib.hid (S15.out.below hb)
  have T15 := Lib.hid (T15.out.below hb)
  have XQ := Lib.hid (XQ.out.below hb)
  have S18 := Lib.hid (S18.out.below hb)
  have T18 := Lib.hid (T18.out.below hb)
  have XT := Lib.hid (XT.out.below hb)
  have U1 := Lib.hid (U1.out.below hb)
  have V1 := Lib.hid (V1.out.below hb)
  have U3 := Lib.hid (U3.out.below hb)
  have V3 := Lib.hid (V3.out.below hb)
  have U5 := Lib.hid (U5.out.below hb)
  have V5 := Lib.hid (V5.out.below hb)
  have U8 := Lib.hid (U8.out.below hb)
  have V8 := Lib.hid (V8.out.below hb)
  clear hb
  have e0 : w22.cell? ⟨w3.heap.size, 0, none⟩ = some (.bool (nOf (-3))) := XA.out.c 0 rfl
  have e1 : w22.cell? ⟨w3.heap.size, 1, none⟩ = some (.slice A3 n3 c3) := XA.out.c 1 rfl
  have e2 : w22.cell? ⟨w3.heap.size, 2, none⟩ = some (.bool (nOf (2))) := XA.out.c 2 rfl
  have e3 : w22.cell? ⟨w3.heap.size, 3, none⟩ = some (.slice B3 m3 d3) := XA.out.c 3 rfl
  go_wp2_with fail
  ((with_reducible refine (floor_ok (-2) (-3) 2 A3 B3 n3 c3 m3 d3 _ S3.out T3.out (Fr.small (p := -3) (q := 2) (by omega) (by omega) (by omega) (by omega) (by decide)) (by decide)).mono ?_); rintro e w23 ⟨A23, n23, c23, rfl, hs, hb⟩)
  clear e0 e1 e2 e3
  have TB := Lib.hid (tab_on TB.out hb)
  have BW := Lib.hid (below_on BW.out hb)
  have S3 := Lib.hid (S3.out.below hb)
  have T3 := Lib.hid (T3.out.below hb)
  have XA := Lib.hid (XA.out.below hb)
  have S6 := Lib.hid (S6.out.below hb)
  have T6 := Lib.hid (T6.out.below hb)
  have XZ := Lib.hid (XZ.out.below hb)
  have S12 := Lib.hid (S12.out.below hb)
  have T12 := Lib.hid (T12.out.below hb)
  have XS := Lib.hid (XS.out.below hb)
  have S15 := Lib.hid (S15.out.below hb)
  have T15 := Lib.hid (T15.out.below hb)
  have XQ := Lib.hid (XQ.out.below hb)
  have S18 := Lib.hid (S18.out.below hb)
  have T18 := Lib.hid (T18.out.below hb)
  have XT := Lib.hid (XT.out.below hb)
  have U1 := Lib.hid (U1.out.below hb)
  have V1 := Lib.hid (V1.out.below hb)
  have U3 := Lib.hid (U3.out.below hb)
  have V3 := Lib.hid (V3.out.below hb)
  have U5 := Lib.hid (U5.out.below hb)
  have V5 := Lib.hid (V5.out.below hb)
  have U8 := Lib.hid (U8.out.below hb)
  have V8 := Lib.hid (V8.out.below hb)
  clear hb
  have S23 := Lib.hid hs
  clear hs
  have e0 : w23.cell? ⟨w3.heap.size, 0, none⟩ = some (.bool (nOf (-3))) := XA.out.c 0 rfl
  have e1 : w23.cell? ⟨w3.heap.size, 1, none⟩ = some (.slice A3 n3 c3) := XA.out.c 1 rfl
  have e2 : w23.cell? ⟨w3.heap.size, 2, none⟩ = some (.bool (nOf (2))) := XA.out.c 2 rfl
  have e3 : w23.cell? ⟨w3.heap.size, 3, none⟩ = some (.slice B3 m3 d3) := XA.out.c 3 rfl
  go_wp2_with fail
  ((with_reducible refine (of_any (-2) _ (by omega) (by omega)).mono ?_); rintro e w24 ⟨A24, n24, c24, rfl, hs, hb⟩)
  clear e0 e1 e2 e3
  have TB := Lib.hid (tab_on TB.out hb)
  have BW := Lib.hid (below_on BW.out hb)
  have S3 := Lib.hid (S3.out.below hb)
  have T3 := Lib.hid (T3.out.below hb)
  have XA := Lib.hid (XA.out.below hb)
  have S6 := Lib.hid (S6.out.below hb)
  have T6 := Lib.hid (T6.out.below hb)
  have XZ := Lib.hid (XZ.out.below hb)
  have S12 := Lib.hid (S12.out.below hb)
  have T12 := Lib.hid (T12.out.below hb)
  have XS := Lib.hid (XS.out.below hb)
  have S15 := Lib.hid (S15.out.below hb)
  have T15 := Lib.hid (T15.out.below hb)
  have XQ := Lib.hid (XQ.out.below hb)
  have S18 := Lib.hid (S18.out.below hb)
  have T18 := Lib.hid (T18.out.below hb)
  have XT := Lib.hid (XT.out.below hb)
  have U1 := Lib.hid (U1.out.below hb)
  have V1 := Lib.hid (V1.out.below hb)
  have U3 := Lib.hid (U3.out.below hb)
  have V3 := Lib.hid (V3.out.below hb)
  have U5 := Lib.hid (U5.out.below hb)
  have V5 := Lib.hid (V5.out.below hb)
  have U8 := Lib.hid (U8.out.below hb)
  have V8 := Lib.hid (V8.out.below hb)
  have S23 := Lib.hid (S23.out.below hb)
  clear hb
  have S24 := Lib.hid hs
  clear hs
  have e0 : w24.cell? ⟨w3.heap.size, 0, none⟩ = some (.bool (nOf (-3))) := XA.out.c 0 rfl
  have e1 : w24.cell? ⟨w3.heap.size, 1, none⟩ = some (.slice A3 n3 c3) := XA.out.c 1 rfl
  have e2 : w24.cell? ⟨w3.heap.size, 2, none⟩ = some (.bool (nOf (2))) := XA.out.c 2 rfl
  have e3 : w24.cell? ⟨w3.heap.size, 3, none⟩ = some (.slice B3 m3 d3) := XA.out.c 3 rfl
  go_wp2_with fail
  ((with_reducible refine (sameb_ok (-2) (-2) A23 A24 n23 c23 n24 c24 _ S23.out S24.out rfl).mono ?_); rintro e w25 ⟨rfl, hb⟩)
  clear e0 e1 e2 e3
  have TB := Lib.hid (tab_on TB.out hb)
  have BW := Lib.hid (below_on BW.out hb)
  have S3 := Lib.hid (S3.out.below hb)
  have T3 := Lib.hid (T3.out.below hb)
  have XA := Lib.hid (XA.out.below hb)
  have S6 := Lib.hid (S6.out.below hb)
  have T6 := Lib.hid (T6.out.below hb)
  have XZ := Lib.hid (XZ.out.below hb)
  have S12 := Lib.hid (S12.out.below hb)
  have T12 := Lib.hid (T12.out.below hb)
  have XS := Lib.hid (XS.out.below hb)
  have S15 := Lib.hid (S15.out.below hb)
  have T15 := Lib.hid (T15.out.below hb)
  have XQ := Lib.hid (XQ.out.below hb)
  have S18 := Lib.hid (S18.out.below hb)
  have T18 := Lib.hid (T18.out.below hb)
  have XT := Lib.hid (XT.out.below hb)
  have U1 := Lib.hid (U1.out.below hb)
  have V1 := Lib.hid (V1.out.below hb)
  have U3 := Lib.hid (U3.out.below hb)
  have V3 := Lib.hid (V3.out.below hb)
  have U5 := Lib.hid (U5.out.below hb)
  have V5 := Lib.hid (V5.out.below hb)
  have U8 := Lib.hid (U8.out.below hb)
  have V8 := Lib.hid (V8.out.below hb)
  have S23 := Lib.hid (S23.out.below hb)
  have S24 := Lib.hid (S24.out.below hb)
  clear hb
  have e0 : w25.cell? ⟨w3.heap.size, 0, none⟩ = some (.bool (nOf (-3))) := XA.out.c 0 rfl
  have e1 : w25.cell? ⟨w3.heap.size, 1, none⟩ = some (.slice A3 n3 c3) := XA.out.c 1 rfl
  have e2 : w25.cell? ⟨w3.heap.size, 2, none⟩ = some (.bool (nOf (2))) := XA.out.c 2 rfl
  have e3 : w25.cell? ⟨w3.heap.size, 3, none⟩ = some (.slice B3 m3 d3) := XA.out.c 3 rfl
  go_wp2_with fail
  ((with_reducible refine (ceil_ok (-1) (-3) 2 A3 B3 n3 c3 m3 d3 _ S3.out T3.out (Fr.small (p := -3) (q := 2) (by omega) (by omega) (by omega) (by omega) (by decide)) (by decide)).mono ?_); rintro e w26 ⟨A26, n26, c26, rfl, hs, hb⟩)
  clear e0 e1 e2 e3
  have TB := Lib.hid (tab_on TB.out hb)
  have BW := Lib.hid (below_on BW.out hb)
  have S3 := Lib.hid (S3.out.below hb)
  have T3 := Lib.hid (T3.out.below hb)
  have XA := Lib.hid (XA.out.below hb)
  have S6 := Lib.hid (S6.out.below hb)
  have T6 := Lib.hid (T6.out.below hb)
  have XZ := Lib.hid (XZ.out.below hb)
  have S12 := Lib.hid (S12.out.below hb)
  have T12 := Lib.hid (T12.out.below hb)
  have XS := Lib.hid (XS.out.below hb)
  have S15 := Lib.hid (S15.out.below hb)
  have T15 := Lib.hid (T15.out.below hb)
  have XQ := Lib.hid (XQ.out.below hb)
  have S18 := Lib.hid (S18.out.below hb)
  have T18 := Lib.hid (T18.out.below hb)
  have XT := Lib.hid (XT.out.below hb)
  have U1 := Lib.hid (U1.out.below hb)
  have V1 := Lib.hid (V1.out.below hb)
  have U3 := Lib.hid (U3.out.below hb)
  have V3 := Lib.hid (V3.out.below hb)
  have U5 := Lib.hid (U5.out.below hb)
  have V5 := Lib.hid (V5.out.below hb)
  have U8 := Lib.hid (U8.out.below hb)
  have V8 := Lib.hid (V8.out.below hb)
  have S23 := Lib.hid (S23.out.below hb)
  have S24 := Lib.hid (S24.out.below hb)
  clear hb
  have S26 := Lib.hid hs
  clear hs
  have e0 : w26.cell? ⟨w3.heap.size, 0, none⟩ = some (.bool (nOf (-3))) := XA.out.c 0 rfl
  have e1 : w26.cell? ⟨w3.heap.size, 1, none⟩ = some (.slice A3 n3 c3) := XA.out.c 1 rfl
  have e2 : w26.cell? ⟨w3.heap.size, 2, none⟩ = some (.bool (nOf (2))) := XA.out.c 2 rfl
  have e3 : w26.cell? ⟨w3.heap.size, 3, none⟩ = some (.slice B3 m3 d3) := XA.out.c 3 rfl
  go_wp2_with fail
  ((with_reducible refine (of_any (-1) _ (by omega) (by omega)).mono ?_); rintro e w27 ⟨A27, n27, c27, rfl, hs, hb⟩)
  clear e0 e1 e2 e3
  have TB := Lib.hid (tab_on TB.out hb)
  have BW := Lib.hid (below_on BW.out hb)
  have S3 := Lib.hid (S3.out.below hb)
  have T3 := Lib.hid (T3.out.below hb)
  have XA := Lib.hid (XA.out.below hb)
  have S6 := Lib.hid (S6.out.below hb)
  have T6 := Lib.hid (T6.out.below hb)
  have XZ := Lib.hid (XZ.out.below hb)
  have S12 := Lib.hid (S12.out.below hb)
  have T12 := Lib.hid (T12.out.below hb)
  have XS := Lib.hid (XS.out.below hb)
  have S15 := Lib.hid (S15.out.below hb)
  have T15 := Lib.hid (T15.out.below hb)
  have XQ := Lib.hid (XQ.out.below hb)
  have S18 := Lib.hid (S18.out.below hb)
  have T18 := Lib.hid (T18.out.below hb)
  have XT := Lib.hid (XT.out.below hb)
  have U1 := Lib.hid (U1.out.below hb)
  have V1 := Lib.hid (V1.out.below hb)
  have U3 := Lib.hid (U3.out.below hb)
  have V3 := Lib.hid (V3.out.below hb)
  have U5 := Lib.hid (U5.out.below hb)
  have V5 := Lib.hid (V5.out.below hb)
  have U8 := Lib.hid (U8.out.below hb)
  have V8 := Lib.hid (V8.out.below hb)
  have S23 := Lib.hid (S23.out.below hb)
  have S24 := Lib.hid (S24.out.below hb)
  have S26 := Lib.hid (S26.out.below hb)
  clear hb
  have S27 := Lib.hid hs
  clear hs
  have e0 : w27.cell? ⟨w3.heap.size, 0, none⟩ = some (.bool (nOf (-3))) := XA.out.c 0 rfl
  have e1 : w27.cell? ⟨w3.heap.size, 1, none⟩ = some (.slice A3 n3 c3) := XA.out.c 1 rfl
  have e2 : w27.cell? ⟨w3.heap.size, 2, none⟩ = some (.bool (nOf (2))) := XA.out.c 2 rfl
  have e3 : w27.cell? ⟨w3.heap.size, 3, none⟩ = some (.slice B3 m3 d3) := XA.out.c 3 rfl
  go_wp2_with fail
  ((with_reducible refine (sameb_ok (-1) (-1) A26 A27 n26 c26 n27 c27 _ S26.out S27.out rfl).mono ?_); rintro e w28 ⟨rfl, hb⟩)
  clear e0 e1 e2 e3
  have TB := Lib.hid (tab_on TB.out hb)
  have BW := Lib.hid (below_on BW.out hb)
  have S3 := Lib.hid (S3.out.below hb)
  have T3 := Lib.hid (T3.out.below hb)
  have XA := Lib.hid (XA.out.below hb)
  have S6 := Lib.hid (S6.out.below hb)
  have T6 := Lib.hid (T6.out.below hb)
  have XZ := Lib.hid (XZ.out.below hb)
  have S12 := Lib.hid (S12.out.below hb)
  have T12 := Lib.hid (T12.out.below hb)
  have XS := Lib.hid (XS.out.below hb)
  have S15 := Lib.hid (S15.out.below hb)
  have T15 := Lib.hid (T15.out.below hb)
  have XQ := Lib.hid (XQ.out.below hb)
  have S18 := Lib.hid (S18.out.below hb)
  have T18 := Lib.hid (T18.out.below hb)
  have XT := Lib.hid (XT.out.below hb)
  have U1 := Lib.hid (U1.out.below hb)
  have V1 := Lib.hid (V1.out.below hb)
  have U3 := Lib.hid (U3.out.below hb)
  have V3 := Lib.hid (V3.out.below hb)
  have U5 := Lib.hid (U5.out.below hb)
  have V5 := Lib.hid (V5.out.below hb)
  have U8 := Lib.hid (U8.out.below hb)
  have V8 := Lib.hid (V8.out.below hb)
  have S23 := Lib.hid (S23.out.below hb)
  have S24 := Lib.hid (S24.out.below hb)
  have S26 := Lib.hid (S26.out.below hb)
  have S27 := Lib.hid (S27.out.below hb)
  clear hb
  have e0 : w28.cell? ⟨w3.heap.size, 0, none⟩ = some (.bool (nOf (-3))) := XA.out.c 0 rfl
  have e1 : w28.cell? ⟨w3.heap.size, 1, none⟩ = some (.slice A3 n3 c3) := XA.out.c 1 rfl
  have e2 : w28.cell? ⟨w3.heap.size, 2, none⟩ = some (.bool (nOf (2))) := XA.out.c 2 rfl
  have e3 : w28.cell? ⟨w3.heap.size, 3, none⟩ = some (.slice B3 m3 d3) := XA.out.c 3 rfl
  go_wp2_with fail
  ((with_reducible refine (lfrac_any (-1) (2) _ (by omega) (by omega) (by omega) (by omega)).mono ?_); rintro e w29 ⟨A29, n29, c29, B29, m29, d29, rfl, hs, ht, hb⟩)
  clear e0 e1 e2 e3
  have TB := Lib.hid (tab_on TB.out hb)
  have BW := Lib.hid (below_on BW.out hb)
  have S3 := Lib.hid (S3.out.below hb)
  have T3 := Lib.hid (T3.out.below hb)
  have XA := Lib.hid (XA.out.below hb)
  have S6 := Lib.hid (S6.out.below hb)
  have T6 := Lib.hid (T6.out.below hb)
  have XZ := Lib.hid (XZ.out.below hb)
  have S12 := Lib.hid (S12.out.below hb)
  have T12 := Lib.hid (T12.out.below hb)
  have XS := Lib.hid (XS.out.below hb)
  have S15 := Lib.hid (S15.out.below hb)
  have T15 := Lib.hid (T15.out.below hb)
  have XQ := Lib.hid (XQ.out.below hb)
  have S18 := Lib.hid (S18.out.below hb)
  have T18 := Lib.hid (T18.out.below hb)
  have XT := Lib.hid (XT.out.below hb)
  have U1 := Lib.hid (U1.out.below hb)
  have V1 := Lib.hid (V1.out.below hb)
  have U3 := Lib.hid (U3.out.below hb)
  have V3 := Lib.hid (V3.out.below hb)
  have U5 := Lib.hid (U5.out.below hb)
  have V5 := Lib.hid (V5.out.below hb)
  have U8 := Lib.hid (U8.out.below hb)
  have V8 := Lib.hid (V8.out.below hb)
  have S23 := Lib.hid (S23.out.below hb)
  have S24 := Lib.hid (S24.out.below hb)
  have S26 := Lib.hid (S26.out.below hb)
  have S27 := Lib.hid (S27.out.below hb)
  clear hb
  have S29 := Lib.hid hs
  have T29 := Lib.hid ht
  clear hs ht
  have e0 : w29.cell? ⟨w3.heap.size, 0, none⟩ = some (.bool (nOf (-3))) := XA.out.c 0 rfl
  have e1 : w29.cell? ⟨w3.heap.size, 1, none⟩ = some (.slice A3 n3 c3) := XA.out.c 1 rfl
  have e2 : w29.cell? ⟨w3.heap.size, 2, none⟩ = some (.bool (nOf (2))) := XA.out.c 2 rfl
  have e3 : w29.cell? ⟨w3.heap.size, 3, none⟩ = some (.slice B3 m3 d3) := XA.out.c 3 rfl
  go_wp2_with fail
  ((with_reducible refine (lfrac_any (1) (3) _ (by omega) (by omega) (by omega) (by omega)).mono ?_); rintro e w30 ⟨A30, n30, c30, B30, m30, d30, rfl, hs, ht, hb⟩)
  clear e0 e1 e2 e3
  have TB := Lib.hid (tab_on TB.out hb)
  have BW := Lib.hid (below_on BW.out hb)
  have S3 := Lib.hid (S3.out.below hb)
  have T3 := Lib.hid (T3.out.below hb)
  have XA := Lib.hid (XA.out.below hb)
  have S6 := Lib.hid (S6.out.below hb)
  have T6 := Lib.hid (T6.out.below hb)
  have XZ := Lib.hid (XZ.out.below hb)
  have S12 := Lib.hid (S12.out.below hb)
  have T12 := Lib.hid (T12.out.below hb)
  have XS := Lib.hid (XS.out.below hb)
  have S15 := Lib.hid (S15.out.below hb)
  have T15 := Lib.hid (T15.out.below hb)
  have XQ := Lib.hid (XQ.out.below hb)
  have S18 := Lib.hid (S18.out.below hb)
  have T18 := Lib.hid (T18.out.below hb)
  have XT := Lib.hid (XT.out.below hb)
  have U1 := Lib.hid (U1.out.below hb)
  have V1 := Lib.hid (V1.out.below hb)
  have U3 := Lib.hid (U3.out.below hb)
  have V3 := Lib.hid (V3.out.below hb)
  have U5 := Lib.hid (U5.out.below hb)
  have V5 := Lib.hid (V5.out.below hb)
  have U8 := Lib.hid (U8.out.below hb)
  have V8 := Lib.hid (V8.out.below hb)
  have S23 := Lib.hid (S23.out.below hb)
  have S24 := Lib.hid (S24.out.below hb)
  have S26 := Lib.hid (S26.out.below hb)
  have S27 := Lib.hid (S27.out.below hb)
  have S29 := Lib.hid (S29.out.below hb)
  have T29 := Lib.hid (T29.out.below hb)
  clear hb
  have S30 := Lib.hid hs
  have T30 := Lib.hid ht
  clear hs ht
  have e0 : w30.cell? ⟨w3.heap.size, 0, none⟩ = some (.bool (nOf (-3))) := XA.out.c 0 rfl
  have e1 : w30.cell? ⟨w3.heap.size, 1, none⟩ = some (.slice A3 n3 c3) := XA.out.c 1 rfl
  have e2 : w30.cell? ⟨w3.heap.size, 2, none⟩ = some (.bool (nOf (2))) := XA.out.c 2 rfl
  have e3 : w30.cell? ⟨w3.heap.size, 3, none⟩ = some (.slice B3 m3 d3) := XA.out.c 3 rfl
  go_wp2_with fail
  ((with_reducible refine (rcmp_ok (-1) 2 1 3 (-1) A29 B29 A30 B30 n29 c29 m29 d29 n30 c30 m30 d30 _ S29.out T29.out S30.out T30.out (Fr.small (p := -1) (q := 2) (by omega) (by omega) (by omega) (by omega) (by decide)) (Fr.small (p := 1) (q := 3) (by omega) (by omega) (by omega) (by omega) (by decide)) (by decide)).mono ?_); rintro e w31 ⟨rfl, hb⟩)
  clear e0 e1 e2 e3
  have TB := Lib.hid (tab_on TB.out hb)
  have BW := Lib.hid (below_on BW.out hb)
  have S3 := Lib.hid (S3.out.below hb)
  have T3 := Lib.hid (T3.out.below hb)
  have XA := Lib.hid (XA.out.below hb)
  have S6 := Lib.hid (S6.out.below hb)
  have T6 := Lib.hid (T6.out.below hb)
  have XZ := Lib.hid (XZ.out.below hb)
  have S12 := Lib.hid (S12.out.below hb)
  have T12 := Lib.hid (T12.out.below hb)
  have XS := Lib.hid (XS.out.below hb)
  have S15 := Lib.hid (S15.out.below hb)
  have T15 := Lib.hid (T15.out.below hb)
  have XQ := Lib.hid (XQ.out.below hb)
  have S18 := Lib.hid (S18.out.below hb)
  have T18 := Lib.hid (T18.out.below hb)
  have XT := Lib.hid (XT.out.below hb)
  have U1 := Lib.hid (U1.out.below hb)
  have V1 := Lib.hid (V1.out.below hb)
  have U3 := Lib.hid (U3.out.below hb)
  have V3 := Lib.hid (V3.out.below hb)
  have U5 := Lib.hid (U5.out.below hb)
  have V5 := Lib.hid (V5.out.below hb)
  have U8 := Lib.hid (U8.out.below hb)
  have V8 := Lib.hid (V8.out.below hb)
  have S23 := Lib.hid (S23.out.below hb)
  have S24 := Lib.hid (S24.out.below hb)
  have S26 := Lib.hid (S26.out.below hb)
  have S27 := Lib.hid (S27.out.below hb)
  have S29 := Lib.hid (S29.out.below hb)
  have T29 := Lib.hid (T29.out.below hb)
  have S30 := Lib.hid (S30.out.below hb)
  have T30 := Lib.hid (T30.out.below hb)
  clear hb
  have e0 : w31.cell? ⟨w3.heap.size, 0, none⟩ = some (.bool (nOf (-3))) := XA.out.c 0 rfl
  have e1 : w31.cell? ⟨w3.heap.size, 1, none⟩ = some (.slice A3 n3 c3) := XA.out.c 1 rfl
  have e2 : w31.cell? ⟨w3.heap.size, 2, none⟩ = some (.bool (nOf (2))) := XA.out.c 2 rfl
  have e3 : w31.cell? ⟨w3.heap.size, 3, none⟩ = some (.slice B3 m3 d3) := XA.out.c 3 rfl
  go_wp2_with fail
  ((with_reducible refine (rvalid_ok true (-3) 2 A3 B3 n3 c3 m3 d3 _ S3.out T3.out (Fr.small (p := -3) (q := 2) (by omega) (by omega) (by omega) (by omega) (by decide)).valid).mono ?_); rintro e w32 ⟨rfl, hb⟩)
  clear e0 e1 e2 e3
  have TB := Lib.hid (tab_on TB.out hb)
  have BW := Lib.hid (below_on BW.out hb)
  have S3 := Lib.hid (S3.out.below hb)
  have T3 := Lib.hid (T3.out.below hb)
  have XA := Lib.hid (XA.out.below hb)
  have S6 := Lib.hid (S6.out.below hb)
  have T6 := Lib.hid (T6.out.below hb)
  have XZ := Lib.hid (XZ.out.below hb)
  have S12 := Lib.hid (S12.out.below hb)
  have T12 := Lib.hid (T12.out.below hb)
  have XS := Lib.hid (XS.out.below hb)
  have S15 := Lib.hid (S15.out.below hb)
  have T15 := Lib.hid (T15.out.below hb)
  have XQ := Lib.hid (XQ.out.below hb)
  have S18 := Lib.hid (S18.out.below hb)
  have T18 := Lib.hid (T18.out.below hb)
  have XT := Lib.hid (XT.out.below hb)
  have U1 := Lib.hid (U1.out.below hb)
  have V1 := Lib.hid (V1.out.below hb)
  have U3 := Lib.hid (U3.out.below hb)
  have V3 := Lib.hid (V3.out.below hb)
  have U5 := Lib.hid (U5.out.below hb)
  have V5 := Lib.hid (V5.out.below hb)
  have U8 := Lib.hid (U8.out.below hb)
  have V8 := Lib.hid (V8.out.below hb)
  have S23 := Lib.hid (S23.out.below hb)
  have S24 := Lib.hid (S24.out.below hb)
  have S26 := Lib.hid (S26.out.below hb)
  have S27 := Lib.hid (S27.out.below hb)
  have S29 := Lib.hid (S29.out.below hb)
  have T29 := Lib.hid (T29.out.below hb)
  have S30 := Lib.hid (S30.out.below hb)
  have T30 := Lib.hid (T30.out.below hb)
  clear hb
  have e0 : w32.cell? ⟨w3.heap.size, 0, none⟩ = some (.bool (nOf (-3))) := XA.out.c 0 rfl
  have e1 : w32.cell? ⟨w3.heap.size, 1, none⟩ = some (.slice A3 n3 c3) := XA.out.c 1 rfl
  have e2 : w32.cell? ⟨w3.heap.size, 2, none⟩ = some (.bool (nOf (2))) := XA.out.c 2 rfl
  have e3 : w32.cell? ⟨w3.heap.size, 3, none⟩ = some (.slice B3 m3 d3) := XA.out.c 3 rfl
  go_wp2_with fail
  ((with_reducible refine (lfrac_any (2) (4) _ (by omega) (by omega) (by omega) (by omega)).mono ?_); rintro e w33 ⟨A33, n33, c33, B33, m33, d33, rfl, hs, ht, hb⟩)
  clear e0 e1 e2 e3
  have TB := Lib.hid (tab_on TB.out hb)
  have BW := Lib.hid (below_on BW.out hb)
  have S3 := Lib.hid (S3.out.below hb)
  have T3 := Lib.hid (T3.out.below hb)
  have XA := Lib.hid (XA.out.below hb)
  have S6 := Lib.hid (S6.out.below hb)
  have T6 := Lib.hid (T6.out.below hb)
  have XZ := Lib.hid (XZ.out.below hb)
  have S12 := Lib.hid (S12.out.below hb)
  have T12 := Lib.hid (T12.out.below hb)
  have XS := Lib.hid (XS.out.below hb)
  have S15 := Lib.hid (S15.out.below hb)
  have T15 := Lib.hid (T15.out.below hb)
  have XQ := Lib.hid (XQ.out.below hb)
  have S18 := Lib.hid (S18.out.below hb)
  have T18 := Lib.hid (T18.out.below hb)
  have XT := Lib.hid (XT.out.below hb)
  have U1 := Lib.hid (U1.out.below hb)
  have V1 := Lib.hid (V1.out.below hb)
  have U3 := Lib.hid (U3.out.below hb)
  have V3 := Lib.hid (V3.out.below hb)
  have U5 := Lib.hid (U5.out.below hb)
  have V5 := Lib.hid (V5.out.below hb)
  have U8 := Lib.hid (U8.out.below hb)
  have V8 := Lib.hid (V8.out.below hb)
  have S23 := Lib.hid (S23.out.below hb)
  have S24 := Lib.hid (S24.out.below hb)
  have S26 := Lib.hid (S26.out.below hb)
  have S27 := Lib.hid (S27.out.below hb)
  have S29 := Lib.hid (S29.out.below hb)
  have T29 := Lib.hid (T29.out.below hb)
  have S30 := Lib.hid (S30.out.below hb)
  have T30 := Lib.hid (T30.out.below hb)
  clear hb
  have S33 := Lib.hid hs
  have T33 := Lib.hid ht
  clear hs ht
  have e0 : w33.cell? ⟨w3.heap.size, 0, none⟩ = some (.bool (nOf (-3))) := XA.out.c 0 rfl
  have e1 : w33.cell? ⟨w3.heap.size, 1, none⟩ = some (.slice A3 n3 c3) := XA.out.c 1 rfl
  have e2 : w33.cell? ⟨w3.heap.size, 2, none⟩ = some (.bool (nOf (2))) := XA.out.c 2 rfl
  have e3 : w33.cell? ⟨w3.heap.size, 3, none⟩ = some (.slice B3 m3 d3) := XA.out.c 3 rfl
  go_wp2_with fail
  ((with_reducible refine (rvalid_ok false 2 4 A33 B33 n33 c33 m33 d33 _ S33.out T33.out notfr_24).mono ?_); rintro e w34 ⟨rfl, hb⟩)
  clear e0 e1 e2 e3
  have TB := Lib.hid (tab_on TB.out hb)
  have BW := Lib.hid (below_on BW.out hb)
  have S3 := Lib.hid (S3.out.below hb)
  have T3 := Lib.hid (T3.out.below hb)
  have XA := Lib.hid (XA.out.below hb)
  have S6 := Lib.hid (S6.out.below hb)
  have T6 := Lib.hid (T6.out.below hb)
  have XZ := Lib.hid (XZ.out.below hb)
  have S12 := Lib.hid (S12.out.below hb)
  have T12 := Lib.hid (T12.out.below hb)
  have XS := Lib.hid (XS.out.below hb)
  have S15 := Lib.hid (S15.out.below hb)
  have T15 := Lib.hid (T15.out.below hb)
  have XQ := Lib.hid (XQ.out.below hb)
  have S18 := Lib.hid (S18.out.below hb)
  have T18 := Lib.hid (T18.out.below hb)
  have XT := Lib.hid (XT.out.below hb)
  have U1 := Lib.hid (U1.out.below hb)
  have V1 := Lib.hid (V1.out.below hb)
  have U3 := Lib.hid (U3.out.below hb)
  have V3 := Lib.hid (V3.out.below hb)
  have U5 := Lib.hid (U5.out.below hb)
  have V5 := Lib.hid (V5.out.below hb)
  have U8 := Lib.hid (U8.out.below hb)
  have V8 := Lib.hid (V8.out.below hb)
  have S23 := Lib.hid (S23.out.below hb)
  have S24 := Lib.hid (S24.out.below hb)
  have S26 := Lib.hid (S26.out.below hb)
  have S27 := Lib.hid (S27.out.below hb)
  have S29 := Lib.hid (S29.out.below hb)
  have T29 := Lib.hid (T29.out.below hb)
  have S30 := Lib.hid (S30.out.below hb)
  have T30 := Lib.hid (T30.out.below hb)
  have S33 := Lib.hid (S33.out.below hb)
  have T33 := Lib.hid (T33.out.below hb)
  clear hb
  have e0 : w34.cell? ⟨w3.heap.size, 0, none⟩ = some (.bool (nOf (-3))) := XA.out.c 0 rfl
  have e1 : w34.cell? ⟨w3.heap.size, 1, none⟩ = some (.slice A3 n3 c3) := XA.out.c 1 rfl
  have e2 : w34.cell? ⟨w3.heap.size, 2, none⟩ = some (.bool (nOf (2))) := XA.out.c 2 rfl
  have e3 : w34.cell? ⟨w3.heap.size, 3, none⟩ = some (.slice B3 m3 d3) := XA.out.c 3 rfl
  go_wp2_with fail
  ((with_reducible refine (rint_any (-7) _ (by omega) (by omega)).mono ?_); rintro e w35 ⟨A35, n35, c35, B35, m35, d35, rfl, hs, ht, hb⟩)
  clear e0 e1 e2 e3
  have TB := Lib.hid (tab_on TB.out hb)
  have BW := Lib.hid (below_on BW.out hb)
  have S3 := Lib.hid (S3.out.below hb)
  have T3 := Lib.hid (T3.out.below hb)
  have XA := Lib.hid (XA.out.below hb)
  have S6 := Lib.hid (S6.out.below hb)
  have T6 := Lib.hid (T6.out.below hb)
  have XZ := Lib.hid (XZ.out.below hb)
  have S12 := Lib.hid (S12.out.below hb)
  have T12 := Lib.hid (T12.out.below hb)
  have XS := Lib.hid (XS.out.below hb)
  have S15 := Lib.hid (S15.out.below hb)
  have T15 := Lib.hid (T15.out.below hb)
  have XQ := Lib.hid (XQ.out.below hb)
  have S18 := Lib.hid (S18.out.below hb)
  have T18 := Lib.hid (T18.out.below hb)
  have XT := Lib.hid (XT.out.below hb)
  have U1 := Lib.hid (U1.out.below hb)
  have V1 := Lib.hid (V1.out.below hb)
  have U3 := Lib.hid (U3.out.below hb)
  have V3 := Lib.hid (V3.out.below hb)
  have U5 := Lib.hid (U5.out.below hb)
  have V5 := Lib.hid (V5.out.below hb)
  have U8 := Lib.hid (U8.out.below hb)
  have V8 := Lib.hid (V8.out.below hb)
  have S23 := Lib.hid (S23.out.below hb)
  have S24 := Lib.hid (S24.out.below hb)
  have S26 := Lib.hid (S26.out.below hb)
  have S27 := Lib.hid (S27.out.below hb)
  have S29 := Lib.hid (S29.out.below hb)
  have T29 := Lib.hid (T29.out.below hb)
  have S30 := Lib.hid (S30.out.below hb)
  have T30 := Lib.hid (T30.out.below hb)
  have S33 := Lib.hid (S33.out.below hb)
  have T33 := Lib.hid (T33.out.below hb)
  clear hb
  have S35 := Lib.hid hs
  have T35 := Lib.hid ht
  clear hs ht
  have e0 : w35.cell? ⟨w3.heap.size, 0, none⟩ = some (.bool (nOf (-3))) := XA.out.c 0 rfl
  have e1 : w35.cell? ⟨w3.heap.size, 1, none⟩ = some (.slice A3 n3 c3) := XA.out.c 1 rfl
  have e2 : w35.cell? ⟨w3.heap.size, 2, none⟩ = some (.bool (nOf (2))) := XA.out.c 2 rfl
  have e3 : w35.cell? ⟨w3.heap.size, 3, none⟩ = some (.slice B3 m3 d3) := XA.out.c 3 rfl
  go_wp2_with fail
  ((with_reducible refine (lfrac_any (-7) (1) _ (by omega) (by omega) (by omega) (by omega)).mono ?_); rintro e w36 ⟨A36, n36, c36, B36, m36, d36, rfl, hs, ht, hb⟩)
  clear e0 e1 e2 e3
  have TB := Lib.hid (tab_on TB.out hb)
  have BW := Lib.hid (below_on BW.out hb)
  have S3 := Lib.hid (S3.out.below hb)
  have T3 := Lib.hid (T3.out.below hb)
  have XA := Lib.hid (XA.out.below hb)
  have S6 := Lib.hid (S6.out.below hb)
  have T6 := Lib.hid (T6.out.below hb)
  have XZ := Lib.hid (XZ.out.below hb)
  have S12 := Lib.hid (S12.out.below hb)
  have T12 := Lib.hid (T12.out.below hb)
  have XS := Lib.hid (XS.out.below hb)
  have S15 := Lib.hid (S15.out.below hb)
  have T15 := Lib.hid (T15.out.below hb)
  have XQ := Lib.hid (XQ.out.below hb)
  have S18 := Lib.hid (S18.out.below hb)
  have T18 := Lib.hid (T18.out.below hb)
  have XT := Lib.hid (XT.out.below hb)
  have U1 := Lib.hid (U1.out.below hb)
  have V1 := Lib.hid (V1.out.below hb)
  have U3 := Lib.hid (U3.out.below hb)
  have V3 := Lib.hid (V3.out.below hb)
  have U5 := Lib.hid (U5.out.below hb)
  have V5 := Lib.hid (V5.out.below hb)
  have U8 := Lib.hid (U8.out.below hb)
  have V8 := Lib.hid (V8.out.below hb)
  have S23 := Lib.hid (S23.out.below hb)
  have S24 := Lib.hid (S24.out.below hb)
  have S26 := Lib.hid (S26.out.below hb)
  have S27 := Lib.hid (S27.out.below hb)
  have S29 := Lib.hid (S29.out.below hb)
  have T29 := Lib.hid (T29.out.below hb)
  have S30 := Lib.hid (S30.out.below hb)
  have T30 := Lib.hid (T30.out.below hb)
  have S33 := Lib.hid (S33.out.below hb)
  have T33 := Lib.hid (T33.out.below hb)
  have S35 := Lib.hid (S35.out.below hb)
  have T35 := Lib.hid (T35.out.below hb)
  clear hb
  have S36 := Lib.hid hs
  have T36 := Lib.hid ht
  clear hs ht
  have e0 : w36.cell? ⟨w3.heap.size, 0, none⟩ = some (.bool (nOf (-3))) := XA.out.c 0 rfl
  have e1 : w36.cell? ⟨w3.heap.size, 1, none⟩ = some (.slice A3 n3 c3) := XA.out.c 1 rfl
  have e2 : w36.cell? ⟨w3.heap.size, 2, none⟩ = some (.bool (nOf (2))) := XA.out.c 2 rfl
  have e3 : w36.cell? ⟨w3.heap.size, 3, none⟩ = some (.slice B3 m3 d3) := XA.out.c 3 rfl
  go_wp2_with fail
  ((with_reducible refine (samer_ok (-7) 1 (-7) 1 A35 B35 A36 B36 n35 c35 m35 d35 n36 c36 m36 d36 _ S35.out T35.out S36.out T36.out rfl rfl).mono ?_); rintro e w37 ⟨rfl, hb⟩)
  clear e0 e1 e2 e3
  have TB := Lib.hid (tab_on TB.out hb)
  have BW := Lib.hid (below_on BW.out hb)
  have S3 := Lib.hid (S3.out.below hb)
  have T3 := Lib.hid (T3.out.below hb)
  have XA := Lib.hid (XA.out.below hb)
  have S6 := Lib.hid (S6.out.below hb)
  have T6 := Lib.hid (T6.out.below hb)
  have XZ := Lib.hid (XZ.out.below hb)
  have S12 := Lib.hid (S12.out.below hb)
  have T12 := Lib.hid (T12.out.below hb)
  have XS := Lib.hid (XS.out.below hb)
  have S15 := Lib.hid (S15.out.below hb)
  have T15 := Lib.hid (T15.out.below hb)
  have XQ := Lib.hid (XQ.out.below hb)
  have S18 := Lib.hid (S18.out.below hb)
  have T18 := Lib.hid (T18.out.below hb)
  have XT := Lib.hid (XT.out.below hb)
  have U1 := Lib.hid (U1.out.below hb)
  have V1 := Lib.hid (V1.out.below hb)
  have U3 := Lib.hid (U3.out.below hb)
  have V3 := Lib.hid (V3.out.below hb)
  have U5 := Lib.hid (U5.out.below hb)
  have V5 := Lib.hid (V5.out.below hb)
  have U8 := Lib.hid (U8.out.below hb)
  have V8 := Lib.hid (V8.out.below hb)
  have S23 := Lib.hid (S23.out.below hb)
  have S24 := Lib.hid (S24.out.below hb)
  have S26 := Lib.hid (S26.out.below hb)
  have S27 := Lib.hid (S27.out.below hb)
  have S29 := Lib.hid (S29.out.below hb)
  have T29 := Lib.hid (T29.out.below hb)
  have S30 := Lib.hid (S30.out.below hb)
  have T30 := Lib.hid (T30.out.below hb)
  have S33 := Lib.hid (S33.out.below hb)
  have T33 := Lib.hid (T33.out.below hb)
  have S35 := Lib.hid (S35.out.below hb)
  have T35 := Lib.hid (T35.out.below hb)
  have S36 := Lib.hid (S36.out.below hb)
  have T36 := Lib.hid (T36.out.below hb)
  clear hb
  go_wp2_with fail
  go_ret
  exact ⟨rfl, BW.out⟩
end Go.Proofs.YtfenmogbellhdaaGreatDoor
