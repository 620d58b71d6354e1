/-
  Contract of the program's Div.
-/
import Derived.Test.YtfenmogbellhdaaDoorBigG
namespace Go.Proofs.YtfenmogbellhdaaDoor
open Go.RowKit
attribute [local go_sem ↓] Go.wp_at_zero Go.wp_at_succ

/-- The quotient, rounded down, and the rest; 0 of 0. -/
def qZ (a b : Int) : Int := if b = 0 then 0 else a.fdiv b
def rZ (a b : Int) : Int := if b = 0 then 0 else a.fmod b
theorem div_core {a b x y : Int} (hb : b ≠ 0) (h : a = b * x + y) (hy : 0 < b ∧ 0 ≤ y ∧ y < b ∨ b < 0 ∧ b < y ∧ y ≤ 0) : x = qZ a b ∧ y = rZ a b := by
  unfold qZ rZ
  rw [if_neg hb, if_neg hb]
  have e := Int.mul_fdiv_add_fmod a b
  have hm : (0 < b → 0 ≤ a.fmod b ∧ a.fmod b < b) ∧ (b < 0 → b < a.fmod b ∧ a.fmod b ≤ 0) := by
    refine ⟨fun h => ⟨Int.fmod_nonneg_of_pos a h, Int.fmod_lt_of_pos a h⟩, fun h => ?_⟩
    have e1 : a.fmod b = -((-a).fmod (-b)) := by rw [Int.neg_fmod_neg]; omega
    have h1 := Int.fmod_nonneg_of_pos (-a) (show 0 < -b by omega)
    have h2 := Int.fmod_lt_of_pos (-a) (show 0 < -b by omega)
    omega
  have key : b * (x - a.fdiv b) = a.fmod b - y := by rw [Int.mul_sub]; omega
  have hx : x - a.fdiv b = 0 := by
    rcases hy with ⟨hp, h1, h2⟩ | ⟨hn, h1, h2⟩
    · obtain ⟨m1, m2⟩ := hm.1 hp
      rcases Int.lt_trichotomy (x - a.fdiv b) 0 with h0 | h0 | h0
      · have : b * (x - a.fdiv b) ≤ b * (-1) := Int.mul_le_mul_of_nonneg_left (by omega) (by omega)
        omega
      · exact h0
      · have : b * 1 ≤ b * (x - a.fdiv b) := Int.mul_le_mul_of_nonneg_left (by omega) (by omega)
        omega
    · obtain ⟨m1, m2⟩ := hm.2 hn
      rcases Int.lt_trichotomy (x - a.fdiv b) 0 with h0 | h0 | h0
      · have : b * (-1) ≤ b * (x - a.fdiv b) := Int.mul_le_mul_of_nonpos_left (by omega) (by omega)
        omega
      · exact h0
      · have : b * (x - a.fdiv b) ≤ b * 1 := Int.mul_le_mul_of_nonpos_left (by omega) (by omega)
        omega
  rw [hx, Int.mul_zero] at key
  omega
theorem nat_div (a b : Int) (hb : b ≠ 0) : (a.natAbs : Int) = (b.natAbs : Int) * ((a.natAbs : Int) / (b.natAbs : Int)) + (a.natAbs : Int) % (b.natAbs : Int) ∧ 0 ≤ (a.natAbs : Int) % (b.natAbs : Int) ∧ (a.natAbs : Int) % (b.natAbs : Int) < b.natAbs ∧ 0 ≤ (a.natAbs : Int) / (b.natAbs : Int) :=
  ⟨(Int.mul_ediv_add_emod _ _).symm, Int.emod_nonneg _ (by omega), Int.emod_lt_of_pos _ (by omega), Int.ediv_nonneg (by omega) (by omega)⟩
/-- The signs agree, or nothing is left: the quotient and the rest of the sizes. -/
theorem div_same {a b : Int} (hb : b ≠ 0) (h : (nOf a != nOf b) = false ∨ (a.natAbs : Int) % (b.natAbs : Int) = 0) :
    sgn (nOf a != nOf b) (((a.natAbs : Int) / (b.natAbs : Int)).toNat : Nat) = qZ a b ∧ sgn (nOf b) (((a.natAbs : Int) % (b.natAbs : Int)).toNat : Nat) = rZ a b := by
  obtain ⟨e, h0, h1, h2⟩ := nat_div a b hb
  rw [Int.toNat_of_nonneg h2, Int.toNat_of_nonneg h0]
  generalize (a.natAbs : Int) / (b.natAbs : Int) = x at *
  generalize (a.natAbs : Int) % (b.natAbs : Int) = y at *
  refine div_core hb ?_ ?_
  · unfold sgn nOf at *
    by_cases ha : a < 0 <;> by_cases hb' : b < 0 <;> simp [ha, hb'] at h ⊢
    · rw [show (b.natAbs : Int) = -b by omega, Int.neg_mul] at e; omega
    · rw [show (b.natAbs : Int) = b by omega] at e; rw [Int.mul_neg]; omega
    · rw [show (b.natAbs : Int) = -b by omega, Int.neg_mul] at e; rw [Int.mul_neg]; omega
    · rw [show (b.natAbs : Int) = b by omega] at e; omega
  · unfold sgn nOf
    by_cases hb' : b < 0
    · simp [hb']; omega
    · simp [hb']; omega
/-- The signs differ and something is left. -/
theorem div_diff {a b : Int} (hb : b ≠ 0) (h : (nOf a != nOf b) = true) (hr : 0 < (a.natAbs : Int) % (b.natAbs : Int)) :
    sgn (nOf a != nOf b) (((a.natAbs : Int) / (b.natAbs : Int) + 1).toNat : Nat) = qZ a b ∧ sgn (nOf b) (((b.natAbs : Int) - (a.natAbs : Int) % (b.natAbs : Int)).toNat : Nat) = rZ a b := by
  obtain ⟨e, h0, h1, h2⟩ := nat_div a b hb
  rw [Int.toNat_of_nonneg (by omega), Int.toNat_of_nonneg (by omega), h]
  generalize (a.natAbs : Int) / (b.natAbs : Int) = x at *
  generalize (a.natAbs : Int) % (b.natAbs : Int) = y at *
  refine div_core hb ?_ ?_
  · unfold sgn nOf at *
    by_cases ha : a < 0 <;> by_cases hb' : b < 0 <;> simp [ha, hb'] at h ⊢
    · rw [show (b.natAbs : Int) = b by omega] at e ⊢; rw [Int.mul_neg, Int.mul_add]; omega
    · rw [show (b.natAbs : Int) = -b by omega, Int.neg_mul] at e; rw [show (b.natAbs : Int) = -b by omega, Int.mul_neg, Int.mul_add]; omega
  · unfold sgn nOf
    by_cases hb' : b < 0
    · simp [hb']; omega
    · simp [hb']; omega
theorem quot_len {a b : Int} (h : fitB a = true) : (digs ((a.natAbs : Int) / (b.natAbs : Int)).toNat).length ≤ 200 := by
  refine digs_len_le ?_
  have := fitB_iff.1 h
  have h1 : (a.natAbs : Int) / (b.natAbs : Int) ≤ a.natAbs := Int.ediv_le_self _ (by omega)
  have h2 : 0 ≤ (a.natAbs : Int) / (b.natAbs : Int) := Int.ediv_nonneg (by omega) (by omega)
  omega
theorem rest_len {a b : Int} (hb : b ≠ 0) : (digs ((a.natAbs : Int) % (b.natAbs : Int)).toNat).length ≤ (lOf b).length := by
  refine digs_len_le ?_
  have h1 := digs_len_lt (n := b.natAbs) (k := (lOf b).length) (Nat.le_refl _)
  have h2 := (nat_div a b hb).2.2.1
  have h3 := (nat_div a b hb).2.1
  omega
theorem rest_zero {a b : Int} (h : (digs ((a.natAbs : Int) % (b.natAbs : Int)).toNat).length = 0) : (a.natAbs : Int) % (b.natAbs : Int) = 0 := by
  have := digs_eq_nil.1 (List.eq_nil_of_length_eq_zero h)
  omega
theorem rest_pos {a b : Int} (h : 0 < (digs ((a.natAbs : Int) % (b.natAbs : Int)).toNat).length) : 0 < (a.natAbs : Int) % (b.natAbs : Int) := by
  refine Int.not_le.1 fun hle => ?_
  rw [show ((a.natAbs : Int) % (b.natAbs : Int)).toNat = 0 by omega, digs_zero] at h
  simp at h
theorem qr_zero (a : Int) : qZ a 0 = 0 ∧ rZ a 0 = 0 := ⟨if_pos rfl, if_pos rfl⟩

set_option maxRecDepth 100000 in
set_option maxHeartbeats 2000000 in
theorem div_big (na nb : Bool) (A B : Option Addr) (n c m d : Nat) (xs ys : List Int) (w : World) (ha : Sl w A n c xs) (hb : Sl w B m d ys) :
    Calls Tryd.prog 33 #[.agg #[.bool na, .slice A n c], .agg #[.bool nb, .slice B m d]] w fun e w' => ∃ T k r U l s, e = .returned (.tuple #[.agg #[.bool (nOf (qZ (zOf na xs) (zOf nb ys))), .slice T k r], .agg #[.bool (nOf (rZ (zOf na xs) (zOf nb ys))), .slice U l s], .bool (zOf nb ys != 0)]) ∧ Sl w' T k r (lOf (qZ (zOf na xs) (zOf nb ys))) ∧ Sl w' U l s (lOf (rZ (zOf na xs) (zOf nb ys))) ∧ Below w.heap.size w w' := by
  have HA := Lib.hid ha
  have HB := Lib.hid hb
  have HFA := Lib.hid (fit_zOf na xs)
  have HFB := Lib.hid (fit_zOf nb ys)
  clear ha hb
  go_enter Tryd.func33, Tryd.ntmps33
  go_upto_region 1 with fail
  have X1 := Lib.hid ((((Bx.new w (.bool na) (.slice A n c)).alloc (.cells #[.bool nb, .slice B m d] 35)).alloc (.cells #[.bool false, .slice none 0 0] 35)).alloc (.cells #[.bool false, .slice none 0 0] 35))
  have X2 := Lib.hid (((Bx.new (w.alloc (.cells #[.bool na, .slice A n c] 35)) (.bool nb) (.slice B m d)).alloc (.cells #[.bool false, .slice none 0 0] 35)).alloc (.cells #[.bool false, .slice none 0 0] 35))
  have X3 := Lib.hid ((Bx.new ((w.alloc (.cells #[.bool na, .slice A n c] 35)).alloc (.cells #[.bool nb, .slice B m d] 35)) (.bool false) (.slice none 0 0)).alloc (.cells #[.bool false, .slice none 0 0] 35))
  have X4 := Lib.hid (Bx.new (((w.alloc (.cells #[.bool na, .slice A n c] 35)).alloc (.cells #[.bool nb, .slice B m d] 35)).alloc (.cells #[.bool false, .slice none 0 0] 35)) (.bool false) (.slice none 0 0))
  have BW : Hid (Below w.heap.size w ((((w.alloc (.cells #[.bool na, .slice A n c] 35)).alloc (.cells #[.bool nb, .slice B m d] 35)).alloc (.cells #[.bool false, .slice none 0 0] 35)).alloc (.cells #[.bool false, .slice none 0 0] 35))) := ((((Below.refl _ _).alloc (Nat.le_refl _) _).alloc (by simp) _).alloc (by simp; omega) _).alloc (by simp; omega) _
  rw [alloc_sz] at X2
  rw [alloc_sz, alloc_sz] at X3
  rw [alloc_sz, alloc_sz, alloc_sz] at X4
  generalize (((w.alloc (.cells #[.bool na, .slice A n c] 35)).alloc (.cells #[.bool nb, .slice B m d] 35)).alloc (.cells #[.bool false, .slice none 0 0] 35)).alloc (.cells #[.bool false, .slice none 0 0] 35) = W at *
  go_cut [] (fun wx => Pair w w.heap.size (w.heap.size + 1) (zOf na xs) (zOf nb ys) wx ∧ Bx wx (w.heap.size + 1 + 1) (.bool false) (.slice none 0 0) ∧ Bx wx (w.heap.size + 1 + 1 + 1) (.bool false) (.slice none 0 0))
  case first =>
    have c1 := X1.out.c0
    have c2 := X1.out.c1
    have c3 := X2.out.c0
    have c4 := X2.out.c1
    go_region_with (first | (go_at_call 67; refine (sound_any na A n c xs _ (by first | exact HA.out.below BW.out | exact ((HA.out.below BW.out).drew))).mono ?_; rintro e w1 ⟨R, k, r, rfl, hR, hb⟩; have HR := Lib.hid hR; have BB := Lib.hid (show Below W.heap.size W w1 from (by first | exact hb | exact (Below.refl _ _).drew.trans (hb.mono (Nat.le_refl _)))); have d1 := (X1.out.below BB.out).c0; have d2 := (X1.out.below BB.out).c1; have d3 := (X2.out.below BB.out).c0; have d4 := (X2.out.below BB.out).c1; clear hR hb) | (go_at_call 67; refine (sound_any nb B m d ys _ (by first | exact HB.out.below (below_up BW.out BB.out) | exact ((HB.out.below (below_up BW.out BB.out)).drew))).mono ?_; rintro e w2 ⟨R2, k2, r2, rfl, hR, hb⟩; have HR2 := Lib.hid hR; have HR1 := Lib.hid (show Sl w2 _ _ _ _ from (by first | exact HR.out.below hb | exact Sl.below (w := w1.drew) HR.out.drew hb)); have BC := Lib.hid (show Below W.heap.size W w2 from (by first | exact BB.out.trans (hb.mono BB.out.size) | exact BB.out.drew.trans (hb.mono BB.out.size))); have e1 := (X1.out.below BC.out).c0; have e2 := (X1.out.below BC.out).c1; have e3 := (X2.out.below BC.out).c0; have e4 := (X2.out.below BC.out).c1; have e5 := (X1.out.below BC.out).fz 0; have e6 := (X1.out.below BC.out).fz 1; have e7 := (X2.out.below BC.out).fz 0; have e8 := (X2.out.below BC.out).fz 1; clear hR hb))
    all_goals (go_wp2_with fail; go_meet; exact ⟨pair_end BW.out BC.out X1.out X2.out (by omega) (Nat.le_refl _) (by omega) HR1.out HR2.out, ((((X3.out.below BC.out).far (by show w.heap.size + 1 + 1 ≠ w.heap.size; omega) _).far (by show w.heap.size + 1 + 1 ≠ w.heap.size; omega) _).far (by show w.heap.size + 1 + 1 ≠ w.heap.size + 1; omega) _).far (by show w.heap.size + 1 + 1 ≠ w.heap.size + 1; omega) _, ((((X4.out.below BC.out).far (by show w.heap.size + 1 + 1 + 1 ≠ w.heap.size; omega) _).far (by show w.heap.size + 1 + 1 + 1 ≠ w.heap.size; omega) _).far (by show w.heap.size + 1 + 1 + 1 ≠ w.heap.size + 1; omega) _).far (by show w.heap.size + 1 + 1 + 1 ≠ w.heap.size + 1; omega) _⟩)
  case rest =>
    clear X1 X2 X3 X4 BW HA HB
    generalize hza : zOf na xs = za at *
    generalize hzb : zOf nb ys = zb at *
    have HZA := Lib.hid hza
    have HZB := Lib.hid hzb
    clear hza hzb
    obtain ⟨⟨A', n', c', B', m', d', hx1, hx2, hs1, hs2, hbw⟩, hx3, hx4⟩ := hcut
    have X1 := Lib.hid hx1
    have X2 := Lib.hid hx2
    have X3 := Lib.hid hx3
    have X4 := Lib.hid hx4
    have S1 := Lib.hid hs1
    have S2 := Lib.hid hs2
    have BW := Lib.hid hbw
    have c1 := hx1.c0
    have c2 := hx1.c1
    have c3 := hx2.c0
    have c4 := hx2.c1
    have l1 := hs1.fit HFA.out
    have l2 := hs2.fit HFB.out
    have t1 := hs1.top
    have t2 := hs2.top
    have q1 := hs1.cap
    have q2 := hs2.cap
    clear hx1 hx2 hx3 hx4 hs1 hs2 hbw
    have g1 := X3.out.c0
    have g2 := X3.out.c1
    have g3 := X4.out.c0
    have g4 := X4.out.c1
    have g5 := X3.out.fz 0
    have g6 := X3.out.fz 1
    have g7 := X4.out.fz 0
    have g8 := X4.out.fz 1
    rcases Nat.eq_zero_or_pos m' with h0 | h0
    · subst h0
      have HB0 : Hid (zb = 0) := lOf_nil.1 (List.eq_nil_of_length_eq_zero S2.out.len)
      go_wp2_with fail
      have Y4 := ((X4.out.far (p := ⟨w.heap.size + 1 + 1, 0, none⟩) (by show w.heap.size + 1 + 1 + 1 ≠ w.heap.size + 1 + 1; omega) (.bool false)).far (p := ⟨w.heap.size + 1 + 1, 1, none⟩) (by show w.heap.size + 1 + 1 + 1 ≠ w.heap.size + 1 + 1; omega) (.slice none 0 0))
      refine bodyPost_ret (v := .tuple #[.agg #[.bool false, .slice none 0 0], .agg #[.bool false, .slice none 0 0], .bool false]) (by simp [results, Tryd.results33, go_sem, *]) rfl ⟨none, 0, 0, none, 0, 0, ?_, ?_, ?_, ?_⟩
      · rw [HZA.out, HZB.out, HB0.out, (qr_zero za).1, (qr_zero za).2]; rfl
      · rw [HZA.out, HZB.out, HB0.out, (qr_zero za).1, lOf_zero]; exact Sl.nil _
      · rw [HZA.out, HZB.out, HB0.out, (qr_zero za).2, lOf_zero]; exact Sl.nil _
      · exact (((BW.out.setCell (p := ⟨w.heap.size + 1 + 1, 0, none⟩) (by simp; omega) _).setCell (p := ⟨w.heap.size + 1 + 1, 1, none⟩) (by simp; omega) _).setCell (p := ⟨w.heap.size + 1 + 1 + 1, 0, none⟩) (by simp; omega) _).setCell (p := ⟨w.heap.size + 1 + 1 + 1, 1, none⟩) (by simp; omega) _
    · have hzb : zb ≠ 0 := fun e => by
        have := S2.out.len
        rw [e, lOf_zero] at this; simp at this; omega
      have HNZ : Hid ((zb != 0) = true) := by show (zb != 0) = true; simpa using hzb
      have HNE := Lib.hid hzb
      have z0 : ((m' : Int) == 0) = false := by simp; omega
      clear hzb g1 g2 g3 g4 g5 g6 g7 g8
      go_wp2_with fail
      (refine (divide_any A' B' n' c' m' d' (lOf za) (lOf zb) _ S1.out S2.out (lOf_ok _) (lOf_ok _) (lOf_top _) h0 (by omega) (by omega)).mono ?_; rintro e w3 ⟨Q, k, r, U, l, s, rfl, hQ, hR, hb⟩)
      rw [val_lOf, val_lOf] at hQ hR
      have SQ := Lib.hid hQ
      have SR := Lib.hid hR
      have tq1 := hQ.top
      have tq2 := hQ.cap
      have tr1 := hR.top
      have tr2 := hR.cap
      have hql : k ≤ 200 := by have := quot_len (a := za) (b := zb) HFA.out; rwa [SQ.out.len] at this
      clear c1 c2 c3 c4
      have X1 := Lib.hid (X1.out.below hb)
      have X2 := Lib.hid (X2.out.below hb)
      have X3 := Lib.hid (X3.out.below hb)
      have X4 := Lib.hid (X4.out.below hb)
      have BW := Lib.hid (below_on BW.out hb)
      have S2 := Lib.hid (S2.out.below hb)
      have c1 := X1.out.c0
      have c2 := X1.out.c1
      have c3 := X2.out.c0
      have c4 := X2.out.c1
      clear hQ hR hb S1
      have hlr : Hid (l = (digs ((za.natAbs : Int) % (zb.natAbs : Int)).toNat).length) := SR.out.len.symm
      obtain ⟨sa, hsa⟩ : ∃ s, nOf za = s := ⟨_, rfl⟩
      obtain ⟨sb, hsb⟩ : ∃ s, nOf zb = s := ⟨_, rfl⟩
      rw [hsa] at X1 c1
      rw [hsb] at X2 c3
      have HSA := Lib.hid hsa
      have HSB := Lib.hid hsb
      clear hsa hsb
      have hlm : l ≤ m' := by have := rest_len (a := za) (b := zb) HNE.out; rw [S2.out.len, ← hlr.out] at this; exact this
      cases sa with
      | true =>
        cases sb with
        | true =>
          have HE : Hid (sgn false (((za.natAbs : Int) / (zb.natAbs : Int)).toNat : Nat) = qZ za zb ∧ sgn true (((za.natAbs : Int) % (zb.natAbs : Int)).toNat : Nat) = rZ za zb) := by
            have := div_same (a := za) (b := zb) HNE.out (.inl (by rw [HSA.out, HSB.out]; rfl))
            rw [HSA.out, HSB.out] at this
            exact this
          go_upto_region 8 with fail
          generalize hW : w3 = W at *
          clear hW
          have n1 : ¬ w.heap.size = w.heap.size + 1 + 1 := by omega
          have n2 : ¬ w.heap.size + 1 + 1 = w.heap.size := by omega
          have n3 : ¬ w.heap.size = w.heap.size + 1 + 1 + 1 := by omega
          have n4 : ¬ w.heap.size + 1 + 1 + 1 = w.heap.size := by omega
          have n5 : ¬ w.heap.size + 1 = w.heap.size + 1 + 1 + 1 := by omega
          have n6 : ¬ w.heap.size + 1 + 1 + 1 = w.heap.size + 1 := by omega
          go_region_held3 (fun w' => w'.cell? ⟨w.heap.size, 0, none⟩ = some (.bool true) ∧ w'.cell? ⟨w.heap.size, 1, none⟩ = some (.slice A' n' c') ∧ w'.cell? ⟨w.heap.size + 1, 0, none⟩ = some (.bool true) ∧ w'.cell? ⟨w.heap.size + 1, 1, none⟩ = some (.slice B' m' d')) (go_keep)
            (first | (go_at_call 71; (with_reducible refine (signed_any false Q k r (((za.natAbs : Int) / (zb.natAbs : Int)).toNat) _ (by first | exact SQ.out | exact SQ.out.drew)).mono ?_); rintro e w3 ⟨rfl, hR, hb⟩; rw [HE.out.1] at hR ⊢; have HQ := Lib.hid hR; have BB := Lib.hid (show Below W.heap.size W w3 from (by first | exact hb | exact (Below.refl _ _).drew.trans (hb.mono (Nat.le_refl _)))); have d1 := (X1.out.below BB.out).c0; have d2 := (X1.out.below BB.out).c1; have d3 := (X2.out.below BB.out).c0; have d4 := (X2.out.below BB.out).c1; clear hR hb) | (go_at_call 71; (with_reducible refine (signed_any true U l s (((za.natAbs : Int) % (zb.natAbs : Int)).toNat) _ (SR.out.below BB.out)).mono ?_); rintro e w4 ⟨rfl, hR, hb⟩; rw [HE.out.2] at hR ⊢; have HR := Lib.hid hR; have HQ4 := Lib.hid (HQ.out.below hb); have BD := Lib.hid (below_up BB.out hb); have d1 := (X1.out.below BD.out).c0; have d2 := (X1.out.below BD.out).c1; have d3 := (X2.out.below BD.out).c0; have d4 := (X2.out.below BD.out).c1; have d5 := (X3.out.below BD.out).c0; have d6 := (X3.out.below BD.out).c1; have d7 := (X3.out.below BD.out).fz 0; have d8 := (X3.out.below BD.out).fz 1; have d9 := (X4.out.below BD.out).c0; have d10 := (X4.out.below BD.out).c1; have d11 := (X4.out.below BD.out).fz 0; have d12 := (X4.out.below BD.out).fz 1; clear hR hb))
          all_goals
            go_wp2_with fail
            have YQ := (X3.out.below BD.out).set_ (.bool (nOf (qZ za zb))) (.slice Q k r)
            have Y4 := ((X4.out.below BD.out).far (p := ⟨w.heap.size + 1 + 1, 0, none⟩) (by show w.heap.size + 1 + 1 + 1 ≠ w.heap.size + 1 + 1; omega) (.bool (nOf (qZ za zb)))).far (p := ⟨w.heap.size + 1 + 1, 1, none⟩) (by show w.heap.size + 1 + 1 + 1 ≠ w.heap.size + 1 + 1; omega) (.slice Q k r)
            refine bodyPost_ret (v := .tuple #[.agg #[.bool (nOf (qZ za zb)), .slice Q k r], .agg #[.bool (nOf (rZ za zb)), .slice U l s], .bool true]) (by simp [results, Tryd.results33, go_sem, *]) rfl ⟨Q, k, r, U, l, s, ?_, ?_, ?_, ?_⟩
            · rw [HZA.out, HZB.out, HNZ.out]
            · rw [HZA.out, HZB.out]; exact (HQ4.out.box (X3.out.below BD.out).box _ _).box Y4.box _ _
            · rw [HZA.out, HZB.out]; exact (HR.out.box (X3.out.below BD.out).box _ _).box Y4.box _ _
            · exact ((((below_up BW.out BD.out).setCell (p := ⟨w.heap.size + 1 + 1, 0, none⟩) (by simp; omega) _).setCell (p := ⟨w.heap.size + 1 + 1, 1, none⟩) (by simp; omega) _).setCell (p := ⟨w.heap.size + 1 + 1 + 1, 0, none⟩) (by simp; omega) _).setCell (p := ⟨w.heap.size + 1 + 1 + 1, 1, none⟩) (by simp; omega) _
        | false =>
          rcases Nat.eq_zero_or_pos l with hl0 | hl0
          · subst hl0
            have HE : Hid (sgn true (((za.natAbs : Int) / (zb.natAbs : Int)).toNat : Nat) = qZ za zb ∧ sgn false (((za.natAbs : Int) % (zb.natAbs : Int)).toNat : Nat) = rZ za zb) := by
              have := div_same (a := za) (b := zb) HNE.out (.inr (rest_zero hlr.out.symm))
              rw [HSA.out, HSB.out] at this
              exact this
            go_upto_region 8 with fail
            generalize hW : w3 = W at *
            clear hW
            have n1 : ¬ w.heap.size = w.heap.size + 1 + 1 := by omega
            have n2 : ¬ w.heap.size + 1 + 1 = w.heap.size := by omega
            have n3 : ¬ w.heap.size = w.heap.size + 1 + 1 + 1 := by omega
            have n4 : ¬ w.heap.size + 1 + 1 + 1 = w.heap.size := by omega
            have n5 : ¬ w.heap.size + 1 = w.heap.size + 1 + 1 + 1 := by omega
            have n6 : ¬ w.heap.size + 1 + 1 + 1 = w.heap.size + 1 := by omega
            go_region_held3 (fun w' => w'.cell? ⟨w.heap.size, 0, none⟩ = some (.bool true) ∧ w'.cell? ⟨w.heap.size, 1, none⟩ = some (.slice A' n' c') ∧ w'.cell? ⟨w.heap.size + 1, 0, none⟩ = some (.bool false) ∧ w'.cell? ⟨w.heap.size + 1, 1, none⟩ = some (.slice B' m' d')) (go_keep)
              (first | (go_at_call 71; (with_reducible refine (signed_any true Q k r (((za.natAbs : Int) / (zb.natAbs : Int)).toNat) _ (by first | exact SQ.out | exact SQ.out.drew)).mono ?_); rintro e w3 ⟨rfl, hR, hb⟩; rw [HE.out.1] at hR ⊢; have HQ := Lib.hid hR; have BB := Lib.hid (show Below W.heap.size W w3 from (by first | exact hb | exact (Below.refl _ _).drew.trans (hb.mono (Nat.le_refl _)))); have d1 := (X1.out.below BB.out).c0; have d2 := (X1.out.below BB.out).c1; have d3 := (X2.out.below BB.out).c0; have d4 := (X2.out.below BB.out).c1; clear hR hb) | (go_at_call 71; (with_reducible refine (signed_any false U 0 s (((za.natAbs : Int) % (zb.natAbs : Int)).toNat) _ (SR.out.below BB.out)).mono ?_); rintro e w4 ⟨rfl, hR, hb⟩; rw [HE.out.2] at hR ⊢; have HR := Lib.hid hR; have HQ4 := Lib.hid (HQ.out.below hb); have BD := Lib.hid (below_up BB.out hb); have d1 := (X1.out.below BD.out).c0; have d2 := (X1.out.below BD.out).c1; have d3 := (X2.out.below BD.out).c0; have d4 := (X2.out.below BD.out).c1; have d5 := (X3.out.below BD.out).c0; have d6 := (X3.out.below BD.out).c1; have d7 := (X3.out.below BD.out).fz 0; have d8 := (X3.out.below BD.out).fz 1; have d9 := (X4.out.below BD.out).c0; have d10 := (X4.out.below BD.out).c1; have d11 := (X4.out.below BD.out).fz 0; have d12 := (X4.out.below BD.out).fz 1; clear hR hb))
            all_goals
              go_wp2_with fail
              have YQ := (X3.out.below BD.out).set_ (.bool (nOf (qZ za zb))) (.slice Q k r)
              have Y4 := ((X4.out.below BD.out).far (p := ⟨w.heap.size + 1 + 1, 0, none⟩) (by show w.heap.size + 1 + 1 + 1 ≠ w.heap.size + 1 + 1; omega) (.bool (nOf (qZ za zb)))).far (p := ⟨w.heap.size + 1 + 1, 1, none⟩) (by show w.heap.size + 1 + 1 + 1 ≠ w.heap.size + 1 + 1; omega) (.slice Q k r)
              refine bodyPost_ret (v := .tuple #[.agg #[.bool (nOf (qZ za zb)), .slice Q k r], .agg #[.bool (nOf (rZ za zb)), .slice U 0 s], .bool true]) (by simp [results, Tryd.results33, go_sem, *]) rfl ⟨Q, k, r, U, 0, s, ?_, ?_, ?_, ?_⟩
              · rw [HZA.out, HZB.out, HNZ.out]
              · rw [HZA.out, HZB.out]; exact (HQ4.out.box (X3.out.below BD.out).box _ _).box Y4.box _ _
              · rw [HZA.out, HZB.out]; exact (HR.out.box (X3.out.below BD.out).box _ _).box Y4.box _ _
              · exact ((((below_up BW.out BD.out).setCell (p := ⟨w.heap.size + 1 + 1, 0, none⟩) (by simp; omega) _).setCell (p := ⟨w.heap.size + 1 + 1, 1, none⟩) (by simp; omega) _).setCell (p := ⟨w.heap.size + 1 + 1 + 1, 0, none⟩) (by simp; omega) _).setCell (p := ⟨w.heap.size + 1 + 1 + 1, 1, none⟩) (by simp; omega) _
          · have z1 : decide ((0 : Int) < (l : Int)) = true := decide_eq_true (by omega)
            have HE : Hid (sgn true (((za.natAbs : Int) / (zb.natAbs : Int) + 1).toNat : Nat) = qZ za zb ∧ sgn false (((zb.natAbs : Int) - (za.natAbs : Int) % (zb.natAbs : Int)).toNat : Nat) = rZ za zb) := by
              have := div_diff (a := za) (b := zb) HNE.out (by rw [HSA.out, HSB.out]; rfl) (rest_pos (by rw [← hlr.out]; exact hl0))
              rw [HSA.out, HSB.out] at this
              exact this
            have ND := Lib.hid (nat_div za zb HNE.out)
            go_wp2_with fail
            (refine (sum_any Q (some ⟨w3.heap.size, 0, none⟩) k r 1 1 _ [1] _ (SQ.out.alloc _) ((Own.new w3 [1]).all rfl (Nat.le_refl _) (by omega)) (digs_ok _) (dOk_cons.2 ⟨by omega, dOk_nil⟩) (by omega) (by omega)).mono ?_; rintro e w4 ⟨Q', k', r', rfl, hQ, hb'⟩)
            have hb := below_box1 hb'
            rw [val_digs, val_one, Int.toNat_of_nonneg ND.out.2.2.2] at hQ
            have SQ := Lib.hid hQ
            have SR := Lib.hid (SR.out.below hb)
            clear c1 c2 c3 c4
            have X1 := Lib.hid (X1.out.below hb)
            have X2 := Lib.hid (X2.out.below hb)
            have X3 := Lib.hid (X3.out.below hb)
            have X4 := Lib.hid (X4.out.below hb)
            have BW := Lib.hid (below_on BW.out hb)
            have S2 := Lib.hid (S2.out.below hb)
            have c1 := X1.out.c0
            have c2 := X1.out.c1
            have c3 := X2.out.c0
            have c4 := X2.out.c1
            clear hQ hb hb'
            go_wp2_with fail
            (refine (difference_any B' U m' d' l s (lOf zb) _ _ S2.out SR.out (lOf_ok _) (digs_ok _) (by omega) hlm (by rw [val_digs, val_lOf, Int.toNat_of_nonneg ND.out.2.1]; have := ND.out.2.2.1; omega)).mono ?_; rintro e w5 ⟨U', l', s', rfl, hR, hb⟩)
            rw [val_digs, val_lOf, Int.toNat_of_nonneg ND.out.2.1] at hR
            have SR := Lib.hid hR
            have SQ := Lib.hid (SQ.out.below hb)
            clear c1 c2 c3 c4
            have X1 := Lib.hid (X1.out.below hb)
            have X2 := Lib.hid (X2.out.below hb)
            have X3 := Lib.hid (X3.out.below hb)
            have X4 := Lib.hid (X4.out.below hb)
            have BW := Lib.hid (below_on BW.out hb)
            have S2 := Lib.hid (S2.out.below hb)
            have c1 := X1.out.c0
            have c2 := X1.out.c1
            have c3 := X2.out.c0
            have c4 := X2.out.c1
            clear hR hb
            go_upto_region 8 with fail
            generalize hW : w5 = W at *
            clear hW
            have n1 : ¬ w.heap.size = w.heap.size + 1 + 1 := by omega
            have n2 : ¬ w.heap.size + 1 + 1 = w.heap.size := by omega
            have n3 : ¬ w.heap.size = w.heap.size + 1 + 1 + 1 := by omega
            have n4 : ¬ w.heap.size + 1 + 1 + 1 = w.heap.size := by omega
            have n5 : ¬ w.heap.size + 1 = w.heap.size + 1 + 1 + 1 := by omega
            have n6 : ¬ w.heap.size + 1 + 1 + 1 = w.heap.size + 1 := by omega
            go_region_held3 (fun w' => w'.cell? ⟨w.heap.size, 0, none⟩ = some (.bool true) ∧ w'.cell? ⟨w.heap.size, 1, none⟩ = some (.slice A' n' c') ∧ w'.cell? ⟨w.heap.size + 1, 0, none⟩ = some (.bool false) ∧ w'.cell? ⟨w.heap.size + 1, 1, none⟩ = some (.slice B' m' d')) (go_keep)
              (first | (go_at_call 71; (with_reducible refine (signed_any true Q' k' r' (((za.natAbs : Int) / (zb.natAbs : Int) + 1).toNat) _ (by first | exact SQ.out | exact SQ.out.drew)).mono ?_); rintro e w3 ⟨rfl, hR, hb⟩; rw [HE.out.1] at hR ⊢; have HQ := Lib.hid hR; have BB := Lib.hid (show Below W.heap.size W w3 from (by first | exact hb | exact (Below.refl _ _).drew.trans (hb.mono (Nat.le_refl _)))); have d1 := (X1.out.below BB.out).c0; have d2 := (X1.out.below BB.out).c1; have d3 := (X2.out.below BB.out).c0; have d4 := (X2.out.below BB.out).c1; clear hR hb) | (go_at_call 71; (with_reducible refine (signed_any false U' l' s' (((zb.natAbs : Int) - (za.natAbs : Int) % (zb.natAbs : Int)).toNat) _ (SR.out.below BB.out)).mono ?_); rintro e w4 ⟨rfl, hR, hb⟩; rw [HE.out.2] at hR ⊢; have HR := Lib.hid hR; have HQ4 := Lib.hid (HQ.out.below hb); have BD := Lib.hid (below_up BB.out hb); have d1 := (X1.out.below BD.out).c0; have d2 := (X1.out.below BD.out).c1; have d3 := (X2.out.below BD.out).c0; have d4 := (X2.out.below BD.out).c1; have d5 := (X3.out.below BD.out).c0; have d6 := (X3.out.below BD.out).c1; have d7 := (X3.out.below BD.out).fz 0; have d8 := (X3.out.below BD.out).fz 1; have d9 := (X4.out.below BD.out).c0; have d10 := (X4.out.below BD.out).c1; have d11 := (X4.out.below BD.out).fz 0; have d12 := (X4.out.below BD.out).fz 1; clear hR hb))
            all_goals
              go_wp2_with fail
              have YQ := (X3.out.below BD.out).set_ (.bool (nOf (qZ za zb))) (.slice Q' k' r')
              have Y4 := ((X4.out.below BD.out).far (p := ⟨w.heap.size + 1 + 1, 0, none⟩) (by show w.heap.size + 1 + 1 + 1 ≠ w.heap.size + 1 + 1; omega) (.bool (nOf (qZ za zb)))).far (p := ⟨w.heap.size + 1 + 1, 1, none⟩) (by show w.heap.size + 1 + 1 + 1 ≠ w.heap.size + 1 + 1; omega) (.slice Q' k' r')
              refine bodyPost_ret (v := .tuple #[.agg #[.bool (nOf (qZ za zb)), .slice Q' k' r'], .agg #[.bool (nOf (rZ za zb)), .slice U' l' s'], .bool true]) (by simp [results, Tryd.results33, go_sem, *]) rfl ⟨Q', k', r', U', l', s', ?_, ?_, ?_, ?_⟩
              · rw [HZA.out, HZB.out, HNZ.out]
              · rw [HZA.out, HZB.out]; exact (HQ4.out.box (X3.out.below BD.out).box _ _).box Y4.box _ _
              · rw [HZA.out, HZB.out]; exact (HR.out.box (X3.out.below BD.out).box _ _).box Y4.box _ _
              · exact ((((below_up BW.out BD.out).setCell (p := ⟨w.heap.size + 1 + 1, 0, none⟩) (by simp; omega) _).setCell (p := ⟨w.heap.size + 1 + 1, 1, none⟩) (by simp; omega) _).setCell (p := ⟨w.heap.size + 1 + 1 + 1, 0, none⟩) (by simp; omega) _).setCell (p := ⟨w.heap.size + 1 + 1 + 1, 1, none⟩) (by simp; omega) _
      | false =>
        cases sb with
        | true =>
          rcases Nat.eq_zero_or_pos l with hl0 | hl0
          · subst hl0
            have HE : Hid (sgn true (((za.natAbs : Int) / (zb.natAbs : Int)).toNat : Nat) = qZ za zb ∧ sgn true (((za.natAbs : Int) % (zb.natAbs : Int)).toNat : Nat) = rZ za zb) := by
              have := div_same (a := za) (b := zb) HNE.out (.inr (rest_zero hlr.out.symm))
              rw [HSA.out, HSB.out] at this
              exact this
            go_upto_region 8 with fail
            generalize hW : w3 = W at *
            clear hW
            have n1 : ¬ w.heap.size = w.heap.size + 1 + 1 := by omega
            have n2 : ¬ w.heap.size + 1 + 1 = w.heap.size := by omega
            have n3 : ¬ w.heap.size = w.heap.size + 1 + 1 + 1 := by omega
            have n4 : ¬ w.heap.size + 1 + 1 + 1 = w.heap.size := by omega
            have n5 : ¬ w.heap.size + 1 = w.heap.size + 1 + 1 + 1 := by omega
            have n6 : ¬ w.heap.size + 1 + 1 + 1 = w.heap.size + 1 := by omega
            go_region_held3 (fun w' => w'.cell? ⟨w.heap.size, 0, none⟩ = some (.bool false) ∧ w'.cell? ⟨w.heap.size, 1, none⟩ = some (.slice A' n' c') ∧ w'.cell? ⟨w.heap.size + 1, 0, none⟩ = some (.bool true) ∧ w'.cell? ⟨w.heap.size + 1, 1, none⟩ = some (.slice B' m' d')) (go_keep)
              (first | (go_at_call 71; (with_reducible refine (signed_any true Q k r (((za.natAbs : Int) / (zb.natAbs : Int)).toNat) _ (by first | exact SQ.out | exact SQ.out.drew)).mono ?_); rintro e w3 ⟨rfl, hR, hb⟩; rw [HE.out.1] at hR ⊢; have HQ := Lib.hid hR; have BB := Lib.hid (show Below W.heap.size W w3 from (by first | exact hb | exact (Below.refl _ _).drew.trans (hb.mono (Nat.le_refl _)))); have d1 := (X1.out.below BB.out).c0; have d2 := (X1.out.below BB.out).c1; have d3 := (X2.out.below BB.out).c0; have d4 := (X2.out.below BB.out).c1; clear hR hb) | (go_at_call 71; (with_reducible refine (signed_any true U 0 s (((za.natAbs : Int) % (zb.natAbs : Int)).toNat) _ (SR.out.below BB.out)).mono ?_); rintro e w4 ⟨rfl, hR, hb⟩; rw [HE.out.2] at hR ⊢; have HR := Lib.hid hR; have HQ4 := Lib.hid (HQ.out.below hb); have BD := Lib.hid (below_up BB.out hb); have d1 := (X1.out.below BD.out).c0; have d2 := (X1.out.below BD.out).c1; have d3 := (X2.out.below BD.out).c0; have d4 := (X2.out.below BD.out).c1; have d5 := (X3.out.below BD.out).c0; have d6 := (X3.out.below BD.out).c1; have d7 := (X3.out.below BD.out).fz 0; have d8 := (X3.out.below BD.out).fz 1; have d9 := (X4.out.below BD.out).c0; have d10 := (X4.out.below BD.out).c1; have d11 := (X4.out.below BD.out).fz 0; have d12 := (X4.out.below BD.out).fz 1; clear hR hb))
            all_goals
              go_wp2_with fail
              have YQ := (X3.out.below BD.out).set_ (.bool (nOf (qZ za zb))) (.slice Q k r)
              have Y4 := ((X4.out.below BD.out).far (p := ⟨w.heap.size + 1 + 1, 0, none⟩) (by show w.heap.size + 1 + 1 + 1 ≠ w.heap.size + 1 + 1; omega) (.bool (nOf (qZ za zb)))).far (p := ⟨w.heap.size + 1 + 1, 1, none⟩) (by show w.heap.size + 1 + 1 + 1 ≠ w.heap.size + 1 + 1; omega) (.slice Q k r)
              refine bodyPost_ret (v := .tuple #[.agg #[.bool (nOf (qZ za zb)), .slice Q k r], .agg #[.bool (nOf (rZ za zb)), .slice U 0 s], .bool true]) (by simp [results, Tryd.results33, go_sem, *]) rfl ⟨Q, k, r, U, 0, s, ?_, ?_, ?_, ?_⟩
              · rw [HZA.out, HZB.out, HNZ.out]
              · rw [HZA.out, HZB.out]; exact (HQ4.out.box (X3.out.below BD.out).box _ _).box Y4.box _ _
              · rw [HZA.out, HZB.out]; exact (HR.out.box (X3.out.below BD.out).box _ _).box Y4.box _ _
              · exact ((((below_up BW.out BD.out).setCell (p := ⟨w.heap.size + 1 + 1, 0, none⟩) (by simp; omega) _).setCell (p := ⟨w.heap.size + 1 + 1, 1, none⟩) (by simp; omega) _).setCell (p := ⟨w.heap.size + 1 + 1 + 1, 0, none⟩) (by simp; omega) _).setCell (p := ⟨w.heap.size + 1 + 1 + 1, 1, none⟩) (by simp; omega) _
          · have z1 : decide ((0 : Int) < (l : Int)) = true := decide_eq_true (by omega)
            have HE : Hid (sgn true (((za.natAbs : Int) / (zb.natAbs : Int) + 1).toNat : Nat) = qZ za zb ∧ sgn true (((zb.natAbs : Int) - (za.natAbs : Int) % (zb.natAbs : Int)).toNat : Nat) = rZ za zb) := by
              have := div_diff (a := za) (b := zb) HNE.out (by rw [HSA.out, HSB.out]; rfl) (rest_pos (by rw [← hlr.out]; exact hl0))
              rw [HSA.out, HSB.out] at this
              exact this
            have ND := Lib.hid (nat_div za zb HNE.out)
            go_wp2_with fail
            (refine (sum_any Q (some ⟨w3.heap.size, 0, none⟩) k r 1 1 _ [1] _ (SQ.out.alloc _) ((Own.new w3 [1]).all rfl (Nat.le_refl _) (by omega)) (digs_ok _) (dOk_cons.2 ⟨by omega, dOk_nil⟩) (by omega) (by omega)).mono ?_; rintro e w4 ⟨Q', k', r', rfl, hQ, hb'⟩)
            have hb := below_box1 hb'
            rw [val_digs, val_one, Int.toNat_of_nonneg ND.out.2.2.2] at hQ
            have SQ := Lib.hid hQ
            have SR := Lib.hid (SR.out.below hb)
            clear c1 c2 c3 c4
            have X1 := Lib.hid (X1.out.below hb)
            have X2 := Lib.hid (X2.out.below hb)
            have X3 := Lib.hid (X3.out.below hb)
            have X4 := Lib.hid (X4.out.below hb)
            have BW := Lib.hid (below_on BW.out hb)
            have S2 := Lib.hid (S2.out.below hb)
            have c1 := X1.out.c0
            have c2 := X1.out.c1
            have c3 := X2.out.c0
            have c4 := X2.out.c1
            clear hQ hb hb'
            go_wp2_with fail
            (refine (difference_any B' U m' d' l s (lOf zb) _ _ S2.out SR.out (lOf_ok _) (digs_ok _) (by omega) hlm (by rw [val_digs, val_lOf, Int.toNat_of_nonneg ND.out.2.1]; have := ND.out.2.2.1; omega)).mono ?_; rintro e w5 ⟨U', l', s', rfl, hR, hb⟩)
            rw [val_digs, val_lOf, Int.toNat_of_nonneg ND.out.2.1] at hR
            have SR := Lib.hid hR
            have SQ := Lib.hid (SQ.out.below hb)
            clear c1 c2 c3 c4
            have X1 := Lib.hid (X1.out.below hb)
            have X2 := Lib.hid (X2.out.below hb)
            have X3 := Lib.hid (X3.out.below hb)
            have X4 := Lib.hid (X4.out.below hb)
            have BW := Lib.hid (below_on BW.out hb)
            have S2 := Lib.hid (S2.out.below hb)
            have c1 := X1.out.c0
            have c2 := X1.out.c1
            have c3 := X2.out.c0
            have c4 := X2.out.c1
            clear hR hb
            go_upto_region 8 with fail
            generalize hW : w5 = W at *
            clear hW
            have n1 : ¬ w.heap.size = w.heap.size + 1 + 1 := by omega
            have n2 : ¬ w.heap.size + 1 + 1 = w.heap.size := by omega
            have n3 : ¬ w.heap.size = w.heap.size + 1 + 1 + 1 := by omega
            have n4 : ¬ w.heap.size + 1 + 1 + 1 = w.heap.size := by omega
            have n5 : ¬ w.heap.size + 1 = w.heap.size + 1 + 1 + 1 := by omega
            have n6 : ¬ w.heap.size + 1 + 1 + 1 = w.heap.size + 1 := by omega
            go_region_held3 (fun w' => w'.cell? ⟨w.heap.size, 0, none⟩ = some (.bool false) ∧ w'.cell? ⟨w.heap.size, 1, none⟩ = some (.slice A' n' c') ∧ w'.cell? ⟨w.heap.size + 1, 0, none⟩ = some (.bool true) ∧ w'.cell? ⟨w.heap.size + 1, 1, none⟩ = some (.slice B' m' d')) (go_keep)
              (first | (go_at_call 71; (with_reducible refine (signed_any true Q' k' r' (((za.natAbs : Int) / (zb.natAbs : Int) + 1).toNat) _ (by first | exact SQ.out | exact SQ.out.drew)).mono ?_); rintro e w3 ⟨rfl, hR, hb⟩; rw [HE.out.1] at hR ⊢; have HQ := Lib.hid hR; have BB := Lib.hid (show Below W.heap.size W w3 from (by first | exact hb | exact (Below.refl _ _).drew.trans (hb.mono (Nat.le_refl _)))); have d1 := (X1.out.below BB.out).c0; have d2 := (X1.out.below BB.out).c1; have d3 := (X2.out.below BB.out).c0; have d4 := (X2.out.below BB.out).c1; clear hR hb) | (go_at_call 71; (with_reducible refine (signed_any true U' l' s' (((zb.natAbs : Int) - (za.natAbs : Int) % (zb.natAbs : Int)).toNat) _ (SR.out.below BB.out)).mono ?_); rintro e w4 ⟨rfl, hR, hb⟩; rw [HE.out.2] at hR ⊢; have HR := Lib.hid hR; have HQ4 := Lib.hid (HQ.out.below hb); have BD := Lib.hid (below_up BB.out hb); have d1 := (X1.out.below BD.out).c0; have d2 := (X1.out.below BD.out).c1; have d3 := (X2.out.below BD.out).c0; have d4 := (X2.out.below BD.out).c1; have d5 := (X3.out.below BD.out).c0; have d6 := (X3.out.below BD.out).c1; have d7 := (X3.out.below BD.out).fz 0; have d8 := (X3.out.below BD.out).fz 1; have d9 := (X4.out.below BD.out).c0; have d10 := (X4.out.below BD.out).c1; have d11 := (X4.out.below BD.out).fz 0; have d12 := (X4.out.below BD.out).fz 1; clear hR hb))
            all_goals
              go_wp2_with fail
              have YQ := (X3.out.below BD.out).set_ (.bool (nOf (qZ za zb))) (.slice Q' k' r')
              have Y4 := ((X4.out.below BD.out).far (p := ⟨w.heap.size + 1 + 1, 0, none⟩) (by show w.heap.size + 1 + 1 + 1 ≠ w.heap.size + 1 + 1; omega) (.bool (nOf (qZ za zb)))).far (p := ⟨w.heap.size + 1 + 1, 1, none⟩) (by show w.heap.size + 1 + 1 + 1 ≠ w.heap.size + 1 + 1; omega) (.slice Q' k' r')
              refine bodyPost_ret (v := .tuple #[.agg #[.bool (nOf (qZ za zb)), .slice Q' k' r'], .agg #[.bool (nOf (rZ za zb)), .slice U' l' s'], .bool true]) (by simp [results, Tryd.results33, go_sem, *]) rfl ⟨Q', k', r', U', l', s', ?_, ?_, ?_, ?_⟩
              · rw [HZA.out, HZB.out, HNZ.out]
              · rw [HZA.out, HZB.out]; exact (HQ4.out.box (X3.out.below BD.out).box _ _).box Y4.box _ _
              · rw [HZA.out, HZB.out]; exact (HR.out.box (X3.out.below BD.out).box _ _).box Y4.box _ _
              · exact ((((below_up BW.out BD.out).setCell (p := ⟨w.heap.size + 1 + 1, 0, none⟩) (by simp; omega) _).setCell (p := ⟨w.heap.size + 1 + 1, 1, none⟩) (by simp; omega) _).setCell (p := ⟨w.heap.size + 1 + 1 + 1, 0, none⟩) (by simp; omega) _).setCell (p := ⟨w.heap.size + 1 + 1 + 1, 1, none⟩) (by simp; omega) _
        | false =>
          have HE : Hid (sgn false (((za.natAbs : Int) / (zb.natAbs : Int)).toNat : Nat) = qZ za zb ∧ sgn false (((za.natAbs : Int) % (zb.natAbs : Int)).toNat : Nat) = rZ za zb) := by
            have := div_same (a := za) (b := zb) HNE.out (.inl (by rw [HSA.out, HSB.out]; rfl))
            rw [HSA.out, HSB.out] at this
            exact this
          go_upto_region 8 with fail
          generalize hW : w3 = W at *
          clear hW
          have n1 : ¬ w.heap.size = w.heap.size + 1 + 1 := by omega
          have n2 : ¬ w.heap.size + 1 + 1 = w.heap.size := by omega
          have n3 : ¬ w.heap.size = w.heap.size + 1 + 1 + 1 := by omega
          have n4 : ¬ w.heap.size + 1 + 1 + 1 = w.heap.size := by omega
          have n5 : ¬ w.heap.size + 1 = w.heap.size + 1 + 1 + 1 := by omega
          have n6 : ¬ w.heap.size + 1 + 1 + 1 = w.heap.size + 1 := by omega
          go_region_held3 (fun w' => w'.cell? ⟨w.heap.size, 0, none⟩ = some (.bool false) ∧ w'.cell? ⟨w.heap.size, 1, none⟩ = some (.slice A' n' c') ∧ w'.cell? ⟨w.heap.size + 1, 0, none⟩ = some (.bool false) ∧ w'.cell? ⟨w.heap.size + 1, 1, none⟩ = some (.slice B' m' d')) (go_keep)
            (first | (go_at_call 71; (with_reducible refine (signed_any false Q k r (((za.natAbs : Int) / (zb.natAbs : Int)).toNat) _ (by first | exact SQ.out | exact SQ.out.drew)).mono ?_); rintro e w3 ⟨rfl, hR, hb⟩; rw [HE.out.1] at hR ⊢; have HQ := Lib.hid hR; have BB := Lib.hid (show Below W.heap.size W w3 from (by first | exact hb | exact (Below.refl _ _).drew.trans (hb.mono (Nat.le_refl _)))); have d1 := (X1.out.below BB.out).c0; have d2 := (X1.out.below BB.out).c1; have d3 := (X2.out.below BB.out).c0; have d4 := (X2.out.below BB.out).c1; clear hR hb) | (go_at_call 71; (with_reducible refine (signed_any false U l s (((za.natAbs : Int) % (zb.natAbs : Int)).toNat) _ (SR.out.below BB.out)).mono ?_); rintro e w4 ⟨rfl, hR, hb⟩; rw [HE.out.2] at hR ⊢; have HR := Lib.hid hR; have HQ4 := Lib.hid (HQ.out.below hb); have BD := Lib.hid (below_up BB.out hb); have d1 := (X1.out.below BD.out).c0; have d2 := (X1.out.below BD.out).c1; have d3 := (X2.out.below BD.out).c0; have d4 := (X2.out.below BD.out).c1; have d5 := (X3.out.below BD.out).c0; have d6 := (X3.out.below BD.out).c1; have d7 := (X3.out.below BD.out).fz 0; have d8 := (X3.out.below BD.out).fz 1; have d9 := (X4.out.below BD.out).c0; have d10 := (X4.out.below BD.out).c1; have d11 := (X4.out.below BD.out).fz 0; have d12 := (X4.out.below BD.out).fz 1; clear hR hb))
          all_goals
            go_wp2_with fail
            have YQ := (X3.out.below BD.out).set_ (.bool (nOf (qZ za zb))) (.slice Q k r)
            have Y4 := ((X4.out.below BD.out).far (p := ⟨w.heap.size + 1 + 1, 0, none⟩) (by show w.heap.size + 1 + 1 + 1 ≠ w.heap.size + 1 + 1; omega) (.bool (nOf (qZ za zb)))).far (p := ⟨w.heap.size + 1 + 1, 1, none⟩) (by show w.heap.size + 1 + 1 + 1 ≠ w.heap.size + 1 + 1; omega) (.slice Q k r)
            refine bodyPost_ret (v := .tuple #[.agg #[.bool (nOf (qZ za zb)), .slice Q k r], .agg #[.bool (nOf (rZ za zb)), .slice U l s], .bool true]) (by simp [results, Tryd.results33, go_sem, *]) rfl ⟨Q, k, r, U, l, s, ?_, ?_, ?_, ?_⟩
            · rw [HZA.out, HZB.out, HNZ.out]
            · rw [HZA.out, HZB.out]; exact (HQ4.out.box (X3.out.below BD.out).box _ _).box Y4.box _ _
            · rw [HZA.out, HZB.out]; exact (HR.out.box (X3.out.below BD.out).box _ _).box Y4.box _ _
            · exact ((((below_up BW.out BD.out).setCell (p := ⟨w.heap.size + 1 + 1, 0, none⟩) (by simp; omega) _).setCell (p := ⟨w.heap.size + 1 + 1, 1, none⟩) (by simp; omega) _).setCell (p := ⟨w.heap.size + 1 + 1 + 1, 0, none⟩) (by simp; omega) _).setCell (p := ⟨w.heap.size + 1 + 1 + 1, 1, none⟩) (by simp; omega) _

end Go.Proofs.YtfenmogbellhdaaDoor
