/-
  Contract of the program's Gcd.
-/
import Derived.Test.YtfenmogbellhdaaDoorBigJ
import Derived.Test.YtfenmogbellhdaaDoorBigK
import Derived.Deep.LoopGhost
namespace Go.Proofs.YtfenmogbellhdaaDoor
open Go.RowKit
attribute [local go_sem ↓] Go.wp_at_zero Go.wp_at_succ

/-- The greatest common divisor. -/
def gZ (a b : Int) : Int := (Nat.gcd a.natAbs b.natAbs : Nat)
theorem mag_nat {x : Nat} (h : x ≤ 9999999999999999) : mag (x : Int) = x := by
  unfold mag
  rw [if_neg (by omega), if_neg (by omega)]
theorem gcdV_nat {x y : Nat} (hx : x ≤ 9999999999999999) (hy : y ≤ 9999999999999999) : gcdV (x : Int) (y : Int) = (Nat.gcd x y : Nat) := by
  unfold gcdV
  rw [mag_nat hx, mag_nat hy]
  rfl
theorem digs_small {x : Nat} (h : (digs x).length ≤ 4) : x ≤ 9999999999999999 := by
  have := digs_len_lt h
  have e : pw 4 = 10000000000000000 := rfl
  omega
theorem gcd_le4 {x y : Nat} (hy : 0 < y) (hy2 : y ≤ 9999999999999999) : Nat.gcd x y ≤ 9999999999999999 := by
  have : Nat.gcd x y ≤ y := Nat.gcd_le_right x hy
  omega
theorem mod_len {x y : Nat} (hy : 0 < y) : (digs (x % y)).length ≤ (digs y).length := by
  refine digs_len_le ?_
  have h1 := digs_len_lt (n := y) (k := (digs y).length) (Nat.le_refl _)
  have h2 := Nat.mod_lt x hy
  omega

set_option maxRecDepth 100000 in
set_option maxHeartbeats 2000000 in
theorem gcd_big (na nb : Bool) (A B : Option Addr) (n c m d : Nat) (xs ys : List Int) (w : World) (ha : Sl w A n c xs) (hb : Sl w B m d ys) :
    Calls Tryd.prog 36 #[.agg #[.bool na, .slice A n c], .agg #[.bool nb, .slice B m d]] w fun e w' => ∃ T k r, e = .returned (.agg #[.bool (nOf (gZ (zOf na xs) (zOf nb ys))), .slice T k r]) ∧ Sl w' T k r (lOf (gZ (zOf na xs) (zOf nb ys))) ∧ Below w.heap.size w w' := by
  have HA := Lib.hid ha
  have HB := Lib.hid hb
  have HFA := Lib.hid (fit_zOf na xs)
  have HFB := Lib.hid (fit_zOf nb ys)
  clear ha hb
  go_enter Tryd.func36, Tryd.ntmps36
  go_upto_region 1 with fail
  have X1 := Lib.hid (((Bx.new w (.bool na) (.slice A n c)).alloc (.cells #[.bool nb, .slice B m d] 35)).alloc (.cells #[.bool false, .slice none 0 0] 35))
  have X2 := Lib.hid ((Bx.new (w.alloc (.cells #[.bool na, .slice A n c] 35)) (.bool nb) (.slice B m d)).alloc (.cells #[.bool false, .slice none 0 0] 35))
  have X3 := Lib.hid (Bx.new ((w.alloc (.cells #[.bool na, .slice A n c] 35)).alloc (.cells #[.bool nb, .slice B m d] 35)) (.bool false) (.slice none 0 0))
  have BW : Hid (Below w.heap.size w (((w.alloc (.cells #[.bool na, .slice A n c] 35)).alloc (.cells #[.bool nb, .slice B m d] 35)).alloc (.cells #[.bool false, .slice none 0 0] 35))) := (((Below.refl _ _).alloc (Nat.le_refl _) _).alloc (by simp) _).alloc (by simp; omega) _
  rw [alloc_sz] at X2
  rw [alloc_sz, alloc_sz] at X3
  generalize ((w.alloc (.cells #[.bool na, .slice A n c] 35)).alloc (.cells #[.bool nb, .slice B m d] 35)).alloc (.cells #[.bool false, .slice none 0 0] 35) = W at *
  have hfd : ∀ (W : World) (b : Bool) (v : Option Addr) (i j : Nat), (Instr.field 35 (.agg #[.bool b, .slice v i j]) 1).run Tryd.prog W = .ok (.slice v i j) W := fun _ _ _ _ _ => by kernel_rfl
  have c1 := X1.out.c0
  have c2 := X1.out.c1
  have c3 := X2.out.c0
  have c4 := X2.out.c1
  go_region_held3 (fun w' => w'.cell? ⟨w.heap.size, 0, none⟩ = some (.bool na) ∧ w'.cell? ⟨w.heap.size, 1, none⟩ = some (.slice A n c) ∧ w'.cell? ⟨w.heap.size + 1, 0, none⟩ = some (.bool nb) ∧ w'.cell? ⟨w.heap.size + 1, 1, none⟩ = some (.slice B m d)) (go_keep)
    (first | (go_at_call 67; (with_reducible refine (sound_any na A n c xs _ (by first | exact HA.out.below BW.out | exact (HA.out.below BW.out).drew)).mono ?_); rintro e w3 ⟨R, k, r, rfl, hR, hb⟩; have HR := Lib.hid hR; have BB := Lib.hid (show Below W.heap.size W w3 from (by first | exact hb | exact (Below.refl _ _).drew.trans (hb.mono (Nat.le_refl _)))); have d1 := (X1.out.below BB.out).c0; have d2 := (X1.out.below BB.out).c1; have d3 := (X2.out.below BB.out).c0; have d4 := (X2.out.below BB.out).c1; clear hR hb) | (go_at_call 67; (with_reducible refine (sound_any nb B m d ys _ (HB.out.below (below_up BW.out BB.out))).mono ?_); rintro e w4 ⟨T, l, s, rfl, hR, hb⟩; have HT := Lib.hid hR; have HR4 := Lib.hid (HR.out.below hb); have BD := Lib.hid (below_up BB.out hb); have d1 := (X1.out.below BD.out).c0; have d2 := (X1.out.below BD.out).c1; have d3 := (X2.out.below BD.out).c0; have d4 := (X2.out.below BD.out).c1; clear hR hb))
  generalize hza : zOf na xs = za at *
  generalize hzb : zOf nb ys = zb at *
  have HZA := Lib.hid hza
  have HZB := Lib.hid hzb
  have B4 := Lib.hid (below_up BW.out BD.out)
  have X4 := Lib.hid (X3.out.below BD.out)
  clear hfd hza hzb c1 c2 c3 c4 d1 d2 d3 d4 X1 X2 X3 HA HB HR BB BD BW
  have l1 := HR4.out.fit HFA.out
  have l2 := HT.out.fit HFB.out
  go_wp2_with fail
  go_loopg [5, 6] zb.natAbs (fun gk s5 s6 wr => ∃ (A' : Option Addr) (n' c' : Nat) (B' : Option Addr) (m' d' x : Nat), s5 = .slice A' n' c' ∧ s6 = .slice B' m' d' ∧ Sl wr A' n' c' (digs x) ∧ Sl wr B' m' d' (digs gk) ∧ Nat.gcd x gk = Nat.gcd za.natAbs zb.natAbs ∧ n' ≤ 200 ∧ m' ≤ 200 ∧ Below w.heap.size w wr ∧ Bx wr (w.heap.size + 1 + 1) (.bool false) (.slice none 0 0))
  case atStart => exact ⟨R, k, r, T, l, s, za.natAbs, rfl, rfl, HR4.out, HT.out, rfl, l1, l2, B4.out, X4.out⟩
  case round =>
    obtain ⟨A', n', c', B', m', d', x, rfl, rfl, hs1, hs2, hg, l3, l4, hbw, hbx⟩ := hrel
    have S1 := Lib.hid hs1
    have S2 := Lib.hid hs2
    have HG := Lib.hid hg
    have BW := Lib.hid hbw
    have BX := Lib.hid hbx
    have t1 := hs1.top
    have t2 := hs2.top
    have q1 := hs1.cap
    have q2 := hs2.cap
    clear hs1 hs2 hg hbw hbx l1 l2
    rcases Nat.eq_zero_or_pos m' with h0 | h0
    · subst h0
      have hgk : Hid (gk = 0) := digs_eq_nil.1 (List.eq_nil_of_length_eq_zero S2.out.len)
      have HX : Hid (((x : Nat) : Int) = gZ za zb) := by
        have := HG.out
        rw [hgk.out, Nat.gcd_zero_right] at this
        show ((x : Nat) : Int) = gZ za zb
        unfold gZ; rw [this]
      go_wp2_with fail
      (refine (copied_any A' n' c' n' (digs x) _ _ S1.out (Nat.le_refl _) (by omega) rfl).mono ?_; rintro e w5 ⟨g, rfl, hg, how, hb⟩)
      have HO := Lib.hid (how.copy S1.out.len (by omega))
      have B5 := Lib.hid (BW.out.trans (hb.mono BW.out.size))
      have X5 := Lib.hid (BX.out.below hb)
      clear hg how hb
      go_wp2_with fail
      (refine (signed_any false (some ⟨g, 0, none⟩) n' n' x _ HO.out).mono ?_; rintro e w6 ⟨rfl, hR, hb⟩)
      rw [show sgn false ((x : Nat) : Int) = gZ za zb from HX.out] at hR ⊢
      have HQ := Lib.hid hR
      have B6 := Lib.hid (B5.out.trans (hb.mono B5.out.size))
      have X6 := Lib.hid (X5.out.below hb)
      have d1 := X6.out.c0
      have d2 := X6.out.c1
      have d3 := X6.out.fz 0
      have d4 := X6.out.fz 1
      clear hR hb
      go_wp2_with fail
      refine bodyPost_ret (v := .agg #[.bool (nOf (gZ za zb)), .slice (some ⟨g, 0, none⟩) n' n']) (by simp [results, Tryd.results36, go_sem, *]) rfl ⟨some ⟨g, 0, none⟩, n', n', ?_, ?_, ?_⟩
      · rw [HZA.out, HZB.out]
      · rw [HZA.out, HZB.out]; exact HQ.out.box X6.out.box _ _
      · exact (B6.out.setCell (p := ⟨w.heap.size + 1 + 1, 0, none⟩) (by simp; omega) _).setCell (p := ⟨w.heap.size + 1 + 1, 1, none⟩) (by simp; omega) _
    · have hgk : 0 < gk := by
        refine Nat.pos_of_ne_zero fun e => ?_
        have := S2.out.len
        rw [e, digs_zero] at this; simp at this; omega
      by_cases h4 : n' ≤ 4 ∧ m' ≤ 4
      · obtain ⟨h5, h6⟩ := h4
        have hx := digs_small (x := x) (by rw [S1.out.len]; exact h5)
        have hy := digs_small (x := gk) (by rw [S2.out.len]; exact h6)
        have HX : Hid (gcdV (x : Int) (gk : Int) = gZ za zb) := by
          show gcdV (x : Int) (gk : Int) = gZ za zb
          rw [gcdV_nat hx hy, HG.out]; rfl
        have hgl := gcd_le4 (x := x) hgk hy
        have p1 : (n' : Int) ≤ 4 := by omega
        have p2 : (m' : Int) ≤ 4 := by omega
        have p3 : decide ((n' : Int) ≤ 4) = true := decide_eq_true p1
        go_wp2_with fail
        (refine (small_any A' n' c' (digs x) _ S1.out (digs_ok _) (by omega)).mono ?_; rintro e w5 ⟨rfl, rfl⟩)
        rw [val_digs]
        go_wp2_with fail
        (refine (small_any B' m' d' (digs gk) _ S2.out (digs_ok _) (by omega)).mono ?_; rintro e w5 ⟨rfl, rfl⟩)
        rw [val_digs]
        go_wp2_with fail
        (refine (gcd_any _ _ _ (by omega) (by omega) (by omega) (by omega)).mono ?_; rintro e w5 ⟨rfl, rfl⟩)
        go_wp2_with fail
        (refine (of_any _ _ (by rw [gcdV_nat hx hy]; omega) (by rw [gcdV_nat hx hy]; omega)).mono ?_; rintro e w6 ⟨Q, kq, rq, rfl, hR, hb⟩)
        rw [HX.out] at hR ⊢
        have HQ := Lib.hid hR
        have B6 := Lib.hid (BW.out.trans (hb.mono BW.out.size))
        have X6 := Lib.hid (BX.out.below hb)
        have d1 := X6.out.c0
        have d2 := X6.out.c1
        have d3 := X6.out.fz 0
        have d4 := X6.out.fz 1
        clear hR hb
        go_wp2_with fail
        refine bodyPost_ret (v := .agg #[.bool (nOf (gZ za zb)), .slice Q kq rq]) (by simp [results, Tryd.results36, go_sem, *]) rfl ⟨Q, kq, rq, ?_, ?_, ?_⟩
        · rw [HZA.out, HZB.out]
        · rw [HZA.out, HZB.out]; exact HQ.out.box X6.out.box _ _
        · exact (B6.out.setCell (p := ⟨w.heap.size + 1 + 1, 0, none⟩) (by simp; omega) _).setCell (p := ⟨w.heap.size + 1 + 1, 1, none⟩) (by simp; omega) _
      · have HM := Lib.hid (Nat.mod_lt x hgk)
        have HN := Lib.hid (show Nat.gcd gk (x % gk) = Nat.gcd za.natAbs zb.natAbs by rw [← HG.out, Nat.gcd_comm x gk, Nat.gcd_rec gk x, Nat.gcd_comm])
        by_cases h5 : n' ≤ 4
        · have h6 : ¬ m' ≤ 4 := fun h => h4 ⟨h5, h⟩
          have p1 : (n' : Int) ≤ 4 := by omega
          have p3 : decide ((n' : Int) ≤ 4) = true := decide_eq_true p1
          have p4 : decide ((m' : Int) ≤ 4) = false := decide_eq_false (by omega)
          clear h4
          go_wp2_with fail
          (refine (divide_any A' B' n' c' m' d' (digs x) (digs gk) _ S1.out S2.out (digs_ok _) (digs_ok _) (digs_top _) h0 (by omega) (by omega)).mono ?_; rintro e w5 ⟨Q, kq, rq, U, ul, us, rfl, hQ, hR, hb⟩)
          rw [val_digs, val_digs, ← Int.natCast_emod, Int.toNat_natCast] at hR
          have SU := Lib.hid hR
          have S5 := Lib.hid (S2.out.below hb)
          have B5 := Lib.hid (BW.out.trans (hb.mono BW.out.size))
          have X5 := Lib.hid (BX.out.below hb)
          have HL : Hid (ul ≤ m') := by
            have := mod_len (x := x) hgk
            rw [SU.out.len, S2.out.len] at this
            exact this
          clear hQ hR hb
          go_wp2_with fail
          go_roundg (x % gk)
          case rel => exact ⟨B', m', d', U, ul, us, gk, rfl, rfl, S5.out, SU.out, HN.out, l4, Nat.le_trans HL.out l4, B5.out, X5.out⟩
          case measure => exact HM.out
        · have p3 : decide ((n' : Int) ≤ 4) = false := decide_eq_false (by omega)
          clear h4
          go_wp2_with fail
          (refine (divide_any A' B' n' c' m' d' (digs x) (digs gk) _ S1.out S2.out (digs_ok _) (digs_ok _) (digs_top _) h0 (by omega) (by omega)).mono ?_; rintro e w5 ⟨Q, kq, rq, U, ul, us, rfl, hQ, hR, hb⟩)
          rw [val_digs, val_digs, ← Int.natCast_emod, Int.toNat_natCast] at hR
          have SU := Lib.hid hR
          have S5 := Lib.hid (S2.out.below hb)
          have B5 := Lib.hid (BW.out.trans (hb.mono BW.out.size))
          have X5 := Lib.hid (BX.out.below hb)
          have HL : Hid (ul ≤ m') := by
            have := mod_len (x := x) hgk
            rw [SU.out.len, S2.out.len] at this
            exact this
          clear hQ hR hb
          go_wp2_with fail
          go_roundg (x % gk)
          case rel => exact ⟨B', m', d', U, ul, us, gk, rfl, rfl, S5.out, SU.out, HN.out, l4, Nat.le_trans HL.out l4, B5.out, X5.out⟩
          case measure => exact HM.out
end Go.Proofs.YtfenmogbellhdaaDoor
