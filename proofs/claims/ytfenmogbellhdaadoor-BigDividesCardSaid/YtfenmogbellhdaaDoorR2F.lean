/-
  The reference's Gcd (layer 2).
-/
import Derived.Test.YtfenmogbellhdaaDoorR2E
namespace Go.Proofs.YtfenmogbellhdaaDoor
open Go.RowKit

theorem len_mod2 {x y : Nat} (hy : 0 < y) : (digs (x % y)).length ≤ (digs y).length := by
  refine digs_len_le ?_
  have h1 := Nat.mod_lt x hy
  have h2 := digs_len_lt (n := y) (k := (digs y).length) (Nat.le_refl _)
  omega
theorem fit_g2 {a b : Int} (ha : fitB a = true) (hb : fitB b = true) : fitB (gZ a b) = true := by
  rw [fitB_iff] at ha hb ⊢
  unfold gZ
  by_cases h : b = 0
  · subst h; simp; exact ha
  · have := Nat.gcd_le_right a.natAbs (show 0 < b.natAbs by omega)
    omega
theorem sgn_gcd (a b : Int) : sgn false (Nat.gcd a.natAbs b.natAbs : Nat) = gZ a b := by
  unfold sgn gZ; simp
set_option maxRecDepth 100000 in
set_option maxHeartbeats 4000000 in
theorem r2gcd_any (na nb : Bool) (A B : Option Addr) (n c m d : Nat) (xs ys : List Int) (w : World) (ha : Sl w A n c xs) (hb : Sl w B m d ys) :
    Calls Tryd.prog 37 #[.agg #[.bool na, .slice A n c], .agg #[.bool nb, .slice B m d]] w fun e w' => ∃ T k r, e = .returned (.agg #[.bool (nOf (gZ (zOf na xs) (zOf nb ys))), .slice T k r]) ∧ Sl w' T k r (lOf (gZ (zOf na xs) (zOf nb ys))) ∧ Below w.heap.size w w' := by
  have S1 := Lib.hid ha
  have S2 := Lib.hid hb
  clear ha hb
  have FA := Lib.hid (fit_zOf na xs)
  have FB := Lib.hid (fit_zOf nb ys)
  have BW := Lib.hid (Below.refl w.heap.size w)
  go_enter Tryd.func37, Tryd.ntmps37
  go_upto_region 1 with fail
  have S1 := Lib.hid (S1.out.alloc (.cells #[.bool na, .slice A n c] 35))
  have S2 := Lib.hid (S2.out.alloc (.cells #[.bool na, .slice A n c] 35))
  have BW := Lib.hid (BW.out.alloc BW.out.size (.cells #[.bool na, .slice A n c] 35))
  have X1 := Lib.hid (Bk.new 35 w #[.bool na, .slice A n c])
  have S1 := Lib.hid (S1.out.alloc (.cells #[.bool nb, .slice B m d] 35))
  have S2 := Lib.hid (S2.out.alloc (.cells #[.bool nb, .slice B m d] 35))
  have BW := Lib.hid (BW.out.alloc BW.out.size (.cells #[.bool nb, .slice B m d] 35))
  have X1 := Lib.hid (X1.out.alloc (.cells #[.bool nb, .slice B m d] 35))
  have X2 := Lib.hid (Bk.new 35 (w.alloc (.cells #[.bool na, .slice A n c] 35)) #[.bool nb, .slice B m d])
  rw [alloc_sz] at X2
  have S1 := Lib.hid (S1.out.alloc (.cells #[.bool false, .slice none 0 0] 35))
  have S2 := Lib.hid (S2.out.alloc (.cells #[.bool false, .slice none 0 0] 35))
  have BW := Lib.hid (BW.out.alloc BW.out.size (.cells #[.bool false, .slice none 0 0] 35))
  have X1 := Lib.hid (X1.out.alloc (.cells #[.bool false, .slice none 0 0] 35))
  have X2 := Lib.hid (X2.out.alloc (.cells #[.bool false, .slice none 0 0] 35))
  have X3 := Lib.hid (Bk.new 35 ((w.alloc (.cells #[.bool na, .slice A n c] 35)).alloc (.cells #[.bool nb, .slice B m d] 35)) #[.bool false, .slice none 0 0])
  rw [alloc_sz, alloc_sz] at X3
  generalize (((w.alloc (.cells #[.bool na, .slice A n c] 35)).alloc (.cells #[.bool nb, .slice B m d] 35)).alloc (.cells #[.bool false, .slice none 0 0] 35)) = W0 at *
  have e0 : W0.cell? ⟨w.heap.size, 0, none⟩ = some (.bool na) := X1.out.c 0 rfl
  have e1 : W0.cell? ⟨w.heap.size, 1, none⟩ = some (.slice A n c) := X1.out.c 1 rfl
  have e2 : W0.cell? ⟨w.heap.size + 1, 0, none⟩ = some (.bool nb) := X2.out.c 0 rfl
  have e3 : W0.cell? ⟨w.heap.size + 1, 1, none⟩ = some (.slice B m d) := X2.out.c 1 rfl
  go_region_held3 (fun w' => w'.cell? ⟨w.heap.size, 0, none⟩ = some (.bool na) ∧ w'.cell? ⟨w.heap.size, 1, none⟩ = some (.slice A n c) ∧ w'.cell? ⟨w.heap.size + 1, 0, none⟩ = some (.bool nb) ∧ w'.cell? ⟨w.heap.size + 1, 1, none⟩ = some (.slice B m d)) (go_keep)
    (first | (go_at_call 72; (with_reducible refine (rdigits_any na A n c xs _ (by first | exact S1.out | exact S1.out.drew)).mono ?_); rintro e a1 ⟨T1, k1, r1, rfl, hs, hb⟩; have BB1 := Lib.hid (show Below W0.heap.size W0 a1 from (by first | exact hb | exact (Below.refl _ _).drew.trans (hb.mono (Nat.le_refl _)))); have S3 := Lib.hid hs; clear hs; have f0 : a1.cell? ⟨w.heap.size, 0, none⟩ = some (.bool na) := (X1.out.below BB1.out).c 0 rfl; have f1 : a1.cell? ⟨w.heap.size, 1, none⟩ = some (.slice A n c) := (X1.out.below BB1.out).c 1 rfl; have f2 : a1.cell? ⟨w.heap.size + 1, 0, none⟩ = some (.bool nb) := (X2.out.below BB1.out).c 0 rfl; have f3 : a1.cell? ⟨w.heap.size + 1, 1, none⟩ = some (.slice B m d) := (X2.out.below BB1.out).c 1 rfl; clear hb) | (go_at_call 72; (with_reducible refine (rdigits_any nb B m d ys _ (S2.out.below BB1.out)).mono ?_); rintro e a2 ⟨T2, k2, r2, rfl, hs, hb⟩; have BB2 := Lib.hid (below_up BB1.out hb); have S3 := Lib.hid (S3.out.below hb); have S4 := Lib.hid hs; clear hs; have f0 : a2.cell? ⟨w.heap.size, 0, none⟩ = some (.bool na) := (X1.out.below BB2.out).c 0 rfl; have f1 : a2.cell? ⟨w.heap.size, 1, none⟩ = some (.slice A n c) := (X1.out.below BB2.out).c 1 rfl; have f2 : a2.cell? ⟨w.heap.size + 1, 0, none⟩ = some (.bool nb) := (X2.out.below BB2.out).c 0 rfl; have f3 : a2.cell? ⟨w.heap.size + 1, 1, none⟩ = some (.slice B m d) := (X2.out.below BB2.out).c 1 rfl; clear hb))
  clear e0 e1 e2 e3
  try clear f0 f1 f2 f3
  have S1 := Lib.hid (S1.out.below BB2.out)
  have S2 := Lib.hid (S2.out.below BB2.out)
  have BW := Lib.hid (below_on BW.out BB2.out)
  have X1 := Lib.hid (X1.out.below BB2.out)
  have X2 := Lib.hid (X2.out.below BB2.out)
  have X3 := Lib.hid (X3.out.below BB2.out)
  have l1 := S3.out.fit FA.out
  have l2 := S4.out.fit FB.out
  have X3 := Lib.hid X3.out
  obtain ⟨W1, hW1⟩ : ∃ W1, a2 = W1 := ⟨_, rfl⟩
  rw [hW1] at S3 S4 BW X3 ⊢
  clear hW1
  go_wp2_with fail
  go_loopg [5, 6] ((zOf nb ys).natAbs) (fun gk s0 s1 wr => ∃ (A' : Option Addr) (n' c' : Nat) (B' : Option Addr) (m' d' u : Nat), s0 = .slice A' n' c' ∧ s1 = .slice B' m' d' ∧ Sl wr A' n' c' (digs u) ∧ Sl wr B' m' d' (digs gk) ∧ Nat.gcd u gk = Nat.gcd (zOf na xs).natAbs (zOf nb ys).natAbs ∧ n' ≤ 200 ∧ m' ≤ 200 ∧ Below W1.heap.size W1 wr)
  case atStart => exact ⟨T1, k1, r1, T2, k2, r2, (zOf na xs).natAbs, rfl, rfl, S3.out, S4.out, rfl, l1, l2, Below.refl _ _⟩
  case round =>
    obtain ⟨A', n', c', B', m', d', u, rfl, rfl, hs1, hs2, hg, l3, l4, hbw⟩ := hrel
    have S1 := Lib.hid hs1
    have S2 := Lib.hid hs2
    have HG := Lib.hid hg
    have BB := Lib.hid hbw
    clear hs1 hs2 hg hbw
    rcases Nat.eq_zero_or_pos m' with h0 | h0
    · have hgk : Hid (gk = 0) := digs_eq_nil.1 (List.eq_nil_of_length_eq_zero (by rw [S2.out.len]; exact h0))
      have HX : Hid (u = Nat.gcd (zOf na xs).natAbs (zOf nb ys).natAbs) := by
        have := HG.out
        rw [hgk.out, Nat.gcd_zero_right] at this
        exact this
      have h1 : ¬ (0 : Int) < (m' : Int) := by omega
      have FZ : Hid (fitZ (sgn false (u : Nat)) = gZ (zOf na xs) (zOf nb ys)) := by
        show fitZ _ = _
        rw [HX.out, sgn_gcd]; exact fitZ_of (fit_g2 FA.out FB.out)
      go_wp2_with fail
      (refine (number_any false A' n' c' (digs u) u _ S1.out (by omega) (digs_ok _) (val_digs _)).mono ?_; rintro e w5 ⟨T, k, r, rfl, hs, hb⟩)
      rw [FZ.out] at hs ⊢
      have S5 := Lib.hid hs
      have BB := Lib.hid (below_on BB.out hb)
      clear hs hb
      have X3 := Lib.hid (X3.out.below BB.out)
      have BW := Lib.hid (below_on BW.out BB.out)
      go_upto_region 7 with fail
      have Y1 := Lib.hid (Bk.new 35 w5 #[.bool (nOf (gZ (zOf na xs) (zOf nb ys))), .slice T k r])
      have S5 := Lib.hid (S5.out.alloc (.cells #[.bool (nOf (gZ (zOf na xs) (zOf nb ys))), .slice T k r] 35))
      have X3 := Lib.hid (X3.out.alloc (.cells #[.bool (nOf (gZ (zOf na xs) (zOf nb ys))), .slice T k r] 35))
      have BW := Lib.hid (BW.out.alloc BW.out.size (.cells #[.bool (nOf (gZ (zOf na xs) (zOf nb ys))), .slice T k r] 35))
      have e0 := X3.out.c 0 (v := .bool false) rfl
      have e1 := X3.out.c 1 (v := .slice none 0 0) rfl
      have z0 := X3.out.fz 0
      have z1 := X3.out.fz 1
      go_wp2_with fail
      refine bodyPost_ret (v := .agg #[.bool (nOf (gZ (zOf na xs) (zOf nb ys))), .slice T k r]) (by simp [results, Tryd.results37, go_sem, *]) rfl ⟨T, k, r, rfl, S5.out.bk2 X3.out _ _, below_set2 BW.out (by omega) _ _⟩
    · have hgk : 0 < gk := by
        refine Nat.pos_of_ne_zero fun e => ?_
        have := S2.out.len
        rw [e, digs_zero] at this; simp at this; omega
      have HM := Lib.hid (Nat.mod_lt u hgk)
      have HN := Lib.hid (show Nat.gcd gk (u % gk) = Nat.gcd (zOf na xs).natAbs (zOf nb ys).natAbs by rw [← HG.out, Nat.gcd_comm u gk, Nat.gcd_rec gk u, Nat.gcd_comm])
      have h1 : (0 : Int) < (m' : Int) := by omega
      go_wp2_with fail
      (refine (rdivide_any A' B' n' c' m' d' (digs u) (digs gk) _ S1.out S2.out (digs_ok _) (digs_ok _) (by rw [val_digs]; omega) (by omega) (by omega)).mono ?_; rintro e w5 ⟨Q, kq, rq, U, ul, us, rfl, hQ, hR, hb⟩)
      rw [val_digs, val_digs, ← Int.natCast_emod, Int.toNat_natCast] at hR
      have SU := Lib.hid hR
      have S5 := Lib.hid (S2.out.below hb)
      have B5 := Lib.hid (below_on BB.out hb)
      have HL : Hid (ul ≤ m') := by
        have := len_mod2 (x := u) hgk
        rw [SU.out.len, S2.out.len] at this
        exact this
      clear hQ hR hb
      go_wp2_with fail
      go_roundg (u % gk)
      case rel => exact ⟨B', m', d', U, ul, us, gk, rfl, rfl, S5.out, SU.out, HN.out, l4, Nat.le_trans HL.out l4, B5.out⟩
      case measure => exact HM.out
end Go.Proofs.YtfenmogbellhdaaDoor
