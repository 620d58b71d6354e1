/-
  Contract of rat's compare.
-/
import Derived.Test.YtfenmogbellhdaaGreatDoorRatF
import Derived.Test.YtfenmogbellhdaaGreatDoorRatMathC
import Derived.BigRegion
namespace Go.Proofs.YtfenmogbellhdaaGreatDoor
open Go.RowKit

/-- The two boxes of compare. -/
structure PairC (w : World) (p q p' q' : Int) (A1 : Option Addr) (n1 c1 : Nat) (B1 : Option Addr) (m1 d1 : Nat) (A2 : Option Addr) (n2 c2 : Nat) (B2 : Option Addr) (m2 d2 : Nat) (wx : World) : Prop where
  x1 : Bk 26 wx w.heap.size #[.bool (nOf (p)), .slice A1 n1 c1, .bool (nOf (q)), .slice B1 m1 d1]
  x2 : Bk 26 wx (w.heap.size + 1) #[.bool (nOf (p')), .slice A2 n2 c2, .bool (nOf (q')), .slice B2 m2 d2]
  s1 : Sl wx A1 n1 c1 (lOf p)
  s2 : Sl wx B1 m1 d1 (lOf q)
  s3 : Sl wx A2 n2 c2 (lOf p')
  s4 : Sl wx B2 m2 d2 (lOf q')
  bw : Below w.heap.size w wx
/-- What holds at the head of compare's loop. -/
def CompAt (w : World) (p q p' q' : Int) (gk : Nat) (wr : World) : Prop :=
  ∃ (P Q P' Q' : Int) (A1 : Option Addr) (n1 c1 : Nat) (B1 : Option Addr) (m1 d1 : Nat) (A2 : Option Addr) (n2 c2 : Nat) (B2 : Option Addr) (m2 d2 : Nat), PairC w P Q P' Q' A1 n1 c1 B1 m1 d1 A2 n2 c2 B2 m2 d2 wr ∧ fitB P = true ∧ fitB Q = true ∧ fitB P' = true ∧ fitB Q' = true ∧ 0 < Q ∧ 0 < Q' ∧ cmpI (P * Q') (P' * Q) = cmpI (p * q') (p' * q) ∧ (Q + Q').toNat = gk
theorem comp_turn {w W : World} {p q p' q' r r' : Int} {A1 B1 A2 B2 U U' : Option Addr} {n1 c1 m1 d1 n2 c2 m2 d2 l s l' s' : Nat}
    (X1 : Bk 26 W w.heap.size #[.bool (nOf (p)), .slice A1 n1 c1, .bool (nOf (q)), .slice B1 m1 d1]) (X2 : Bk 26 W (w.heap.size + 1) #[.bool (nOf (p')), .slice A2 n2 c2, .bool (nOf (q')), .slice B2 m2 d2])
    (S4 : Sl W B2 m2 d2 (lOf q')) (S8 : Sl W U' l' s' (lOf r')) (S2 : Sl W B1 m1 d1 (lOf q)) (S6 : Sl W U l s (lOf r)) (BW : Below w.heap.size w W) :
    PairC w q' r' q r B2 m2 d2 U' l' s' B1 m1 d1 U l s ((((((((W.setCell ⟨w.heap.size, 0, none⟩ (.bool (nOf q'))).setCell ⟨w.heap.size, 1, none⟩ (.slice B2 m2 d2)).setCell ⟨w.heap.size, 2, none⟩ (.bool (nOf r'))).setCell ⟨w.heap.size, 3, none⟩ (.slice U' l' s')).setCell ⟨w.heap.size + 1, 0, none⟩ (.bool (nOf q))).setCell ⟨w.heap.size + 1, 1, none⟩ (.slice B1 m1 d1)).setCell ⟨w.heap.size + 1, 2, none⟩ (.bool (nOf r))).setCell ⟨w.heap.size + 1, 3, none⟩ (.slice U l s)) := by
  have hne : w.heap.size ≠ w.heap.size + 1 := by omega
  have Y1 := X1.set4 (.bool (nOf q')) (.slice B2 m2 d2) (.bool (nOf r')) (.slice U' l' s')
  have Y2 := X2.far4 (Ne.symm hne) (.bool (nOf q')) (.slice B2 m2 d2) (.bool (nOf r')) (.slice U' l' s')
  exact ⟨Y1.far4 hne _ _ _ _, Y2.set4 _ _ _ _, (S4.bk4 X1 _ _ _ _).bk4 Y2 _ _ _ _, (S8.bk4 X1 _ _ _ _).bk4 Y2 _ _ _ _, (S2.bk4 X1 _ _ _ _).bk4 Y2 _ _ _ _, (S6.bk4 X1 _ _ _ _).bk4 Y2 _ _ _ _, below_set4 (below_set4 BW (Nat.le_refl _) _ _ _ _) (by omega) _ _ _ _⟩
theorem PairC.of_drew {w wx : World} {p q p' q' : Int} {A1 B1 A2 B2 : Option Addr} {n1 c1 m1 d1 n2 c2 m2 d2 : Nat} (h : PairC w p q p' q' A1 n1 c1 B1 m1 d1 A2 n2 c2 B2 m2 d2 wx) : PairC w p q p' q' A1 n1 c1 B1 m1 d1 A2 n2 c2 B2 m2 d2 wx.drew :=
  ⟨h.x1.drew, h.x2.drew, h.s1.drew, h.s2.drew, h.s3.drew, h.s4.drew, h.bw.drew⟩
theorem cmp_nz {a b : Int} (h : a ≠ b) : (cmpI a b == 0) = false := by
  rcases (by omega : a < b ∨ b < a) with h | h
  · rw [cmpI_lt h]; rfl
  · rw [cmpI_gt h]; rfl
set_option maxHeartbeats 8000000 in
theorem comp_any (p q p' q' : Int) (A1 B1 A2 B2 : Option Addr) (n1 c1 m1 d1 n2 c2 m2 d2 : Nat) (w : World) (ha : Sl w A1 n1 c1 (lOf p)) (hb : Sl w B1 m1 d1 (lOf q)) (hc : Sl w A2 n2 c2 (lOf p')) (hd : Sl w B2 m2 d2 (lOf q')) (h1 : fitB p = true) (h2 : fitB q = true) (h3 : fitB p' = true) (h4 : fitB q' = true) (h5 : 0 < q) (h6 : 0 < q') :
    Calls Tryz.prog 37 #[.agg #[.bool (nOf (p)), .slice A1 n1 c1, .bool (nOf (q)), .slice B1 m1 d1], .agg #[.bool (nOf (p')), .slice A2 n2 c2, .bool (nOf (q')), .slice B2 m2 d2]] w fun e w' => e = .returned (.int .i64 (cmpI (p * q') (p' * q))) ∧ Below w.heap.size w w' := by
  have S1 := Lib.hid ha
  have S2 := Lib.hid hb
  have S3 := Lib.hid hc
  have S4 := Lib.hid hd
  clear ha hb hc hd
  have H1 := Lib.hid h1
  have H2 := Lib.hid h2
  have H3 := Lib.hid h3
  have H4 := Lib.hid h4
  have H5 := Lib.hid h5
  have H6 := Lib.hid h6
  clear h1 h2 h3 h4 h5 h6
  have BW := Lib.hid (Below.refl w.heap.size w)
  go_enter Tryz.func37, Tryz.ntmps37
  go_wp2_with fail
  have S1 := Lib.hid (S1.out.alloc (.cells #[.bool (nOf (p)), .slice A1 n1 c1, .bool (nOf (q)), .slice B1 m1 d1] 26))
  have S2 := Lib.hid (S2.out.alloc (.cells #[.bool (nOf (p)), .slice A1 n1 c1, .bool (nOf (q)), .slice B1 m1 d1] 26))
  have S3 := Lib.hid (S3.out.alloc (.cells #[.bool (nOf (p)), .slice A1 n1 c1, .bool (nOf (q)), .slice B1 m1 d1] 26))
  have S4 := Lib.hid (S4.out.alloc (.cells #[.bool (nOf (p)), .slice A1 n1 c1, .bool (nOf (q)), .slice B1 m1 d1] 26))
  have BW := Lib.hid (BW.out.alloc BW.out.size (.cells #[.bool (nOf (p)), .slice A1 n1 c1, .bool (nOf (q)), .slice B1 m1 d1] 26))
  have X1 := Lib.hid (Bk.new 26 w #[.bool (nOf (p)), .slice A1 n1 c1, .bool (nOf (q)), .slice B1 m1 d1])
  have S1 := Lib.hid (S1.out.alloc (.cells #[.bool (nOf (p')), .slice A2 n2 c2, .bool (nOf (q')), .slice B2 m2 d2] 26))
  have S2 := Lib.hid (S2.out.alloc (.cells #[.bool (nOf (p')), .slice A2 n2 c2, .bool (nOf (q')), .slice B2 m2 d2] 26))
  have S3 := Lib.hid (S3.out.alloc (.cells #[.bool (nOf (p')), .slice A2 n2 c2, .bool (nOf (q')), .slice B2 m2 d2] 26))
  have S4 := Lib.hid (S4.out.alloc (.cells #[.bool (nOf (p')), .slice A2 n2 c2, .bool (nOf (q')), .slice B2 m2 d2] 26))
  have BW := Lib.hid (BW.out.alloc BW.out.size (.cells #[.bool (nOf (p')), .slice A2 n2 c2, .bool (nOf (q')), .slice B2 m2 d2] 26))
  have X1 := Lib.hid (X1.out.alloc (.cells #[.bool (nOf (p')), .slice A2 n2 c2, .bool (nOf (q')), .slice B2 m2 d2] 26))
  have X2 := Lib.hid (Bk.new 26 (w.alloc (.cells #[.bool (nOf (p)), .slice A1 n1 c1, .bool (nOf (q)), .slice B1 m1 d1] 26)) #[.bool (nOf (p')), .slice A2 n2 c2, .bool (nOf (q')), .slice B2 m2 d2])
  rw [alloc_sz] at X2
  generalize ((w.alloc (.cells #[.bool (nOf (p)), .slice A1 n1 c1, .bool (nOf (q)), .slice B1 m1 d1] 26)).alloc (.cells #[.bool (nOf (p')), .slice A2 n2 c2, .bool (nOf (q')), .slice B2 m2 d2] 26)) = W0 at *
  go_loopg [] ((q + q').toNat) (fun gk wr => CompAt w p q p' q' gk wr)
  case atStart => exact ⟨p, q, p', q', A1, n1, c1, B1, m1, d1, A2, n2, c2, B2, m2, d2, ⟨X1.out, X2.out, S1.out, S2.out, S3.out, S4.out, BW.out⟩, H1.out, H2.out, H3.out, H4.out, H5.out, H6.out, rfl, rfl⟩
  case round =>
    clear X1 X2 S1 S2 S3 S4 BW H1 H2 H3 H4 H5 H6
    obtain ⟨P, Q, P', Q', A1, n1, c1, B1, m1, d1, A2, n2, c2, B2, m2, d2, ⟨x1, x2, s1, s2, s3, s4, bw⟩, h1, h2, h3, h4, h5, h6, he, hk⟩ := hrel
    have X1 := Lib.hid x1
    have X2 := Lib.hid x2
    have S1 := Lib.hid s1
    have S2 := Lib.hid s2
    have S3 := Lib.hid s3
    have S4 := Lib.hid s4
    have BW := Lib.hid bw
    have H1 := Lib.hid h1
    have H2 := Lib.hid h2
    have H3 := Lib.hid h3
    have H4 := Lib.hid h4
    have H5 := Lib.hid h5
    have H6 := Lib.hid h6
    have HE := Lib.hid he
    have HK := Lib.hid hk
    have N1 : Hid (Q ≠ 0) := (by omega : Q ≠ 0)
    have N2 : Hid (Q' ≠ 0) := (by omega : Q' ≠ 0)
    have R1 := Lib.hid ((qr_facts P Q N1.out).2.1 h5)
    have R2 := Lib.hid ((qr_facts P' Q' N2.out).2.1 h6)
    clear x1 x2 s1 s2 s3 s4 bw h1 h2 h3 h4 h5 h6 he hk
    have e0 : wr.cell? ⟨w.heap.size, 0, none⟩ = some (.bool (nOf (P))) := X1.out.c 0 rfl
    have e1 : wr.cell? ⟨w.heap.size, 1, none⟩ = some (.slice A1 n1 c1) := X1.out.c 1 rfl
    have e2 : wr.cell? ⟨w.heap.size, 2, none⟩ = some (.bool (nOf (Q))) := X1.out.c 2 rfl
    have e3 : wr.cell? ⟨w.heap.size, 3, none⟩ = some (.slice B1 m1 d1) := X1.out.c 3 rfl
    go_wp2_with fail
    ((with_reducible refine (div_z P Q A1 B1 n1 c1 m1 d1 _ S1.out S2.out H1.out H2.out).mono ?_); rintro e w1 ⟨T, k, r, U, l, s, rfl, hs, ht, hb⟩)
    clear e0 e1 e2 e3
    have S1 := Lib.hid (S1.out.below hb)
    have S2 := Lib.hid (S2.out.below hb)
    have S3 := Lib.hid (S3.out.below hb)
    have S4 := Lib.hid (S4.out.below hb)
    have X1 := Lib.hid (X1.out.below hb)
    have X2 := Lib.hid (X2.out.below hb)
    have BW := Lib.hid (below_on BW.out hb)
    clear hb
    have S5 := Lib.hid hs
    have S6 := Lib.hid ht
    clear hs ht
    have e0 : w1.cell? ⟨w.heap.size + 1, 0, none⟩ = some (.bool (nOf (P'))) := X2.out.c 0 rfl
    have e1 : w1.cell? ⟨w.heap.size + 1, 1, none⟩ = some (.slice A2 n2 c2) := X2.out.c 1 rfl
    have e2 : w1.cell? ⟨w.heap.size + 1, 2, none⟩ = some (.bool (nOf (Q'))) := X2.out.c 2 rfl
    have e3 : w1.cell? ⟨w.heap.size + 1, 3, none⟩ = some (.slice B2 m2 d2) := X2.out.c 3 rfl
    go_upto_region 2 with fail
    clear e0 e1 e2 e3
    have ln1 := X1.out.lt
    have ln2 := X2.out.lt
    have S1 := Lib.hid (S1.out.alloc (.cells #[.bool (nOf (qZ P Q)), .slice T k r] 24))
    have S2 := Lib.hid (S2.out.alloc (.cells #[.bool (nOf (qZ P Q)), .slice T k r] 24))
    have S3 := Lib.hid (S3.out.alloc (.cells #[.bool (nOf (qZ P Q)), .slice T k r] 24))
    have S4 := Lib.hid (S4.out.alloc (.cells #[.bool (nOf (qZ P Q)), .slice T k r] 24))
    have X1 := Lib.hid (X1.out.alloc (.cells #[.bool (nOf (qZ P Q)), .slice T k r] 24))
    have X2 := Lib.hid (X2.out.alloc (.cells #[.bool (nOf (qZ P Q)), .slice T k r] 24))
    have BW := Lib.hid (BW.out.alloc BW.out.size (.cells #[.bool (nOf (qZ P Q)), .slice T k r] 24))
    have S5 := Lib.hid (S5.out.alloc (.cells #[.bool (nOf (qZ P Q)), .slice T k r] 24))
    have S6 := Lib.hid (S6.out.alloc (.cells #[.bool (nOf (qZ P Q)), .slice T k r] 24))
    have X3 := Lib.hid (Bk.new 24 w1 #[.bool (nOf (qZ P Q)), .slice T k r])
    have S1 := Lib.hid (S1.out.alloc (.cells #[.bool (nOf (rZ P Q)), .slice U l s] 24))
    have S2 := Lib.hid (S2.out.alloc (.cells #[.bool (nOf (rZ P Q)), .slice U l s] 24))
    have S3 := Lib.hid (S3.out.alloc (.cells #[.bool (nOf (rZ P Q)), .slice U l s] 24))
    have S4 := Lib.hid (S4.out.alloc (.cells #[.bool (nOf (rZ P Q)), .slice U l s] 24))
    have X1 := Lib.hid (X1.out.alloc (.cells #[.bool (nOf (rZ P Q)), .slice U l s] 24))
    have X2 := Lib.hid (X2.out.alloc (.cells #[.bool (nOf (rZ P Q)), .slice U l s] 24))
    have BW := Lib.hid (BW.out.alloc BW.out.size (.cells #[.bool (nOf (rZ P Q)), .slice U l s] 24))
    have S5 := Lib.hid (S5.out.alloc (.cells #[.bool (nOf (rZ P Q)), .slice U l s] 24))
    have S6 := Lib.hid (S6.out.alloc (.cells #[.bool (nOf (rZ P Q)), .slice U l s] 24))
    have X3 := Lib.hid (X3.out.alloc (.cells #[.bool (nOf (rZ P Q)), .slice U l s] 24))
    have X4 := Lib.hid (Bk.new 24 (w1.alloc (.cells #[.bool (nOf (qZ P Q)), .slice T k r] 24)) #[.bool (nOf (rZ P Q)), .slice U l s])
    rw [alloc_sz] at X4
    generalize ((w1.alloc (.cells #[.bool (nOf (qZ P Q)), .slice T k r] 24)).alloc (.cells #[.bool (nOf (rZ P Q)), .slice U l s] 24)) = W1 at *
    have e0 : W1.cell? ⟨w.heap.size + 1, 0, none⟩ = some (.bool (nOf (P'))) := X2.out.c 0 rfl
    have e1 : W1.cell? ⟨w.heap.size + 1, 1, none⟩ = some (.slice A2 n2 c2) := X2.out.c 1 rfl
    have e2 : W1.cell? ⟨w.heap.size + 1, 2, none⟩ = some (.bool (nOf (Q'))) := X2.out.c 2 rfl
    have e3 : W1.cell? ⟨w.heap.size + 1, 3, none⟩ = some (.slice B2 m2 d2) := X2.out.c 3 rfl
    go_wp2_with fail
    ((with_reducible refine (div_z P' Q' A2 B2 n2 c2 m2 d2 _ S3.out S4.out H3.out H4.out).mono ?_); rintro e w2 ⟨T', k', r', U', l', s', rfl, hs, ht, hb⟩)
    clear e0 e1 e2 e3
    have S1 := Lib.hid (S1.out.below hb)
    have S2 := Lib.hid (S2.out.below hb)
    have S3 := Lib.hid (S3.out.below hb)
    have S4 := Lib.hid (S4.out.below hb)
    have X1 := Lib.hid (X1.out.below hb)
    have X2 := Lib.hid (X2.out.below hb)
    have BW := Lib.hid (below_on BW.out hb)
    have S5 := Lib.hid (S5.out.below hb)
    have S6 := Lib.hid (S6.out.below hb)
    have X3 := Lib.hid (X3.out.below hb)
    have X4 := Lib.hid (X4.out.below hb)
    clear hb
    have S7 := Lib.hid hs
    have S8 := Lib.hid ht
    clear hs ht
    have e0 : w2.cell? ⟨w.heap.size + 1, 0, none⟩ = some (.bool (nOf (P'))) := X2.out.c 0 rfl
    have e1 : w2.cell? ⟨w.heap.size + 1, 1, none⟩ = some (.slice A2 n2 c2) := X2.out.c 1 rfl
    have e2 : w2.cell? ⟨w.heap.size + 1, 2, none⟩ = some (.bool (nOf (Q'))) := X2.out.c 2 rfl
    have e3 : w2.cell? ⟨w.heap.size + 1, 3, none⟩ = some (.slice B2 m2 d2) := X2.out.c 3 rfl
    go_upto_region 3 with fail
    clear e0 e1 e2 e3
    have ln3 := X1.out.lt
    have ln4 := X2.out.lt
    have ln5 := X3.out.lt
    have ln6 := X4.out.lt
    have S1 := Lib.hid (S1.out.alloc (.cells #[.bool (nOf (qZ P' Q')), .slice T' k' r'] 24))
    have S2 := Lib.hid (S2.out.alloc (.cells #[.bool (nOf (qZ P' Q')), .slice T' k' r'] 24))
    have S3 := Lib.hid (S3.out.alloc (.cells #[.bool (nOf (qZ P' Q')), .slice T' k' r'] 24))
    have S4 := Lib.hid (S4.out.alloc (.cells #[.bool (nOf (qZ P' Q')), .slice T' k' r'] 24))
    have X1 := Lib.hid (X1.out.alloc (.cells #[.bool (nOf (qZ P' Q')), .slice T' k' r'] 24))
    have X2 := Lib.hid (X2.out.alloc (.cells #[.bool (nOf (qZ P' Q')), .slice T' k' r'] 24))
    have BW := Lib.hid (BW.out.alloc BW.out.size (.cells #[.bool (nOf (qZ P' Q')), .slice T' k' r'] 24))
    have S5 := Lib.hid (S5.out.alloc (.cells #[.bool (nOf (qZ P' Q')), .slice T' k' r'] 24))
    have S6 := Lib.hid (S6.out.alloc (.cells #[.bool (nOf (qZ P' Q')), .slice T' k' r'] 24))
    have X3 := Lib.hid (X3.out.alloc (.cells #[.bool (nOf (qZ P' Q')), .slice T' k' r'] 24))
    have X4 := Lib.hid (X4.out.alloc (.cells #[.bool (nOf (qZ P' Q')), .slice T' k' r'] 24))
    have S7 := Lib.hid (S7.out.alloc (.cells #[.bool (nOf (qZ P' Q')), .slice T' k' r'] 24))
    have S8 := Lib.hid (S8.out.alloc (.cells #[.bool (nOf (qZ P' Q')), .slice T' k' r'] 24))
    have X5 := Lib.hid (Bk.new 24 w2 #[.bool (nOf (qZ P' Q')), .slice T' k' r'])
    have S1 := Lib.hid (S1.out.alloc (.cells #[.bool (nOf (rZ P' Q')), .slice U' l' s'] 24))
    have S2 := Lib.hid (S2.out.alloc (.cells #[.bool (nOf (rZ P' Q')), .slice U' l' s'] 24))
    have S3 := Lib.hid (S3.out.alloc (.cells #[.bool (nOf (rZ P' Q')), .slice U' l' s'] 24))
    have S4 := Lib.hid (S4.out.alloc (.cells #[.bool (nOf (rZ P' Q')), .slice U' l' s'] 24))
    have X1 := Lib.hid (X1.out.alloc (.cells #[.bool (nOf (rZ P' Q')), .slice U' l' s'] 24))
    have X2 := Lib.hid (X2.out.alloc (.cells #[.bool (nOf (rZ P' Q')), .slice U' l' s'] 24))
    have BW := Lib.hid (BW.out.alloc BW.out.size (.cells #[.bool (nOf (rZ P' Q')), .slice U' l' s'] 24))
    have S5 := Lib.hid (S5.out.alloc (.cells #[.bool (nOf (rZ P' Q')), .slice U' l' s'] 24))
    have S6 := Lib.hid (S6.out.alloc (.cells #[.bool (nOf (rZ P' Q')), .slice U' l' s'] 24))
    have X3 := Lib.hid (X3.out.alloc (.cells #[.bool (nOf (rZ P' Q')), .slice U' l' s'] 24))
    have X4 := Lib.hid (X4.out.alloc (.cells #[.bool (nOf (rZ P' Q')), .slice U' l' s'] 24))
    have S7 := Lib.hid (S7.out.alloc (.cells #[.bool (nOf (rZ P' Q')), .slice U' l' s'] 24))
    have S8 := Lib.hid (S8.out.alloc (.cells #[.bool (nOf (rZ P' Q')), .slice U' l' s'] 24))
    have X5 := Lib.hid (X5.out.alloc (.cells #[.bool (nOf (rZ P' Q')), .slice U' l' s'] 24))
    have X6 := Lib.hid (Bk.new 24 (w2.alloc (.cells #[.bool (nOf (qZ P' Q')), .slice T' k' r'] 24)) #[.bool (nOf (rZ P' Q')), .slice U' l' s'])
    rw [alloc_sz] at X6
    generalize ((w2.alloc (.cells #[.bool (nOf (qZ P' Q')), .slice T' k' r'] 24)).alloc (.cells #[.bool (nOf (rZ P' Q')), .slice U' l' s'] 24)) = W2 at *
    have FQ1 := Lib.hid (fit_q N1.out H1.out)
    have FQ2 := Lib.hid (fit_q N2.out H3.out)
    have FR1 := Lib.hid (fit_r (a := P) N1.out H2.out)
    have FR2 := Lib.hid (fit_r (a := P') N2.out H4.out)
    by_cases hq : qZ P Q = qZ P' Q'
    · have HQ := Lib.hid hq
      have EQ := Lib.hid (cmp_rest H5.out H6.out hq)
      have CQ := Lib.hid (cmpI_eq hq)
      clear hq
      have e0 : W2.cell? ⟨w1.heap.size, 0, none⟩ = some (.bool (nOf (qZ P Q))) := X3.out.c 0 rfl
      have e1 : W2.cell? ⟨w1.heap.size, 1, none⟩ = some (.slice T k r) := X3.out.c 1 rfl
      have e2 : W2.cell? ⟨w2.heap.size, 0, none⟩ = some (.bool (nOf (qZ P' Q'))) := X5.out.c 0 rfl
      have e3 : W2.cell? ⟨w2.heap.size, 1, none⟩ = some (.slice T' k' r') := X5.out.c 1 rfl
      go_wp2_with fail
      ((with_reducible refine (cmp_z (qZ P Q) (qZ P' Q') T T' k r k' r' _ S5.out S7.out FQ1.out FQ2.out).mono ?_); rintro e w3 ⟨rfl, hb⟩)
      rw [CQ.out]
      clear e0 e1 e2 e3
      have S1 := Lib.hid (S1.out.below hb)
      have S2 := Lib.hid (S2.out.below hb)
      have S3 := Lib.hid (S3.out.below hb)
      have S4 := Lib.hid (S4.out.below hb)
      have X1 := Lib.hid (X1.out.below hb)
      have X2 := Lib.hid (X2.out.below hb)
      have BW := Lib.hid (below_on BW.out hb)
      have S5 := Lib.hid (S5.out.below hb)
      have S6 := Lib.hid (S6.out.below hb)
      have X3 := Lib.hid (X3.out.below hb)
      have X4 := Lib.hid (X4.out.below hb)
      have S7 := Lib.hid (S7.out.below hb)
      have S8 := Lib.hid (S8.out.below hb)
      have X5 := Lib.hid (X5.out.below hb)
      have X6 := Lib.hid (X6.out.below hb)
      clear hb
      by_cases hr : rZ P Q = 0
      · have CR := Lib.hid (cmpI_eq hr)
        have EE := Lib.hid (cmp_ends H5.out H6.out R1.out.1 R2.out.1 (.inl hr))
        clear hr
        have e0 : w3.cell? ⟨w1.heap.size + 1, 0, none⟩ = some (.bool (nOf (rZ P Q))) := X4.out.c 0 rfl
        have e1 : w3.cell? ⟨w1.heap.size + 1, 1, none⟩ = some (.slice U l s) := X4.out.c 1 rfl
        go_wp2_with fail
        ((with_reducible refine (sign_z (rZ P Q) U l s _ S6.out FR1.out).mono ?_); rintro e w4 ⟨rfl, hb⟩)
        rw [CR.out]
        clear e0 e1
        have S1 := Lib.hid (S1.out.below hb)
        have S2 := Lib.hid (S2.out.below hb)
        have S3 := Lib.hid (S3.out.below hb)
        have S4 := Lib.hid (S4.out.below hb)
        have X1 := Lib.hid (X1.out.below hb)
        have X2 := Lib.hid (X2.out.below hb)
        have BW := Lib.hid (below_on BW.out hb)
        have S5 := Lib.hid (S5.out.below hb)
        have S6 := Lib.hid (S6.out.below hb)
        have X3 := Lib.hid (X3.out.below hb)
        have X4 := Lib.hid (X4.out.below hb)
        have S7 := Lib.hid (S7.out.below hb)
        have S8 := Lib.hid (S8.out.below hb)
        have X5 := Lib.hid (X5.out.below hb)
        have X6 := Lib.hid (X6.out.below hb)
        clear hb
        have e0 : w4.cell? ⟨w1.heap.size + 1, 0, none⟩ = some (.bool (nOf (rZ P Q))) := X4.out.c 0 rfl
        have e1 : w4.cell? ⟨w1.heap.size + 1, 1, none⟩ = some (.slice U l s) := X4.out.c 1 rfl
        have e2 : w4.cell? ⟨w2.heap.size + 1, 0, none⟩ = some (.bool (nOf (rZ P' Q'))) := X6.out.c 0 rfl
        have e3 : w4.cell? ⟨w2.heap.size + 1, 1, none⟩ = some (.slice U' l' s') := X6.out.c 1 rfl
        go_wp2_with fail
        ((with_reducible refine (cmp_z (rZ P Q) (rZ P' Q') U U' l s l' s' _ S6.out S8.out FR1.out FR2.out).mono ?_); rintro e w6 ⟨rfl, hb⟩)
        clear e0 e1 e2 e3
        have S1 := Lib.hid (S1.out.below hb)
        have S2 := Lib.hid (S2.out.below hb)
        have S3 := Lib.hid (S3.out.below hb)
        have S4 := Lib.hid (S4.out.below hb)
        have X1 := Lib.hid (X1.out.below hb)
        have X2 := Lib.hid (X2.out.below hb)
        have BW := Lib.hid (below_on BW.out hb)
        have S5 := Lib.hid (S5.out.below hb)
        have S6 := Lib.hid (S6.out.below hb)
        have X3 := Lib.hid (X3.out.below hb)
        have X4 := Lib.hid (X4.out.below hb)
        have S7 := Lib.hid (S7.out.below hb)
        have S8 := Lib.hid (S8.out.below hb)
        have X5 := Lib.hid (X5.out.below hb)
        have X6 := Lib.hid (X6.out.below hb)
        clear hb
        go_wp2_with fail
        go_ret
        exact ⟨ret_int (by rw [← HE.out, EQ.out, EE.out]), BW.out⟩
      · have NR := Lib.hid hr
        have CR := cmp_zero hr
        generalize hcr : cmpI (rZ P Q) 0 = cr at *
        have HCR := Lib.hid hcr
        clear hcr hr
        have e0 : w3.cell? ⟨w1.heap.size + 1, 0, none⟩ = some (.bool (nOf (rZ P Q))) := X4.out.c 0 rfl
        have e1 : w3.cell? ⟨w1.heap.size + 1, 1, none⟩ = some (.slice U l s) := X4.out.c 1 rfl
        go_wp2_with fail
        ((with_reducible refine (sign_z (rZ P Q) U l s _ S6.out FR1.out).mono ?_); rintro e w4 ⟨rfl, hb⟩)
        rw [HCR.out]
        clear e0 e1
        have S1 := Lib.hid (S1.out.below hb)
        have S2 := Lib.hid (S2.out.below hb)
        have S3 := Lib.hid (S3.out.below hb)
        have S4 := Lib.hid (S4.out.below hb)
        have X1 := Lib.hid (X1.out.below hb)
        have X2 := Lib.hid (X2.out.below hb)
        have BW := Lib.hid (below_on BW.out hb)
        have S5 := Lib.hid (S5.out.below hb)
        have S6 := Lib.hid (S6.out.below hb)
        have X3 := Lib.hid (X3.out.below hb)
        have X4 := Lib.hid (X4.out.below hb)
        have S7 := Lib.hid (S7.out.below hb)
        have S8 := Lib.hid (S8.out.below hb)
        have X5 := Lib.hid (X5.out.below hb)
        have X6 := Lib.hid (X6.out.below hb)
        clear hb
        by_cases hs : rZ P' Q' = 0
        · have CS := Lib.hid (cmpI_eq hs)
          have EE := Lib.hid (cmp_ends H5.out H6.out R1.out.1 R2.out.1 (.inr hs))
          clear hs
          have e0 : w4.cell? ⟨w2.heap.size + 1, 0, none⟩ = some (.bool (nOf (rZ P' Q'))) := X6.out.c 0 rfl
          have e1 : w4.cell? ⟨w2.heap.size + 1, 1, none⟩ = some (.slice U' l' s') := X6.out.c 1 rfl
          go_wp2_with fail
          ((with_reducible refine (sign_z (rZ P' Q') U' l' s' _ S8.out FR2.out).mono ?_); rintro e w5 ⟨rfl, hb⟩)
          rw [CS.out]
          clear e0 e1
          have S1 := Lib.hid (S1.out.below hb)
          have S2 := Lib.hid (S2.out.below hb)
          have S3 := Lib.hid (S3.out.below hb)
          have S4 := Lib.hid (S4.out.below hb)
          have X1 := Lib.hid (X1.out.below hb)
          have X2 := Lib.hid (X2.out.below hb)
          have BW := Lib.hid (below_on BW.out hb)
          have S5 := Lib.hid (S5.out.below hb)
          have S6 := Lib.hid (S6.out.below hb)
          have X3 := Lib.hid (X3.out.below hb)
          have X4 := Lib.hid (X4.out.below hb)
          have S7 := Lib.hid (S7.out.below hb)
          have S8 := Lib.hid (S8.out.below hb)
          have X5 := Lib.hid (X5.out.below hb)
          have X6 := Lib.hid (X6.out.below hb)
          clear hb
          have e0 : w5.cell? ⟨w1.heap.size + 1, 0, none⟩ = some (.bool (nOf (rZ P Q))) := X4.out.c 0 rfl
          have e1 : w5.cell? ⟨w1.heap.size + 1, 1, none⟩ = some (.slice U l s) := X4.out.c 1 rfl
          have e2 : w5.cell? ⟨w2.heap.size + 1, 0, none⟩ = some (.bool (nOf (rZ P' Q'))) := X6.out.c 0 rfl
          have e3 : w5.cell? ⟨w2.heap.size + 1, 1, none⟩ = some (.slice U' l' s') := X6.out.c 1 rfl
          go_wp2_with fail
          ((with_reducible refine (cmp_z (rZ P Q) (rZ P' Q') U U' l s l' s' _ S6.out S8.out FR1.out FR2.out).mono ?_); rintro e w6 ⟨rfl, hb⟩)
          clear e0 e1 e2 e3
          have S1 := Lib.hid (S1.out.below hb)
          have S2 := Lib.hid (S2.out.below hb)
          have S3 := Lib.hid (S3.out.below hb)
          have S4 := Lib.hid (S4.out.below hb)
          have X1 := Lib.hid (X1.out.below hb)
          have X2 := Lib.hid (X2.out.below hb)
          have BW := Lib.hid (below_on BW.out hb)
          have S5 := Lib.hid (S5.out.below hb)
          have S6 := Lib.hid (S6.out.below hb)
          have X3 := Lib.hid (X3.out.below hb)
          have X4 := Lib.hid (X4.out.below hb)
          have S7 := Lib.hid (S7.out.below hb)
          have S8 := Lib.hid (S8.out.below hb)
          have X5 := Lib.hid (X5.out.below hb)
          have X6 := Lib.hid (X6.out.below hb)
          clear hb
          go_wp2_with fail
          go_ret
          exact ⟨ret_int (by rw [← HE.out, EQ.out, EE.out]), BW.out⟩
        · have NS := Lib.hid hs
          have CS := cmp_zero hs
          generalize hcs : cmpI (rZ P' Q') 0 = cs at *
          have HCS := Lib.hid hcs
          clear hcs hs
          have e0 : w4.cell? ⟨w2.heap.size + 1, 0, none⟩ = some (.bool (nOf (rZ P' Q'))) := X6.out.c 0 rfl
          have e1 : w4.cell? ⟨w2.heap.size + 1, 1, none⟩ = some (.slice U' l' s') := X6.out.c 1 rfl
          go_wp2_with fail
          ((with_reducible refine (sign_z (rZ P' Q') U' l' s' _ S8.out FR2.out).mono ?_); rintro e w5 ⟨rfl, hb⟩)
          rw [HCS.out]
          clear e0 e1
          have S1 := Lib.hid (S1.out.below hb)
          have S2 := Lib.hid (S2.out.below hb)
          have S3 := Lib.hid (S3.out.below hb)
          have S4 := Lib.hid (S4.out.below hb)
          have X1 := Lib.hid (X1.out.below hb)
          have X2 := Lib.hid (X2.out.below hb)
          have BW := Lib.hid (below_on BW.out hb)
          have S5 := Lib.hid (S5.out.below hb)
          have S6 := Lib.hid (S6.out.below hb)
          have X3 := Lib.hid (X3.out.below hb)
          have X4 := Lib.hid (X4.out.below hb)
          have S7 := Lib.hid (S7.out.below hb)
          have S8 := Lib.hid (S8.out.below hb)
          have X5 := Lib.hid (X5.out.below hb)
          have X6 := Lib.hid (X6.out.below hb)
          clear hb
          go_upto_region 8 with fail
          have e0 : w5.cell? ⟨w.heap.size, 0, none⟩ = some (.bool (nOf (P))) := X1.out.c 0 rfl
          have e1 : w5.cell? ⟨w.heap.size, 1, none⟩ = some (.slice A1 n1 c1) := X1.out.c 1 rfl
          have e2 : w5.cell? ⟨w.heap.size, 2, none⟩ = some (.bool (nOf (Q))) := X1.out.c 2 rfl
          have e3 : w5.cell? ⟨w.heap.size, 3, none⟩ = some (.slice B1 m1 d1) := X1.out.c 3 rfl
          have e4 : w5.cell? ⟨w.heap.size + 1, 0, none⟩ = some (.bool (nOf (P'))) := X2.out.c 0 rfl
          have e5 : w5.cell? ⟨w.heap.size + 1, 1, none⟩ = some (.slice A2 n2 c2) := X2.out.c 1 rfl
          have e6 : w5.cell? ⟨w.heap.size + 1, 2, none⟩ = some (.bool (nOf (Q'))) := X2.out.c 2 rfl
          have e7 : w5.cell? ⟨w.heap.size + 1, 3, none⟩ = some (.slice B2 m2 d2) := X2.out.c 3 rfl
          have e8 : w5.cell? ⟨w1.heap.size + 1, 0, none⟩ = some (.bool (nOf (rZ P Q))) := X4.out.c 0 rfl
          have e9 : w5.cell? ⟨w1.heap.size + 1, 1, none⟩ = some (.slice U l s) := X4.out.c 1 rfl
          have e10 : w5.cell? ⟨w2.heap.size + 1, 0, none⟩ = some (.bool (nOf (rZ P' Q'))) := X6.out.c 0 rfl
          have e11 : w5.cell? ⟨w2.heap.size + 1, 1, none⟩ = some (.slice U' l' s') := X6.out.c 1 rfl
          have z12 := X1.out.fz 0
          have z13 := X1.out.fz 1
          have z14 := X1.out.fz 2
          have z15 := X1.out.fz 3
          have z16 := X2.out.fz 0
          have z17 := X2.out.fz 1
          have z18 := X2.out.fz 2
          have z19 := X2.out.fz 3
          have i1 : ¬ w.heap.size = w.heap.size + 1 := by omega
          have i2 : ¬ w.heap.size + 1 = w.heap.size := by omega
          go_region
          have TURN := Lib.hid (comp_turn X1.out X2.out S4.out S8.out S2.out S6.out BW.out)
          clear e0 e1 e2 e3 e4 e5 e6 e7 e8 e9 e10 e11 z12 z13 z14 z15 z16 z17 z18 z19 i1 i2
          all_goals
            go_wp2_with fail
            go_roundg ((rZ P Q + rZ P' Q').toNat)
            case rel =>
              have l1 : 0 < rZ P' Q' := by have := R2.out.1; have := NS.out; omega
              have l2 : 0 < rZ P Q := by have := R1.out.1; have := NR.out; omega
              have l3 : cmpI (Q' * rZ P Q) (Q * rZ P' Q') = cmpI (p * q') (p' * q) := by rw [← HE.out, EQ.out, cmp_turn]
              have l4 : (rZ P' Q' + rZ P Q).toNat = (rZ P Q + rZ P' Q').toNat := by rw [Int.add_comm]
              exact ⟨Q', rZ P' Q', Q, rZ P Q, B2, m2, d2, U', l', s', B1, m1, d1, U, l, s, TURN.out.of_drew, H4.out, FR2.out, H2.out, FR1.out, l1, l2, l3, l4⟩
            case measure =>
              have := R1.out; have := R2.out; have := HK.out
              omega
    · have EQ := Lib.hid (cmp_ne H5.out H6.out hq)
      have CQ := cmp_nz hq
      generalize hcq : cmpI (qZ P Q) (qZ P' Q') = cq at *
      have HCQ := Lib.hid hcq
      clear hcq hq
      have e0 : W2.cell? ⟨w1.heap.size, 0, none⟩ = some (.bool (nOf (qZ P Q))) := X3.out.c 0 rfl
      have e1 : W2.cell? ⟨w1.heap.size, 1, none⟩ = some (.slice T k r) := X3.out.c 1 rfl
      have e2 : W2.cell? ⟨w2.heap.size, 0, none⟩ = some (.bool (nOf (qZ P' Q'))) := X5.out.c 0 rfl
      have e3 : W2.cell? ⟨w2.heap.size, 1, none⟩ = some (.slice T' k' r') := X5.out.c 1 rfl
      go_wp2_with fail
      ((with_reducible refine (cmp_z (qZ P Q) (qZ P' Q') T T' k r k' r' _ S5.out S7.out FQ1.out FQ2.out).mono ?_); rintro e w3 ⟨rfl, hb⟩)
      rw [HCQ.out]
      clear e0 e1 e2 e3
      have S1 := Lib.hid (S1.out.below hb)
      have S2 := Lib.hid (S2.out.below hb)
      have S3 := Lib.hid (S3.out.below hb)
      have S4 := Lib.hid (S4.out.below hb)
      have X1 := Lib.hid (X1.out.below hb)
      have X2 := Lib.hid (X2.out.below hb)
      have BW := Lib.hid (below_on BW.out hb)
      have S5 := Lib.hid (S5.out.below hb)
      have S6 := Lib.hid (S6.out.below hb)
      have X3 := Lib.hid (X3.out.below hb)
      have X4 := Lib.hid (X4.out.below hb)
      have S7 := Lib.hid (S7.out.below hb)
      have S8 := Lib.hid (S8.out.below hb)
      have X5 := Lib.hid (X5.out.below hb)
      have X6 := Lib.hid (X6.out.below hb)
      clear hb
      go_wp2_with fail
      go_ret
      exact ⟨ret_int (by rw [← HE.out, EQ.out]), BW.out⟩
end Go.Proofs.YtfenmogbellhdaaGreatDoor
