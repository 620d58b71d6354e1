/-
  Contracts of rat's difference, Sub and Add.
-/
import Derived.Test.YtfenmogbellhdaaGreatDoorRatJ
import Derived.Test.YtfenmogbellhdaaGreatDoorRatK
namespace Go.Proofs.YtfenmogbellhdaaGreatDoor
open Go.RowKit

theorem gcd_rest {a b : Int} (hb : 0 < b) (h : Nat.gcd a.natAbs b.natAbs = 1) : Nat.gcd (rZ a b).natAbs b.natAbs = 1 := by
  have e := (qr_facts a b (by omega)).1
  rw [e, gcd_shift] at h
  exact h
theorem parts_of {p q p' q' : Int} (h : Fr p q) (h' : Fr p' q') : Parts (rZ p q) q (rZ p' q') q' :=
  ⟨h.fd, h'.fd, ((qr_facts p q (by have := h.pos; omega)).2.1 h.pos).1, ((qr_facts p q (by have := h.pos; omega)).2.1 h.pos).2, ((qr_facts p' q' (by have := h'.pos; omega)).2.1 h'.pos).1, ((qr_facts p' q' (by have := h'.pos; omega)).2.1 h'.pos).2, gcd_rest h.pos h.cop, gcd_rest h'.pos h'.cop⟩
theorem diff_eq (p q p' q' : Int) (hq : q ≠ 0) (hq' : q' ≠ 0) : p * q' - p' * q = (qZ p q - qZ p' q') * (q * q') + (rZ p q * q' - rZ p' q' * q) := by
  have e := (qr_facts p q hq).1
  have e' := (qr_facts p' q' hq').1
  have a1 : p * q' = qZ p q * (q * q') + rZ p q * q' := by
    have : p * q' = (q * qZ p q + rZ p q) * q' := by rw [← e]
    rw [this, Int.add_mul, Int.mul_comm q, Int.mul_assoc]
  have a2 : p' * q = qZ p' q' * (q * q') + rZ p' q' * q := by
    have : p' * q = (q' * qZ p' q' + rZ p' q') * q := by rw [← e']
    rw [this, Int.add_mul, Int.mul_comm q', Int.mul_assoc, Int.mul_comm q' q]
  rw [a1, a2, Int.sub_mul]; omega
/-- The difference of fractions, by whole parts and the parts below 1. -/
theorem diff_lo {p q p' q' : Int} (h : Fr p q) (h' : Fr p' q') :
    loN (p * q' - p' * q) (q * q') = (qZ p q - qZ p' q') * dZ (rZ p q) q (rZ p' q') q' + nZ (rZ p q) q (rZ p' q') q' ∧ loD (p * q' - p' * q) (q * q') = dZ (rZ p q) q (rZ p' q') q' := by
  have hq : q ≠ 0 := by have := h.pos; omega
  have hq' : q' ≠ 0 := by have := h'.pos; omega
  rw [diff_eq p q p' q' hq hq']
  exact join_lo (Int.mul_ne_zero hq hq') (parts_of h h').lo
theorem res_form {P Q n d : Int} (hq : Q ≠ 0) (h : loN P Q = n ∧ loD P Q = d) (b : Bool) (hb : (fitB n && fitB d) = b) : resB P Q = b ∧ resN P Q = (if b then n else 0) ∧ resD P Q = (if b then d else 0) := by
  have e : resB P Q = b := by
    unfold resB
    rw [h.1, h.2, hb, show (Q != 0) = true by simpa using hq]; rfl
  refine ⟨e, ?_, ?_⟩
  · unfold resN; rw [e, h.1]
  · unfold resD; rw [e, h.2]
set_option maxHeartbeats 4000000 in
theorem diff_any (p q p' q' : Int) (A1 B1 A2 B2 : Option Addr) (n1 c1 m1 d1 n2 c2 m2 d2 : Nat) (w : World) (ha : Sl w A1 n1 c1 (lOf p)) (hb : Sl w B1 m1 d1 (lOf q)) (hc : Sl w A2 n2 c2 (lOf p')) (hd : Sl w B2 m2 d2 (lOf q')) (f1 : Fr p q) (f2 : Fr p' q') :
    Calls Tryz.prog 28 #[.agg #[.bool (nOf (p)), .slice A1 n1 c1, .bool (nOf (q)), .slice B1 m1 d1], .agg #[.bool (nOf (p')), .slice A2 n2 c2, .bool (nOf (q')), .slice B2 m2 d2]] w fun e w' => ∃ T k r U l s, e = .returned (.tuple #[.agg #[.bool (nOf (resN (p * q' - p' * q) (q * q'))), .slice T k r, .bool (nOf (resD (p * q' - p' * q) (q * q'))), .slice U l s], .bool (resB (p * q' - p' * q) (q * q'))]) ∧ Sl w' T k r (lOf (resN (p * q' - p' * q) (q * q'))) ∧ Sl w' U l s (lOf (resD (p * q' - p' * q) (q * q'))) ∧ Below w.heap.size w w' := by
  have S1 := Lib.hid ha
  have S2 := Lib.hid hb
  have S3 := Lib.hid hc
  have S4 := Lib.hid hd
  clear ha hb hc hd
  have FA := Lib.hid f1
  have FB := Lib.hid f2
  have HQ : Hid (q ≠ 0) := (by have := f1.pos; omega : q ≠ 0)
  have HX : Hid (q' ≠ 0) := (by have := f2.pos; omega : q' ≠ 0)
  have HP := Lib.hid (parts_of f1 f2)
  have LO := Lib.hid (diff_lo f1 f2)
  have HQX : Hid (q * q' ≠ 0) := Int.mul_ne_zero HQ.out HX.out
  have HFQ := Lib.hid (fit_q HQ.out f1.fn)
  have HFX := Lib.hid (fit_q HX.out f2.fn)
  clear f1 f2
  have BW := Lib.hid (Below.refl w.heap.size w)
  go_enter Tryz.func28, Tryz.ntmps28
  go_upto_region 1 with fail
  have S1 := Lib.hid (S1.out.alloc (.cells #[.bool (nOf (p)), .slice A1 n1 c1, .bool (nOf (q)), .slice B1 m1 d1] 26))
  have S2 := Lib.hid (S2.out.alloc (.cells #[.bool (nOf (p)), .slice A1 n1 c1, .bool (nOf (q)), .slice B1 m1 d1] 26))
  have S3 := Lib.hid (S3.out.alloc (.cells #[.bool (nOf (p)), .slice A1 n1 c1, .bool (nOf (q)), .slice B1 m1 d1] 26))
  have S4 := Lib.hid (S4.out.alloc (.cells #[.bool (nOf (p)), .slice A1 n1 c1, .bool (nOf (q)), .slice B1 m1 d1] 26))
  have BW := Lib.hid (BW.out.alloc BW.out.size (.cells #[.bool (nOf (p)), .slice A1 n1 c1, .bool (nOf (q)), .slice B1 m1 d1] 26))
  have X1 := Lib.hid (Bk.new 26 w #[.bool (nOf (p)), .slice A1 n1 c1, .bool (nOf (q)), .slice B1 m1 d1])
  have S1 := Lib.hid (S1.out.alloc (.cells #[.bool (nOf (p')), .slice A2 n2 c2, .bool (nOf (q')), .slice B2 m2 d2] 26))
  have S2 := Lib.hid (S2.out.alloc (.cells #[.bool (nOf (p')), .slice A2 n2 c2, .bool (nOf (q')), .slice B2 m2 d2] 26))
  have S3 := Lib.hid (S3.out.alloc (.cells #[.bool (nOf (p')), .slice A2 n2 c2, .bool (nOf (q')), .slice B2 m2 d2] 26))
  have S4 := Lib.hid (S4.out.alloc (.cells #[.bool (nOf (p')), .slice A2 n2 c2, .bool (nOf (q')), .slice B2 m2 d2] 26))
  have BW := Lib.hid (BW.out.alloc BW.out.size (.cells #[.bool (nOf (p')), .slice A2 n2 c2, .bool (nOf (q')), .slice B2 m2 d2] 26))
  have X1 := Lib.hid (X1.out.alloc (.cells #[.bool (nOf (p')), .slice A2 n2 c2, .bool (nOf (q')), .slice B2 m2 d2] 26))
  have X2 := Lib.hid (Bk.new 26 (w.alloc (.cells #[.bool (nOf (p)), .slice A1 n1 c1, .bool (nOf (q)), .slice B1 m1 d1] 26)) #[.bool (nOf (p')), .slice A2 n2 c2, .bool (nOf (q')), .slice B2 m2 d2])
  rw [alloc_sz] at X2
  have S1 := Lib.hid (S1.out.alloc (.cells #[.bool false, .slice none 0 0, .bool false, .slice none 0 0] 26))
  have S2 := Lib.hid (S2.out.alloc (.cells #[.bool false, .slice none 0 0, .bool false, .slice none 0 0] 26))
  have S3 := Lib.hid (S3.out.alloc (.cells #[.bool false, .slice none 0 0, .bool false, .slice none 0 0] 26))
  have S4 := Lib.hid (S4.out.alloc (.cells #[.bool false, .slice none 0 0, .bool false, .slice none 0 0] 26))
  have BW := Lib.hid (BW.out.alloc BW.out.size (.cells #[.bool false, .slice none 0 0, .bool false, .slice none 0 0] 26))
  have X1 := Lib.hid (X1.out.alloc (.cells #[.bool false, .slice none 0 0, .bool false, .slice none 0 0] 26))
  have X2 := Lib.hid (X2.out.alloc (.cells #[.bool false, .slice none 0 0, .bool false, .slice none 0 0] 26))
  have X3 := Lib.hid (Bk.new 26 ((w.alloc (.cells #[.bool (nOf (p)), .slice A1 n1 c1, .bool (nOf (q)), .slice B1 m1 d1] 26)).alloc (.cells #[.bool (nOf (p')), .slice A2 n2 c2, .bool (nOf (q')), .slice B2 m2 d2] 26)) #[.bool false, .slice none 0 0, .bool false, .slice none 0 0])
  rw [alloc_sz, alloc_sz] at X3
  generalize (((w.alloc (.cells #[.bool (nOf (p)), .slice A1 n1 c1, .bool (nOf (q)), .slice B1 m1 d1] 26)).alloc (.cells #[.bool (nOf (p')), .slice A2 n2 c2, .bool (nOf (q')), .slice B2 m2 d2] 26)).alloc (.cells #[.bool false, .slice none 0 0, .bool false, .slice none 0 0] 26)) = W0 at *
  have e0 : W0.cell? ⟨w.heap.size, 0, none⟩ = some (.bool (nOf (p))) := X1.out.c 0 rfl
  have e1 : W0.cell? ⟨w.heap.size, 1, none⟩ = some (.slice A1 n1 c1) := X1.out.c 1 rfl
  have e2 : W0.cell? ⟨w.heap.size, 2, none⟩ = some (.bool (nOf (q))) := X1.out.c 2 rfl
  have e3 : W0.cell? ⟨w.heap.size, 3, none⟩ = some (.slice B1 m1 d1) := X1.out.c 3 rfl
  go_wp2_with fail
  ((with_reducible refine (div_z p q A1 B1 n1 c1 m1 d1 _ S1.out S2.out FA.out.fn FA.out.fd).mono ?_); rintro e w1 ⟨T, k, r, U, l, s, rfl, hs, ht, hb⟩)
  clear e0 e1 e2 e3
  have S1 := Lib.hid (S1.out.below hb)
  have S2 := Lib.hid (S2.out.below hb)
  have S3 := Lib.hid (S3.out.below hb)
  have S4 := Lib.hid (S4.out.below hb)
  have BW := Lib.hid (below_on BW.out hb)
  have X1 := Lib.hid (X1.out.below hb)
  have X2 := Lib.hid (X2.out.below hb)
  have X3 := Lib.hid (X3.out.below hb)
  clear hb
  have S5 := Lib.hid hs
  have S6 := Lib.hid ht
  clear hs ht
  have e0 : w1.cell? ⟨w.heap.size, 0, none⟩ = some (.bool (nOf (p))) := X1.out.c 0 rfl
  have e1 : w1.cell? ⟨w.heap.size, 1, none⟩ = some (.slice A1 n1 c1) := X1.out.c 1 rfl
  have e2 : w1.cell? ⟨w.heap.size, 2, none⟩ = some (.bool (nOf (q))) := X1.out.c 2 rfl
  have e3 : w1.cell? ⟨w.heap.size, 3, none⟩ = some (.slice B1 m1 d1) := X1.out.c 3 rfl
  go_upto_region 2 with fail
  clear e0 e1 e2 e3
  have ln1 := X1.out.lt
  have ln2 := X2.out.lt
  have ln3 := X3.out.lt
  have S1 := Lib.hid (S1.out.alloc (.cells #[.bool (nOf (qZ p q)), .slice T k r] 24))
  have S2 := Lib.hid (S2.out.alloc (.cells #[.bool (nOf (qZ p q)), .slice T k r] 24))
  have S3 := Lib.hid (S3.out.alloc (.cells #[.bool (nOf (qZ p q)), .slice T k r] 24))
  have S4 := Lib.hid (S4.out.alloc (.cells #[.bool (nOf (qZ p q)), .slice T k r] 24))
  have BW := Lib.hid (BW.out.alloc BW.out.size (.cells #[.bool (nOf (qZ p q)), .slice T k r] 24))
  have X1 := Lib.hid (X1.out.alloc (.cells #[.bool (nOf (qZ p q)), .slice T k r] 24))
  have X2 := Lib.hid (X2.out.alloc (.cells #[.bool (nOf (qZ p q)), .slice T k r] 24))
  have X3 := Lib.hid (X3.out.alloc (.cells #[.bool (nOf (qZ p q)), .slice T k r] 24))
  have S5 := Lib.hid (S5.out.alloc (.cells #[.bool (nOf (qZ p q)), .slice T k r] 24))
  have S6 := Lib.hid (S6.out.alloc (.cells #[.bool (nOf (qZ p q)), .slice T k r] 24))
  have X4 := Lib.hid (Bk.new 24 w1 #[.bool (nOf (qZ p q)), .slice T k r])
  have S1 := Lib.hid (S1.out.alloc (.cells #[.bool (nOf (rZ p q)), .slice U l s] 24))
  have S2 := Lib.hid (S2.out.alloc (.cells #[.bool (nOf (rZ p q)), .slice U l s] 24))
  have S3 := Lib.hid (S3.out.alloc (.cells #[.bool (nOf (rZ p q)), .slice U l s] 24))
  have S4 := Lib.hid (S4.out.alloc (.cells #[.bool (nOf (rZ p q)), .slice U l s] 24))
  have BW := Lib.hid (BW.out.alloc BW.out.size (.cells #[.bool (nOf (rZ p q)), .slice U l s] 24))
  have X1 := Lib.hid (X1.out.alloc (.cells #[.bool (nOf (rZ p q)), .slice U l s] 24))
  have X2 := Lib.hid (X2.out.alloc (.cells #[.bool (nOf (rZ p q)), .slice U l s] 24))
  have X3 := Lib.hid (X3.out.alloc (.cells #[.bool (nOf (rZ p q)), .slice U l s] 24))
  have S5 := Lib.hid (S5.out.alloc (.cells #[.bool (nOf (rZ p q)), .slice U l s] 24))
  have S6 := Lib.hid (S6.out.alloc (.cells #[.bool (nOf (rZ p q)), .slice U l s] 24))
  have X4 := Lib.hid (X4.out.alloc (.cells #[.bool (nOf (rZ p q)), .slice U l s] 24))
  have X5 := Lib.hid (Bk.new 24 (w1.alloc (.cells #[.bool (nOf (qZ p q)), .slice T k r] 24)) #[.bool (nOf (rZ p q)), .slice U l s])
  rw [alloc_sz] at X5
  generalize ((w1.alloc (.cells #[.bool (nOf (qZ p q)), .slice T k r] 24)).alloc (.cells #[.bool (nOf (rZ p q)), .slice U l s] 24)) = W1 at *
  have e0 : W1.cell? ⟨w.heap.size + 1, 0, none⟩ = some (.bool (nOf (p'))) := X2.out.c 0 rfl
  have e1 : W1.cell? ⟨w.heap.size + 1, 1, none⟩ = some (.slice A2 n2 c2) := X2.out.c 1 rfl
  have e2 : W1.cell? ⟨w.heap.size + 1, 2, none⟩ = some (.bool (nOf (q'))) := X2.out.c 2 rfl
  have e3 : W1.cell? ⟨w.heap.size + 1, 3, none⟩ = some (.slice B2 m2 d2) := X2.out.c 3 rfl
  go_wp2_with fail
  ((with_reducible refine (div_z p' q' A2 B2 n2 c2 m2 d2 _ S3.out S4.out FB.out.fn FB.out.fd).mono ?_); rintro e w2 ⟨T', k', r', U', l', s', rfl, hs, ht, hb⟩)
  clear e0 e1 e2 e3
  have S1 := Lib.hid (S1.out.below hb)
  have S2 := Lib.hid (S2.out.below hb)
  have S3 := Lib.hid (S3.out.below hb)
  have S4 := Lib.hid (S4.out.below hb)
  have BW := Lib.hid (below_on BW.out hb)
  have X1 := Lib.hid (X1.out.below hb)
  have X2 := Lib.hid (X2.out.below hb)
  have X3 := Lib.hid (X3.out.below hb)
  have S5 := Lib.hid (S5.out.below hb)
  have S6 := Lib.hid (S6.out.below hb)
  have X4 := Lib.hid (X4.out.below hb)
  have X5 := Lib.hid (X5.out.below hb)
  clear hb
  have S7 := Lib.hid hs
  have S8 := Lib.hid ht
  clear hs ht
  have e0 : w2.cell? ⟨w.heap.size + 1, 0, none⟩ = some (.bool (nOf (p'))) := X2.out.c 0 rfl
  have e1 : w2.cell? ⟨w.heap.size + 1, 1, none⟩ = some (.slice A2 n2 c2) := X2.out.c 1 rfl
  have e2 : w2.cell? ⟨w.heap.size + 1, 2, none⟩ = some (.bool (nOf (q'))) := X2.out.c 2 rfl
  have e3 : w2.cell? ⟨w.heap.size + 1, 3, none⟩ = some (.slice B2 m2 d2) := X2.out.c 3 rfl
  go_upto_region 3 with fail
  clear e0 e1 e2 e3
  have ln4 := X1.out.lt
  have ln5 := X2.out.lt
  have ln6 := X3.out.lt
  have ln7 := X4.out.lt
  have ln8 := X5.out.lt
  have S1 := Lib.hid (S1.out.alloc (.cells #[.bool (nOf (qZ p' q')), .slice T' k' r'] 24))
  have S2 := Lib.hid (S2.out.alloc (.cells #[.bool (nOf (qZ p' q')), .slice T' k' r'] 24))
  have S3 := Lib.hid (S3.out.alloc (.cells #[.bool (nOf (qZ p' q')), .slice T' k' r'] 24))
  have S4 := Lib.hid (S4.out.alloc (.cells #[.bool (nOf (qZ p' q')), .slice T' k' r'] 24))
  have BW := Lib.hid (BW.out.alloc BW.out.size (.cells #[.bool (nOf (qZ p' q')), .slice T' k' r'] 24))
  have X1 := Lib.hid (X1.out.alloc (.cells #[.bool (nOf (qZ p' q')), .slice T' k' r'] 24))
  have X2 := Lib.hid (X2.out.alloc (.cells #[.bool (nOf (qZ p' q')), .slice T' k' r'] 24))
  have X3 := Lib.hid (X3.out.alloc (.cells #[.bool (nOf (qZ p' q')), .slice T' k' r'] 24))
  have S5 := Lib.hid (S5.out.alloc (.cells #[.bool (nOf (qZ p' q')), .slice T' k' r'] 24))
  have S6 := Lib.hid (S6.out.alloc (.cells #[.bool (nOf (qZ p' q')), .slice T' k' r'] 24))
  have X4 := Lib.hid (X4.out.alloc (.cells #[.bool (nOf (qZ p' q')), .slice T' k' r'] 24))
  have X5 := Lib.hid (X5.out.alloc (.cells #[.bool (nOf (qZ p' q')), .slice T' k' r'] 24))
  have S7 := Lib.hid (S7.out.alloc (.cells #[.bool (nOf (qZ p' q')), .slice T' k' r'] 24))
  have S8 := Lib.hid (S8.out.alloc (.cells #[.bool (nOf (qZ p' q')), .slice T' k' r'] 24))
  have X6 := Lib.hid (Bk.new 24 w2 #[.bool (nOf (qZ p' q')), .slice T' k' r'])
  have S1 := Lib.hid (S1.out.alloc (.cells #[.bool (nOf (rZ p' q')), .slice U' l' s'] 24))
  have S2 := Lib.hid (S2.out.alloc (.cells #[.bool (nOf (rZ p' q')), .slice U' l' s'] 24))
  have S3 := Lib.hid (S3.out.alloc (.cells #[.bool (nOf (rZ p' q')), .slice U' l' s'] 24))
  have S4 := Lib.hid (S4.out.alloc (.cells #[.bool (nOf (rZ p' q')), .slice U' l' s'] 24))
  have BW := Lib.hid (BW.out.alloc BW.out.size (.cells #[.bool (nOf (rZ p' q')), .slice U' l' s'] 24))
  have X1 := Lib.hid (X1.out.alloc (.cells #[.bool (nOf (rZ p' q')), .slice U' l' s'] 24))
  have X2 := Lib.hid (X2.out.alloc (.cells #[.bool (nOf (rZ p' q')), .slice U' l' s'] 24))
  have X3 := Lib.hid (X3.out.alloc (.cells #[.bool (nOf (rZ p' q')), .slice U' l' s'] 24))
  have S5 := Lib.hid (S5.out.alloc (.cells #[.bool (nOf (rZ p' q')), .slice U' l' s'] 24))
  have S6 := Lib.hid (S6.out.alloc (.cells #[.bool (nOf (rZ p' q')), .slice U' l' s'] 24))
  have X4 := Lib.hid (X4.out.alloc (.cells #[.bool (nOf (rZ p' q')), .slice U' l' s'] 24))
  have X5 := Lib.hid (X5.out.alloc (.cells #[.bool (nOf (rZ p' q')), .slice U' l' s'] 24))
  have S7 := Lib.hid (S7.out.alloc (.cells #[.bool (nOf (rZ p' q')), .slice U' l' s'] 24))
  have S8 := Lib.hid (S8.out.alloc (.cells #[.bool (nOf (rZ p' q')), .slice U' l' s'] 24))
  have X6 := Lib.hid (X6.out.alloc (.cells #[.bool (nOf (rZ p' q')), .slice U' l' s'] 24))
  have X7 := Lib.hid (Bk.new 24 (w2.alloc (.cells #[.bool (nOf (qZ p' q')), .slice T' k' r'] 24)) #[.bool (nOf (rZ p' q')), .slice U' l' s'])
  rw [alloc_sz] at X7
  generalize ((w2.alloc (.cells #[.bool (nOf (qZ p' q')), .slice T' k' r'] 24)).alloc (.cells #[.bool (nOf (rZ p' q')), .slice U' l' s'] 24)) = W2 at *
  have e0 : W2.cell? ⟨w1.heap.size, 0, none⟩ = some (.bool (nOf (qZ p q))) := X4.out.c 0 rfl
  have e1 : W2.cell? ⟨w1.heap.size, 1, none⟩ = some (.slice T k r) := X4.out.c 1 rfl
  have e2 : W2.cell? ⟨w2.heap.size, 0, none⟩ = some (.bool (nOf (qZ p' q'))) := X6.out.c 0 rfl
  have e3 : W2.cell? ⟨w2.heap.size, 1, none⟩ = some (.slice T' k' r') := X6.out.c 1 rfl
  go_wp2_with fail
  ((with_reducible refine (sub_z (qZ p q) (qZ p' q') T T' k r k' r' _ S5.out S7.out HFQ.out HFX.out).mono ?_); rintro e w3 ⟨T3, k3, r3, rfl, hs, hb⟩)
  clear e0 e1 e2 e3
  have S1 := Lib.hid (S1.out.below hb)
  have S2 := Lib.hid (S2.out.below hb)
  have S3 := Lib.hid (S3.out.below hb)
  have S4 := Lib.hid (S4.out.below hb)
  have BW := Lib.hid (below_on BW.out hb)
  have X1 := Lib.hid (X1.out.below hb)
  have X2 := Lib.hid (X2.out.below hb)
  have X3 := Lib.hid (X3.out.below hb)
  have S5 := Lib.hid (S5.out.below hb)
  have S6 := Lib.hid (S6.out.below hb)
  have X4 := Lib.hid (X4.out.below hb)
  have X5 := Lib.hid (X5.out.below hb)
  have S7 := Lib.hid (S7.out.below hb)
  have S8 := Lib.hid (S8.out.below hb)
  have X6 := Lib.hid (X6.out.below hb)
  have X7 := Lib.hid (X7.out.below hb)
  clear hb
  have S9 := Lib.hid hs
  clear hs
  have e0 : w3.cell? ⟨w1.heap.size, 0, none⟩ = some (.bool (nOf (qZ p q))) := X4.out.c 0 rfl
  have e1 : w3.cell? ⟨w1.heap.size, 1, none⟩ = some (.slice T k r) := X4.out.c 1 rfl
  have e2 : w3.cell? ⟨w2.heap.size, 0, none⟩ = some (.bool (nOf (qZ p' q'))) := X6.out.c 0 rfl
  have e3 : w3.cell? ⟨w2.heap.size, 1, none⟩ = some (.slice T' k' r') := X6.out.c 1 rfl
  go_upto_region 4 with fail
  clear e0 e1 e2 e3
  have ln9 := X1.out.lt
  have ln10 := X2.out.lt
  have ln11 := X3.out.lt
  have ln12 := X4.out.lt
  have ln13 := X5.out.lt
  have ln14 := X6.out.lt
  have ln15 := X7.out.lt
  have S1 := Lib.hid (S1.out.alloc (.cells #[.bool (nOf (fitZ (qZ p q - qZ p' q'))), .slice T3 k3 r3] 24))
  have S2 := Lib.hid (S2.out.alloc (.cells #[.bool (nOf (fitZ (qZ p q - qZ p' q'))), .slice T3 k3 r3] 24))
  have S3 := Lib.hid (S3.out.alloc (.cells #[.bool (nOf (fitZ (qZ p q - qZ p' q'))), .slice T3 k3 r3] 24))
  have S4 := Lib.hid (S4.out.alloc (.cells #[.bool (nOf (fitZ (qZ p q - qZ p' q'))), .slice T3 k3 r3] 24))
  have BW := Lib.hid (BW.out.alloc BW.out.size (.cells #[.bool (nOf (fitZ (qZ p q - qZ p' q'))), .slice T3 k3 r3] 24))
  have X1 := Lib.hid (X1.out.alloc (.cells #[.bool (nOf (fitZ (qZ p q - qZ p' q'))), .slice T3 k3 r3] 24))
  have X2 := Lib.hid (X2.out.alloc (.cells #[.bool (nOf (fitZ (qZ p q - qZ p' q'))), .slice T3 k3 r3] 24))
  have X3 := Lib.hid (X3.out.alloc (.cells #[.bool (nOf (fitZ (qZ p q - qZ p' q'))), .slice T3 k3 r3] 24))
  have S5 := Lib.hid (S5.out.alloc (.cells #[.bool (nOf (fitZ (qZ p q - qZ p' q'))), .slice T3 k3 r3] 24))
  have S6 := Lib.hid (S6.out.alloc (.cells #[.bool (nOf (fitZ (qZ p q - qZ p' q'))), .slice T3 k3 r3] 24))
  have X4 := Lib.hid (X4.out.alloc (.cells #[.bool (nOf (fitZ (qZ p q - qZ p' q'))), .slice T3 k3 r3] 24))
  have X5 := Lib.hid (X5.out.alloc (.cells #[.bool (nOf (fitZ (qZ p q - qZ p' q'))), .slice T3 k3 r3] 24))
  have S7 := Lib.hid (S7.out.alloc (.cells #[.bool (nOf (fitZ (qZ p q - qZ p' q'))), .slice T3 k3 r3] 24))
  have S8 := Lib.hid (S8.out.alloc (.cells #[.bool (nOf (fitZ (qZ p q - qZ p' q'))), .slice T3 k3 r3] 24))
  have X6 := Lib.hid (X6.out.alloc (.cells #[.bool (nOf (fitZ (qZ p q - qZ p' q'))), .slice T3 k3 r3] 24))
  have X7 := Lib.hid (X7.out.alloc (.cells #[.bool (nOf (fitZ (qZ p q - qZ p' q'))), .slice T3 k3 r3] 24))
  have S9 := Lib.hid (S9.out.alloc (.cells #[.bool (nOf (fitZ (qZ p q - qZ p' q'))), .slice T3 k3 r3] 24))
  have X8 := Lib.hid (Bk.new 24 w3 #[.bool (nOf (fitZ (qZ p q - qZ p' q'))), .slice T3 k3 r3])
  generalize (w3.alloc (.cells #[.bool (nOf (fitZ (qZ p q - qZ p' q'))), .slice T3 k3 r3] 24)) = W3 at *
  have e0 : W3.cell? ⟨w1.heap.size + 1, 0, none⟩ = some (.bool (nOf (rZ p q))) := X5.out.c 0 rfl
  have e1 : W3.cell? ⟨w1.heap.size + 1, 1, none⟩ = some (.slice U l s) := X5.out.c 1 rfl
  have e2 : W3.cell? ⟨w.heap.size, 0, none⟩ = some (.bool (nOf (p))) := X1.out.c 0 rfl
  have e3 : W3.cell? ⟨w.heap.size, 1, none⟩ = some (.slice A1 n1 c1) := X1.out.c 1 rfl
  have e4 : W3.cell? ⟨w.heap.size, 2, none⟩ = some (.bool (nOf (q))) := X1.out.c 2 rfl
  have e5 : W3.cell? ⟨w.heap.size, 3, none⟩ = some (.slice B1 m1 d1) := X1.out.c 3 rfl
  have e6 : W3.cell? ⟨w2.heap.size + 1, 0, none⟩ = some (.bool (nOf (rZ p' q'))) := X7.out.c 0 rfl
  have e7 : W3.cell? ⟨w2.heap.size + 1, 1, none⟩ = some (.slice U' l' s') := X7.out.c 1 rfl
  have e8 : W3.cell? ⟨w.heap.size + 1, 0, none⟩ = some (.bool (nOf (p'))) := X2.out.c 0 rfl
  have e9 : W3.cell? ⟨w.heap.size + 1, 1, none⟩ = some (.slice A2 n2 c2) := X2.out.c 1 rfl
  have e10 : W3.cell? ⟨w.heap.size + 1, 2, none⟩ = some (.bool (nOf (q'))) := X2.out.c 2 rfl
  have e11 : W3.cell? ⟨w.heap.size + 1, 3, none⟩ = some (.slice B2 m2 d2) := X2.out.c 3 rfl
  go_wp2_with fail
  ((with_reducible refine (parts_any (rZ p q) q (rZ p' q') q' U B1 U' B2 l s m1 d1 l' s' m2 d2 _ S6.out S2.out S8.out S4.out HP.out).mono ?_); rintro e w4 ⟨T4, k4, i4, U4, l4, j4, rfl, hs, ht, hb⟩)
  clear e0 e1 e2 e3 e4 e5 e6 e7 e8 e9 e10 e11
  have S1 := Lib.hid (S1.out.below hb)
  have S2 := Lib.hid (S2.out.below hb)
  have S3 := Lib.hid (S3.out.below hb)
  have S4 := Lib.hid (S4.out.below hb)
  have BW := Lib.hid (below_on BW.out hb)
  have X1 := Lib.hid (X1.out.below hb)
  have X2 := Lib.hid (X2.out.below hb)
  have X3 := Lib.hid (X3.out.below hb)
  have S5 := Lib.hid (S5.out.below hb)
  have S6 := Lib.hid (S6.out.below hb)
  have X4 := Lib.hid (X4.out.below hb)
  have X5 := Lib.hid (X5.out.below hb)
  have S7 := Lib.hid (S7.out.below hb)
  have S8 := Lib.hid (S8.out.below hb)
  have X6 := Lib.hid (X6.out.below hb)
  have X7 := Lib.hid (X7.out.below hb)
  have S9 := Lib.hid (S9.out.below hb)
  have X8 := Lib.hid (X8.out.below hb)
  clear hb
  have S10 := Lib.hid hs
  have S11 := Lib.hid ht
  clear hs ht
  have e0 : w4.cell? ⟨w1.heap.size + 1, 0, none⟩ = some (.bool (nOf (rZ p q))) := X5.out.c 0 rfl
  have e1 : w4.cell? ⟨w1.heap.size + 1, 1, none⟩ = some (.slice U l s) := X5.out.c 1 rfl
  have e2 : w4.cell? ⟨w.heap.size, 0, none⟩ = some (.bool (nOf (p))) := X1.out.c 0 rfl
  have e3 : w4.cell? ⟨w.heap.size, 1, none⟩ = some (.slice A1 n1 c1) := X1.out.c 1 rfl
  have e4 : w4.cell? ⟨w.heap.size, 2, none⟩ = some (.bool (nOf (q))) := X1.out.c 2 rfl
  have e5 : w4.cell? ⟨w.heap.size, 3, none⟩ = some (.slice B1 m1 d1) := X1.out.c 3 rfl
  have e6 : w4.cell? ⟨w2.heap.size + 1, 0, none⟩ = some (.bool (nOf (rZ p' q'))) := X7.out.c 0 rfl
  have e7 : w4.cell? ⟨w2.heap.size + 1, 1, none⟩ = some (.slice U' l' s') := X7.out.c 1 rfl
  have e8 : w4.cell? ⟨w.heap.size + 1, 0, none⟩ = some (.bool (nOf (p'))) := X2.out.c 0 rfl
  have e9 : w4.cell? ⟨w.heap.size + 1, 1, none⟩ = some (.slice A2 n2 c2) := X2.out.c 1 rfl
  have e10 : w4.cell? ⟨w.heap.size + 1, 2, none⟩ = some (.bool (nOf (q'))) := X2.out.c 2 rfl
  have e11 : w4.cell? ⟨w.heap.size + 1, 3, none⟩ = some (.slice B2 m2 d2) := X2.out.c 3 rfl
  go_upto_region 5 with fail
  clear e0 e1 e2 e3 e4 e5 e6 e7 e8 e9 e10 e11
  have ln16 := X1.out.lt
  have ln17 := X2.out.lt
  have ln18 := X3.out.lt
  have ln19 := X4.out.lt
  have ln20 := X5.out.lt
  have ln21 := X6.out.lt
  have ln22 := X7.out.lt
  have ln23 := X8.out.lt
  have S1 := Lib.hid (S1.out.alloc (.cells #[.bool (nOf (selZ (fitB (dZ (rZ p q) q (rZ p' q') q')) (nZ (rZ p q) q (rZ p' q') q'))), .slice T4 k4 i4, .bool (nOf (selZ (fitB (dZ (rZ p q) q (rZ p' q') q')) (dZ (rZ p q) q (rZ p' q') q'))), .slice U4 l4 j4] 26))
  have S2 := Lib.hid (S2.out.alloc (.cells #[.bool (nOf (selZ (fitB (dZ (rZ p q) q (rZ p' q') q')) (nZ (rZ p q) q (rZ p' q') q'))), .slice T4 k4 i4, .bool (nOf (selZ (fitB (dZ (rZ p q) q (rZ p' q') q')) (dZ (rZ p q) q (rZ p' q') q'))), .slice U4 l4 j4] 26))
  have S3 := Lib.hid (S3.out.alloc (.cells #[.bool (nOf (selZ (fitB (dZ (rZ p q) q (rZ p' q') q')) (nZ (rZ p q) q (rZ p' q') q'))), .slice T4 k4 i4, .bool (nOf (selZ (fitB (dZ (rZ p q) q (rZ p' q') q')) (dZ (rZ p q) q (rZ p' q') q'))), .slice U4 l4 j4] 26))
  have S4 := Lib.hid (S4.out.alloc (.cells #[.bool (nOf (selZ (fitB (dZ (rZ p q) q (rZ p' q') q')) (nZ (rZ p q) q (rZ p' q') q'))), .slice T4 k4 i4, .bool (nOf (selZ (fitB (dZ (rZ p q) q (rZ p' q') q')) (dZ (rZ p q) q (rZ p' q') q'))), .slice U4 l4 j4] 26))
  have BW := Lib.hid (BW.out.alloc BW.out.size (.cells #[.bool (nOf (selZ (fitB (dZ (rZ p q) q (rZ p' q') q')) (nZ (rZ p q) q (rZ p' q') q'))), .slice T4 k4 i4, .bool (nOf (selZ (fitB (dZ (rZ p q) q (rZ p' q') q')) (dZ (rZ p q) q (rZ p' q') q'))), .slice U4 l4 j4] 26))
  have X1 := Lib.hid (X1.out.alloc (.cells #[.bool (nOf (selZ (fitB (dZ (rZ p q) q (rZ p' q') q')) (nZ (rZ p q) q (rZ p' q') q'))), .slice T4 k4 i4, .bool (nOf (selZ (fitB (dZ (rZ p q) q (rZ p' q') q')) (dZ (rZ p q) q (rZ p' q') q'))), .slice U4 l4 j4] 26))
  have X2 := Lib.hid (X2.out.alloc (.cells #[.bool (nOf (selZ (fitB (dZ (rZ p q) q (rZ p' q') q')) (nZ (rZ p q) q (rZ p' q') q'))), .slice T4 k4 i4, .bool (nOf (selZ (fitB (dZ (rZ p q) q (rZ p' q') q')) (dZ (rZ p q) q (rZ p' q') q'))), .slice U4 l4 j4] 26))
  have X3 := Lib.hid (X3.out.alloc (.cells #[.bool (nOf (selZ (fitB (dZ (rZ p q) q (rZ p' q') q')) (nZ (rZ p q) q (rZ p' q') q'))), .slice T4 k4 i4, .bool (nOf (selZ (fitB (dZ (rZ p q) q (rZ p' q') q')) (dZ (rZ p q) q (rZ p' q') q'))), .slice U4 l4 j4] 26))
  have S5 := Lib.hid (S5.out.alloc (.cells #[.bool (nOf (selZ (fitB (dZ (rZ p q) q (rZ p' q') q')) (nZ (rZ p q) q (rZ p' q') q'))), .slice T4 k4 i4, .bool (nOf (selZ (fitB (dZ (rZ p q) q (rZ p' q') q')) (dZ (rZ p q) q (rZ p' q') q'))), .slice U4 l4 j4] 26))
  have S6 := Lib.hid (S6.out.alloc (.cells #[.bool (nOf (selZ (fitB (dZ (rZ p q) q (rZ p' q') q')) (nZ (rZ p q) q (rZ p' q') q'))), .slice T4 k4 i4, .bool (nOf (selZ (fitB (dZ (rZ p q) q (rZ p' q') q')) (dZ (rZ p q) q (rZ p' q') q'))), .slice U4 l4 j4] 26))
  have X4 := Lib.hid (X4.out.alloc (.cells #[.bool (nOf (selZ (fitB (dZ (rZ p q) q (rZ p' q') q')) (nZ (rZ p q) q (rZ p' q') q'))), .slice T4 k4 i4, .bool (nOf (selZ (fitB (dZ (rZ p q) q (rZ p' q') q')) (dZ (rZ p q) q (rZ p' q') q'))), .slice U4 l4 j4] 26))
  have X5 := Lib.hid (X5.out.alloc (.cells #[.bool (nOf (selZ (fitB (dZ (rZ p q) q (rZ p' q') q')) (nZ (rZ p q) q (rZ p' q') q'))), .slice T4 k4 i4, .bool (nOf (selZ (fitB (dZ (rZ p q) q (rZ p' q') q')) (dZ (rZ p q) q (rZ p' q') q'))), .slice U4 l4 j4] 26))
  have S7 := Lib.hid (S7.out.alloc (.cells #[.bool (nOf (selZ (fitB (dZ (rZ p q) q (rZ p' q') q')) (nZ (rZ p q) q (rZ p' q') q'))), .slice T4 k4 i4, .bool (nOf (selZ (fitB (dZ (rZ p q) q (rZ p' q') q')) (dZ (rZ p q) q (rZ p' q') q'))), .slice U4 l4 j4] 26))
  have S8 := Lib.hid (S8.out.alloc (.cells #[.bool (nOf (selZ (fitB (dZ (rZ p q) q (rZ p' q') q')) (nZ (rZ p q) q (rZ p' q') q'))), .slice T4 k4 i4, .bool (nOf (selZ (fitB (dZ (rZ p q) q (rZ p' q') q')) (dZ (rZ p q) q (rZ p' q') q'))), .slice U4 l4 j4] 26))
  have X6 := Lib.hid (X6.out.alloc (.cells #[.bool (nOf (selZ (fitB (dZ (rZ p q) q (rZ p' q') q')) (nZ (rZ p q) q (rZ p' q') q'))), .slice T4 k4 i4, .bool (nOf (selZ (fitB (dZ (rZ p q) q (rZ p' q') q')) (dZ (rZ p q) q (rZ p' q') q'))), .slice U4 l4 j4] 26))
  have X7 := Lib.hid (X7.out.alloc (.cells #[.bool (nOf (selZ (fitB (dZ (rZ p q) q (rZ p' q') q')) (nZ (rZ p q) q (rZ p' q') q'))), .slice T4 k4 i4, .bool (nOf (selZ (fitB (dZ (rZ p q) q (rZ p' q') q')) (dZ (rZ p q) q (rZ p' q') q'))), .slice U4 l4 j4] 26))
  have S9 := Lib.hid (S9.out.alloc (.cells #[.bool (nOf (selZ (fitB (dZ (rZ p q) q (rZ p' q') q')) (nZ (rZ p q) q (rZ p' q') q'))), .slice T4 k4 i4, .bool (nOf (selZ (fitB (dZ (rZ p q) q (rZ p' q') q')) (dZ (rZ p q) q (rZ p' q') q'))), .slice U4 l4 j4] 26))
  have X8 := Lib.hid (X8.out.alloc (.cells #[.bool (nOf (selZ (fitB (dZ (rZ p q) q (rZ p' q') q')) (nZ (rZ p q) q (rZ p' q') q'))), .slice T4 k4 i4, .bool (nOf (selZ (fitB (dZ (rZ p q) q (rZ p' q') q')) (dZ (rZ p q) q (rZ p' q') q'))), .slice U4 l4 j4] 26))
  have S10 := Lib.hid (S10.out.alloc (.cells #[.bool (nOf (selZ (fitB (dZ (rZ p q) q (rZ p' q') q')) (nZ (rZ p q) q (rZ p' q') q'))), .slice T4 k4 i4, .bool (nOf (selZ (fitB (dZ (rZ p q) q (rZ p' q') q')) (dZ (rZ p q) q (rZ p' q') q'))), .slice U4 l4 j4] 26))
  have S11 := Lib.hid (S11.out.alloc (.cells #[.bool (nOf (selZ (fitB (dZ (rZ p q) q (rZ p' q') q')) (nZ (rZ p q) q (rZ p' q') q'))), .slice T4 k4 i4, .bool (nOf (selZ (fitB (dZ (rZ p q) q (rZ p' q') q')) (dZ (rZ p q) q (rZ p' q') q'))), .slice U4 l4 j4] 26))
  have X9 := Lib.hid (Bk.new 26 w4 #[.bool (nOf (selZ (fitB (dZ (rZ p q) q (rZ p' q') q')) (nZ (rZ p q) q (rZ p' q') q'))), .slice T4 k4 i4, .bool (nOf (selZ (fitB (dZ (rZ p q) q (rZ p' q') q')) (dZ (rZ p q) q (rZ p' q') q'))), .slice U4 l4 j4])
  generalize (w4.alloc (.cells #[.bool (nOf (selZ (fitB (dZ (rZ p q) q (rZ p' q') q')) (nZ (rZ p q) q (rZ p' q') q'))), .slice T4 k4 i4, .bool (nOf (selZ (fitB (dZ (rZ p q) q (rZ p' q') q')) (dZ (rZ p q) q (rZ p' q') q'))), .slice U4 l4 j4] 26)) = W4 at *
  rcases Bool.eq_false_or_eq_true (fitB (qZ p q - qZ p' q')) with hw | hw
  · have HW := Lib.hid hw
    rw [fitZ_of hw] at S9 X8
    rw [hw]
    clear hw
    rcases Bool.eq_false_or_eq_true (fitB (dZ (rZ p q) q (rZ p' q') q')) with hd | hd
    · have HD := Lib.hid hd
      rw [sel_yes _ hd] at S10
      rw [sel_yes _ hd] at S11
      rw [sel_yes _ hd, sel_yes _ hd] at X9
      rw [hd]
      clear hd
      have NL := Lib.hid HP.out.nlt
      have e0 : W4.cell? ⟨w3.heap.size, 0, none⟩ = some (.bool (nOf ((qZ p q - qZ p' q')))) := X8.out.c 0 rfl
      have e1 : W4.cell? ⟨w3.heap.size, 1, none⟩ = some (.slice T3 k3 r3) := X8.out.c 1 rfl
      have e2 : W4.cell? ⟨w4.heap.size, 0, none⟩ = some (.bool (nOf (nZ (rZ p q) q (rZ p' q') q'))) := X9.out.c 0 rfl
      have e3 : W4.cell? ⟨w4.heap.size, 1, none⟩ = some (.slice T4 k4 i4) := X9.out.c 1 rfl
      have e4 : W4.cell? ⟨w4.heap.size, 2, none⟩ = some (.bool (nOf (dZ (rZ p q) q (rZ p' q') q'))) := X9.out.c 2 rfl
      have e5 : W4.cell? ⟨w4.heap.size, 3, none⟩ = some (.slice U4 l4 j4) := X9.out.c 3 rfl
      go_wp2_with fail
      ((with_reducible refine (joined_any (qZ p q - qZ p' q') (nZ (rZ p q) q (rZ p' q') q') (dZ (rZ p q) q (rZ p' q') q') T3 T4 U4 k3 r3 k4 i4 l4 j4 _ S9.out S10.out S11.out HW.out (HP.out.fn HD.out) HD.out NL.out.1 NL.out.2).mono ?_); rintro e w5 ⟨T5, k5, i5, U5, l5, j5, rfl, hs, ht, hb⟩)
      clear e0 e1 e2 e3 e4 e5
      have S1 := Lib.hid (S1.out.below hb)
      have S2 := Lib.hid (S2.out.below hb)
      have S3 := Lib.hid (S3.out.below hb)
      have S4 := Lib.hid (S4.out.below hb)
      have BW := Lib.hid (below_on BW.out hb)
      have X1 := Lib.hid (X1.out.below hb)
      have X2 := Lib.hid (X2.out.below hb)
      have X3 := Lib.hid (X3.out.below hb)
      have S5 := Lib.hid (S5.out.below hb)
      have S6 := Lib.hid (S6.out.below hb)
      have X4 := Lib.hid (X4.out.below hb)
      have X5 := Lib.hid (X5.out.below hb)
      have S7 := Lib.hid (S7.out.below hb)
      have S8 := Lib.hid (S8.out.below hb)
      have X6 := Lib.hid (X6.out.below hb)
      have X7 := Lib.hid (X7.out.below hb)
      have S9 := Lib.hid (S9.out.below hb)
      have X8 := Lib.hid (X8.out.below hb)
      have S10 := Lib.hid (S10.out.below hb)
      have S11 := Lib.hid (S11.out.below hb)
      have X9 := Lib.hid (X9.out.below hb)
      clear hb
      have S12 := Lib.hid hs
      have S13 := Lib.hid ht
      clear hs ht
      have RF := res_form HQX.out LO.out (fitB ((qZ p q - qZ p' q') * (dZ (rZ p q) q (rZ p' q') q') + (nZ (rZ p q) q (rZ p' q') q'))) (by rw [HD.out, Bool.and_true])
      have E0 := Lib.hid RF.1
      have E1 : Hid (resN (p * q' - p' * q) (q * q') = jZ (fitB ((qZ p q - qZ p' q') * (dZ (rZ p q) q (rZ p' q') q') + (nZ (rZ p q) q (rZ p' q') q'))) ((qZ p q - qZ p' q') * (dZ (rZ p q) q (rZ p' q') q') + (nZ (rZ p q) q (rZ p' q') q'))) := RF.2.1
      have E2 : Hid (resD (p * q' - p' * q) (q * q') = jZ (fitB ((qZ p q - qZ p' q') * (dZ (rZ p q) q (rZ p' q') q') + (nZ (rZ p q) q (rZ p' q') q'))) (dZ (rZ p q) q (rZ p' q') q')) := RF.2.2
      clear RF
      have e0 : w5.cell? ⟨w.heap.size + 1 + 1, 0, none⟩ = some (.bool false) := X3.out.c 0 rfl
      have e1 : w5.cell? ⟨w.heap.size + 1 + 1, 1, none⟩ = some (.slice none 0 0) := X3.out.c 1 rfl
      have e2 : w5.cell? ⟨w.heap.size + 1 + 1, 2, none⟩ = some (.bool false) := X3.out.c 2 rfl
      have e3 : w5.cell? ⟨w.heap.size + 1 + 1, 3, none⟩ = some (.slice none 0 0) := X3.out.c 3 rfl
      have z4 := X3.out.fz 0
      have z5 := X3.out.fz 1
      have z6 := X3.out.fz 2
      have z7 := X3.out.fz 3
      go_wp2_with fail
      refine bodyPost_ret (v := .tuple #[.agg #[.bool (nOf (jZ (fitB ((qZ p q - qZ p' q') * (dZ (rZ p q) q (rZ p' q') q') + (nZ (rZ p q) q (rZ p' q') q'))) ((qZ p q - qZ p' q') * (dZ (rZ p q) q (rZ p' q') q') + (nZ (rZ p q) q (rZ p' q') q')))), .slice T5 k5 i5, .bool (nOf (jZ (fitB ((qZ p q - qZ p' q') * (dZ (rZ p q) q (rZ p' q') q') + (nZ (rZ p q) q (rZ p' q') q'))) (dZ (rZ p q) q (rZ p' q') q'))), .slice U5 l5 j5], .bool (fitB ((qZ p q - qZ p' q') * (dZ (rZ p q) q (rZ p' q') q') + (nZ (rZ p q) q (rZ p' q') q')))]) (by simp [results, Tryz.results28, go_sem, *]) rfl ⟨T5, k5, i5, U5, l5, j5, ?_, ?_, ?_, below_set4 BW.out (by omega) _ _ _ _⟩
      · rw [E0.out, E1.out, E2.out]
      · rw [E1.out]; exact S12.out.bk4 X3.out _ _ _ _
      · rw [E2.out]; exact S13.out.bk4 X3.out _ _ _ _
    · have HD := Lib.hid hd
      rw [hd]
      clear hd
      have RF := res_form HQX.out LO.out false (by rw [HD.out, Bool.and_false])
      have E0 := Lib.hid RF.1
      have E1 : Hid (resN (p * q' - p' * q) (q * q') = 0) := RF.2.1
      have E2 : Hid (resD (p * q' - p' * q) (q * q') = 0) := RF.2.2
      clear RF
      have e0 : W4.cell? ⟨w.heap.size + 1 + 1, 0, none⟩ = some (.bool false) := X3.out.c 0 rfl
      have e1 : W4.cell? ⟨w.heap.size + 1 + 1, 1, none⟩ = some (.slice none 0 0) := X3.out.c 1 rfl
      have e2 : W4.cell? ⟨w.heap.size + 1 + 1, 2, none⟩ = some (.bool false) := X3.out.c 2 rfl
      have e3 : W4.cell? ⟨w.heap.size + 1 + 1, 3, none⟩ = some (.slice none 0 0) := X3.out.c 3 rfl
      have z4 := X3.out.fz 0
      have z5 := X3.out.fz 1
      have z6 := X3.out.fz 2
      have z7 := X3.out.fz 3
      go_wp2_with fail
      refine bodyPost_ret (v := .tuple #[.agg #[.bool false, .slice none 0 0, .bool false, .slice none 0 0], .bool false]) (by simp [results, Tryz.results28, go_sem, *]) rfl ⟨none, 0, 0, none, 0, 0, ?_, ?_, ?_, below_set4 BW.out (by omega) _ _ _ _⟩
      · rw [E0.out, E1.out, E2.out]; rfl
      · rw [E1.out, lOf_zero]; exact Sl.nil _
      · rw [E2.out, lOf_zero]; exact Sl.nil _
  · have HW := Lib.hid hw
    rw [hw]
    clear hw
    have RF := res_form HQX.out LO.out false (by rw [big_whole HW.out HP.out.dpos HP.out.nlt.1 HP.out.nlt.2, Bool.false_and])
    have E0 := Lib.hid RF.1
    have E1 : Hid (resN (p * q' - p' * q) (q * q') = 0) := RF.2.1
    have E2 : Hid (resD (p * q' - p' * q) (q * q') = 0) := RF.2.2
    clear RF
    have e0 : W4.cell? ⟨w.heap.size + 1 + 1, 0, none⟩ = some (.bool false) := X3.out.c 0 rfl
    have e1 : W4.cell? ⟨w.heap.size + 1 + 1, 1, none⟩ = some (.slice none 0 0) := X3.out.c 1 rfl
    have e2 : W4.cell? ⟨w.heap.size + 1 + 1, 2, none⟩ = some (.bool false) := X3.out.c 2 rfl
    have e3 : W4.cell? ⟨w.heap.size + 1 + 1, 3, none⟩ = some (.slice none 0 0) := X3.out.c 3 rfl
    have z4 := X3.out.fz 0
    have z5 := X3.out.fz 1
    have z6 := X3.out.fz 2
    have z7 := X3.out.fz 3
    go_wp2_with fail
    refine bodyPost_ret (v := .tuple #[.agg #[.bool false, .slice none 0 0, .bool false, .slice none 0 0], .bool false]) (by simp [results, Tryz.results28, go_sem, *]) rfl ⟨none, 0, 0, none, 0, 0, ?_, ?_, ?_, below_set4 BW.out (by omega) _ _ _ _⟩
    · rw [E0.out, E1.out, E2.out]; rfl
    · rw [E1.out, lOf_zero]; exact Sl.nil _
    · rw [E2.out, lOf_zero]; exact Sl.nil _

set_option maxHeartbeats 1000000 in
theorem rsub_any (s1 t1 s2 t2 : Bool) (A1 B1 A2 B2 : Option Addr) (n1 c1 m1 d1 n2 c2 m2 d2 : Nat) (x1 y1 x2 y2 : List Int) (w : World) (ha : Sl w A1 n1 c1 x1) (hb : Sl w B1 m1 d1 y1) (hc : Sl w A2 n2 c2 x2) (hd : Sl w B2 m2 d2 y2) :
    Calls Tryz.prog 9 #[.agg #[.bool s1, .slice A1 n1 c1, .bool t1, .slice B1 m1 d1], .agg #[.bool s2, .slice A2 n2 c2, .bool t2, .slice B2 m2 d2]] w fun e w' => ∃ T k r U l s, e = .returned (.tuple #[.agg #[.bool (nOf (resN (frN s1 x1 t1 y1 * frD s2 x2 t2 y2 - frN s2 x2 t2 y2 * frD s1 x1 t1 y1) (frD s1 x1 t1 y1 * (frD s2 x2 t2 y2)))), .slice T k r, .bool (nOf (resD (frN s1 x1 t1 y1 * frD s2 x2 t2 y2 - frN s2 x2 t2 y2 * frD s1 x1 t1 y1) (frD s1 x1 t1 y1 * (frD s2 x2 t2 y2)))), .slice U l s], .bool (resB (frN s1 x1 t1 y1 * frD s2 x2 t2 y2 - frN s2 x2 t2 y2 * frD s1 x1 t1 y1) (frD s1 x1 t1 y1 * (frD s2 x2 t2 y2)))]) ∧ Sl w' T k r (lOf (resN (frN s1 x1 t1 y1 * frD s2 x2 t2 y2 - frN s2 x2 t2 y2 * frD s1 x1 t1 y1) (frD s1 x1 t1 y1 * (frD s2 x2 t2 y2)))) ∧ Sl w' U l s (lOf (resD (frN s1 x1 t1 y1 * frD s2 x2 t2 y2 - frN s2 x2 t2 y2 * frD s1 x1 t1 y1) (frD s1 x1 t1 y1 * (frD s2 x2 t2 y2)))) ∧ Below w.heap.size w w' := by
  have S1 := Lib.hid ha
  have S2 := Lib.hid hb
  have S3 := Lib.hid hc
  have S4 := Lib.hid hd
  clear ha hb hc hd
  have FA := Lib.hid (fr_ok s1 x1 t1 y1)
  have FB := Lib.hid (fr_ok s2 x2 t2 y2)
  have BW := Lib.hid (Below.refl w.heap.size w)
  go_enter Tryz.func9, Tryz.ntmps9
  go_upto_region 1 with fail
  have S1 := Lib.hid (S1.out.alloc (.cells #[.bool s1, .slice A1 n1 c1, .bool t1, .slice B1 m1 d1] 26))
  have S2 := Lib.hid (S2.out.alloc (.cells #[.bool s1, .slice A1 n1 c1, .bool t1, .slice B1 m1 d1] 26))
  have S3 := Lib.hid (S3.out.alloc (.cells #[.bool s1, .slice A1 n1 c1, .bool t1, .slice B1 m1 d1] 26))
  have S4 := Lib.hid (S4.out.alloc (.cells #[.bool s1, .slice A1 n1 c1, .bool t1, .slice B1 m1 d1] 26))
  have BW := Lib.hid (BW.out.alloc BW.out.size (.cells #[.bool s1, .slice A1 n1 c1, .bool t1, .slice B1 m1 d1] 26))
  have X1 := Lib.hid (Bk.new 26 w #[.bool s1, .slice A1 n1 c1, .bool t1, .slice B1 m1 d1])
  have S1 := Lib.hid (S1.out.alloc (.cells #[.bool s2, .slice A2 n2 c2, .bool t2, .slice B2 m2 d2] 26))
  have S2 := Lib.hid (S2.out.alloc (.cells #[.bool s2, .slice A2 n2 c2, .bool t2, .slice B2 m2 d2] 26))
  have S3 := Lib.hid (S3.out.alloc (.cells #[.bool s2, .slice A2 n2 c2, .bool t2, .slice B2 m2 d2] 26))
  have S4 := Lib.hid (S4.out.alloc (.cells #[.bool s2, .slice A2 n2 c2, .bool t2, .slice B2 m2 d2] 26))
  have BW := Lib.hid (BW.out.alloc BW.out.size (.cells #[.bool s2, .slice A2 n2 c2, .bool t2, .slice B2 m2 d2] 26))
  have X1 := Lib.hid (X1.out.alloc (.cells #[.bool s2, .slice A2 n2 c2, .bool t2, .slice B2 m2 d2] 26))
  have X2 := Lib.hid (Bk.new 26 (w.alloc (.cells #[.bool s1, .slice A1 n1 c1, .bool t1, .slice B1 m1 d1] 26)) #[.bool s2, .slice A2 n2 c2, .bool t2, .slice B2 m2 d2])
  rw [alloc_sz] at X2
  have S1 := Lib.hid (S1.out.alloc (.cells #[.bool false, .slice none 0 0, .bool false, .slice none 0 0] 26))
  have S2 := Lib.hid (S2.out.alloc (.cells #[.bool false, .slice none 0 0, .bool false, .slice none 0 0] 26))
  have S3 := Lib.hid (S3.out.alloc (.cells #[.bool false, .slice none 0 0, .bool false, .slice none 0 0] 26))
  have S4 := Lib.hid (S4.out.alloc (.cells #[.bool false, .slice none 0 0, .bool false, .slice none 0 0] 26))
  have BW := Lib.hid (BW.out.alloc BW.out.size (.cells #[.bool false, .slice none 0 0, .bool false, .slice none 0 0] 26))
  have X1 := Lib.hid (X1.out.alloc (.cells #[.bool false, .slice none 0 0, .bool false, .slice none 0 0] 26))
  have X2 := Lib.hid (X2.out.alloc (.cells #[.bool false, .slice none 0 0, .bool false, .slice none 0 0] 26))
  have X3 := Lib.hid (Bk.new 26 ((w.alloc (.cells #[.bool s1, .slice A1 n1 c1, .bool t1, .slice B1 m1 d1] 26)).alloc (.cells #[.bool s2, .slice A2 n2 c2, .bool t2, .slice B2 m2 d2] 26)) #[.bool false, .slice none 0 0, .bool false, .slice none 0 0])
  rw [alloc_sz, alloc_sz] at X3
  generalize (((w.alloc (.cells #[.bool s1, .slice A1 n1 c1, .bool t1, .slice B1 m1 d1] 26)).alloc (.cells #[.bool s2, .slice A2 n2 c2, .bool t2, .slice B2 m2 d2] 26)).alloc (.cells #[.bool false, .slice none 0 0, .bool false, .slice none 0 0] 26)) = W0 at *
  have e0 : W0.cell? ⟨w.heap.size, 0, none⟩ = some (.bool s1) := X1.out.c 0 rfl
  have e1 : W0.cell? ⟨w.heap.size, 1, none⟩ = some (.slice A1 n1 c1) := X1.out.c 1 rfl
  have e2 : W0.cell? ⟨w.heap.size, 2, none⟩ = some (.bool t1) := X1.out.c 2 rfl
  have e3 : W0.cell? ⟨w.heap.size, 3, none⟩ = some (.slice B1 m1 d1) := X1.out.c 3 rfl
  have e4 : W0.cell? ⟨w.heap.size + 1, 0, none⟩ = some (.bool s2) := X2.out.c 0 rfl
  have e5 : W0.cell? ⟨w.heap.size + 1, 1, none⟩ = some (.slice A2 n2 c2) := X2.out.c 1 rfl
  have e6 : W0.cell? ⟨w.heap.size + 1, 2, none⟩ = some (.bool t2) := X2.out.c 2 rfl
  have e7 : W0.cell? ⟨w.heap.size + 1, 3, none⟩ = some (.slice B2 m2 d2) := X2.out.c 3 rfl
  have iq1 : ¬ w.heap.size + 1 + 1 = w.heap.size := by omega
  have ir1 : ¬ w.heap.size = w.heap.size + 1 + 1 := by omega
  have iq2 : ¬ w.heap.size + 1 + 1 = w.heap.size + 1 := by omega
  have ir2 : ¬ w.heap.size + 1 = w.heap.size + 1 + 1 := by omega
  go_region_held3 (fun w' => w'.cell? ⟨w.heap.size, 0, none⟩ = some (.bool s1) ∧ w'.cell? ⟨w.heap.size, 1, none⟩ = some (.slice A1 n1 c1) ∧ w'.cell? ⟨w.heap.size, 2, none⟩ = some (.bool t1) ∧ w'.cell? ⟨w.heap.size, 3, none⟩ = some (.slice B1 m1 d1) ∧ w'.cell? ⟨w.heap.size + 1, 0, none⟩ = some (.bool s2) ∧ w'.cell? ⟨w.heap.size + 1, 1, none⟩ = some (.slice A2 n2 c2) ∧ w'.cell? ⟨w.heap.size + 1, 2, none⟩ = some (.bool t2) ∧ w'.cell? ⟨w.heap.size + 1, 3, none⟩ = some (.slice B2 m2 d2)) (go_keep)
    (first | (go_at_call 29; (with_reducible refine (frac_any s1 t1 A1 B1 n1 c1 m1 d1 x1 y1 _ (by first | exact S1.out | exact S1.out.drew) (by first | exact S2.out | exact S2.out.drew)).mono ?_); rintro e a1 ⟨T1, k1, r1, U1, l1, j1, rfl, hs, ht, hb⟩; have BB1 := Lib.hid (show Below W0.heap.size W0 a1 from (by first | exact hb | exact (Below.refl _ _).drew.trans (hb.mono (Nat.le_refl _)))); have R1 := Lib.hid hs; clear hs; have R2 := Lib.hid ht; clear ht; have f0 : a1.cell? ⟨w.heap.size, 0, none⟩ = some (.bool s1) := (X1.out.below BB1.out).c 0 rfl; have f1 : a1.cell? ⟨w.heap.size, 1, none⟩ = some (.slice A1 n1 c1) := (X1.out.below BB1.out).c 1 rfl; have f2 : a1.cell? ⟨w.heap.size, 2, none⟩ = some (.bool t1) := (X1.out.below BB1.out).c 2 rfl; have f3 : a1.cell? ⟨w.heap.size, 3, none⟩ = some (.slice B1 m1 d1) := (X1.out.below BB1.out).c 3 rfl; have f4 : a1.cell? ⟨w.heap.size + 1, 0, none⟩ = some (.bool s2) := (X2.out.below BB1.out).c 0 rfl; have f5 : a1.cell? ⟨w.heap.size + 1, 1, none⟩ = some (.slice A2 n2 c2) := (X2.out.below BB1.out).c 1 rfl; have f6 : a1.cell? ⟨w.heap.size + 1, 2, none⟩ = some (.bool t2) := (X2.out.below BB1.out).c 2 rfl; have f7 : a1.cell? ⟨w.heap.size + 1, 3, none⟩ = some (.slice B2 m2 d2) := (X2.out.below BB1.out).c 3 rfl; have g0 : a1.cell? ⟨w.heap.size + 1 + 1, 0, none⟩ = some (.bool false) := (X3.out.below BB1.out).c 0 rfl; have h0 := (X3.out.below BB1.out).fz 0; have g1 : a1.cell? ⟨w.heap.size + 1 + 1, 1, none⟩ = some (.slice none 0 0) := (X3.out.below BB1.out).c 1 rfl; have h1 := (X3.out.below BB1.out).fz 1; have g2 : a1.cell? ⟨w.heap.size + 1 + 1, 2, none⟩ = some (.bool false) := (X3.out.below BB1.out).c 2 rfl; have h2 := (X3.out.below BB1.out).fz 2; have g3 : a1.cell? ⟨w.heap.size + 1 + 1, 3, none⟩ = some (.slice none 0 0) := (X3.out.below BB1.out).c 3 rfl; have h3 := (X3.out.below BB1.out).fz 3; clear hb) | (go_at_call 29; (with_reducible refine (frac_any s2 t2 A2 B2 n2 c2 m2 d2 x2 y2 _ (S3.out.below BB1.out) (S4.out.below BB1.out)).mono ?_); rintro e a2 ⟨T2, k2, r2, U2, l2, j2, rfl, hs, ht, hb⟩; have BB2 := Lib.hid (below_up BB1.out hb); have R1 := Lib.hid (R1.out.below hb); have R2 := Lib.hid (R2.out.below hb); have R3 := Lib.hid hs; clear hs; have R4 := Lib.hid ht; clear ht; have f0 : a2.cell? ⟨w.heap.size, 0, none⟩ = some (.bool s1) := (X1.out.below BB2.out).c 0 rfl; have f1 : a2.cell? ⟨w.heap.size, 1, none⟩ = some (.slice A1 n1 c1) := (X1.out.below BB2.out).c 1 rfl; have f2 : a2.cell? ⟨w.heap.size, 2, none⟩ = some (.bool t1) := (X1.out.below BB2.out).c 2 rfl; have f3 : a2.cell? ⟨w.heap.size, 3, none⟩ = some (.slice B1 m1 d1) := (X1.out.below BB2.out).c 3 rfl; have f4 : a2.cell? ⟨w.heap.size + 1, 0, none⟩ = some (.bool s2) := (X2.out.below BB2.out).c 0 rfl; have f5 : a2.cell? ⟨w.heap.size + 1, 1, none⟩ = some (.slice A2 n2 c2) := (X2.out.below BB2.out).c 1 rfl; have f6 : a2.cell? ⟨w.heap.size + 1, 2, none⟩ = some (.bool t2) := (X2.out.below BB2.out).c 2 rfl; have f7 : a2.cell? ⟨w.heap.size + 1, 3, none⟩ = some (.slice B2 m2 d2) := (X2.out.below BB2.out).c 3 rfl; have g0 : a2.cell? ⟨w.heap.size + 1 + 1, 0, none⟩ = some (.bool false) := (X3.out.below BB2.out).c 0 rfl; have h0 := (X3.out.below BB2.out).fz 0; have g1 : a2.cell? ⟨w.heap.size + 1 + 1, 1, none⟩ = some (.slice none 0 0) := (X3.out.below BB2.out).c 1 rfl; have h1 := (X3.out.below BB2.out).fz 1; have g2 : a2.cell? ⟨w.heap.size + 1 + 1, 2, none⟩ = some (.bool false) := (X3.out.below BB2.out).c 2 rfl; have h2 := (X3.out.below BB2.out).fz 2; have g3 : a2.cell? ⟨w.heap.size + 1 + 1, 3, none⟩ = some (.slice none 0 0) := (X3.out.below BB2.out).c 3 rfl; have h3 := (X3.out.below BB2.out).fz 3; clear hb) | (go_at_call 28; (with_reducible refine (diff_any (frN s1 x1 t1 y1) (frD s1 x1 t1 y1) (frN s2 x2 t2 y2) (frD s2 x2 t2 y2) T1 U1 T2 U2 k1 r1 l1 j1 k2 r2 l2 j2 _ R1.out R2.out R3.out R4.out FA.out FB.out).mono ?_); rintro e a3 ⟨T4, k4, r4, U4, l4, j4, rfl, hs, ht, hb⟩; have BB3 := Lib.hid (below_up BB2.out hb); have R1 := Lib.hid (R1.out.below hb); have R2 := Lib.hid (R2.out.below hb); have R3 := Lib.hid (R3.out.below hb); have R4 := Lib.hid (R4.out.below hb); have R7 := Lib.hid hs; clear hs; have R8 := Lib.hid ht; clear ht; have f0 : a3.cell? ⟨w.heap.size, 0, none⟩ = some (.bool s1) := (X1.out.below BB3.out).c 0 rfl; have f1 : a3.cell? ⟨w.heap.size, 1, none⟩ = some (.slice A1 n1 c1) := (X1.out.below BB3.out).c 1 rfl; have f2 : a3.cell? ⟨w.heap.size, 2, none⟩ = some (.bool t1) := (X1.out.below BB3.out).c 2 rfl; have f3 : a3.cell? ⟨w.heap.size, 3, none⟩ = some (.slice B1 m1 d1) := (X1.out.below BB3.out).c 3 rfl; have f4 : a3.cell? ⟨w.heap.size + 1, 0, none⟩ = some (.bool s2) := (X2.out.below BB3.out).c 0 rfl; have f5 : a3.cell? ⟨w.heap.size + 1, 1, none⟩ = some (.slice A2 n2 c2) := (X2.out.below BB3.out).c 1 rfl; have f6 : a3.cell? ⟨w.heap.size + 1, 2, none⟩ = some (.bool t2) := (X2.out.below BB3.out).c 2 rfl; have f7 : a3.cell? ⟨w.heap.size + 1, 3, none⟩ = some (.slice B2 m2 d2) := (X2.out.below BB3.out).c 3 rfl; have g0 : a3.cell? ⟨w.heap.size + 1 + 1, 0, none⟩ = some (.bool false) := (X3.out.below BB3.out).c 0 rfl; have h0 := (X3.out.below BB3.out).fz 0; have g1 : a3.cell? ⟨w.heap.size + 1 + 1, 1, none⟩ = some (.slice none 0 0) := (X3.out.below BB3.out).c 1 rfl; have h1 := (X3.out.below BB3.out).fz 1; have g2 : a3.cell? ⟨w.heap.size + 1 + 1, 2, none⟩ = some (.bool false) := (X3.out.below BB3.out).c 2 rfl; have h2 := (X3.out.below BB3.out).fz 2; have g3 : a3.cell? ⟨w.heap.size + 1 + 1, 3, none⟩ = some (.slice none 0 0) := (X3.out.below BB3.out).c 3 rfl; have h3 := (X3.out.below BB3.out).fz 3; clear hb))
  clear e0 e1 e2 e3 e4 e5 e6 e7 iq1 ir1 iq2 ir2
  try clear f0 f1 f2 f3 f4 f5 f6 f7
  have S1 := Lib.hid (S1.out.below BB3.out)
  have S2 := Lib.hid (S2.out.below BB3.out)
  have S3 := Lib.hid (S3.out.below BB3.out)
  have S4 := Lib.hid (S4.out.below BB3.out)
  have BW := Lib.hid (below_on BW.out BB3.out)
  have X1 := Lib.hid (X1.out.below BB3.out)
  have X2 := Lib.hid (X2.out.below BB3.out)
  have X3 := Lib.hid (X3.out.below BB3.out)
  go_wp2_with fail
  refine bodyPost_ret (v := .tuple #[.agg #[.bool (nOf (resN (frN s1 x1 t1 y1 * frD s2 x2 t2 y2 - frN s2 x2 t2 y2 * frD s1 x1 t1 y1) (frD s1 x1 t1 y1 * (frD s2 x2 t2 y2)))), .slice T4 k4 r4, .bool (nOf (resD (frN s1 x1 t1 y1 * frD s2 x2 t2 y2 - frN s2 x2 t2 y2 * frD s1 x1 t1 y1) (frD s1 x1 t1 y1 * (frD s2 x2 t2 y2)))), .slice U4 l4 j4], .bool (resB (frN s1 x1 t1 y1 * frD s2 x2 t2 y2 - frN s2 x2 t2 y2 * frD s1 x1 t1 y1) (frD s1 x1 t1 y1 * (frD s2 x2 t2 y2)))]) (by simp [results, Tryz.results9, go_sem, *]) rfl ⟨T4, k4, r4, U4, l4, j4, rfl, R7.out.bk4 X3.out _ _ _ _, R8.out.bk4 X3.out _ _ _ _, below_set4 BW.out (by omega) _ _ _ _⟩

set_option maxHeartbeats 1000000 in
theorem radd_any (s1 t1 s2 t2 : Bool) (A1 B1 A2 B2 : Option Addr) (n1 c1 m1 d1 n2 c2 m2 d2 : Nat) (x1 y1 x2 y2 : List Int) (w : World) (ha : Sl w A1 n1 c1 x1) (hb : Sl w B1 m1 d1 y1) (hc : Sl w A2 n2 c2 x2) (hd : Sl w B2 m2 d2 y2) :
    Calls Tryz.prog 7 #[.agg #[.bool s1, .slice A1 n1 c1, .bool t1, .slice B1 m1 d1], .agg #[.bool s2, .slice A2 n2 c2, .bool t2, .slice B2 m2 d2]] w fun e w' => ∃ T k r U l s, e = .returned (.tuple #[.agg #[.bool (nOf (resN (frN s1 x1 t1 y1 * frD s2 x2 t2 y2 + frN s2 x2 t2 y2 * frD s1 x1 t1 y1) (frD s1 x1 t1 y1 * (frD s2 x2 t2 y2)))), .slice T k r, .bool (nOf (resD (frN s1 x1 t1 y1 * frD s2 x2 t2 y2 + frN s2 x2 t2 y2 * frD s1 x1 t1 y1) (frD s1 x1 t1 y1 * (frD s2 x2 t2 y2)))), .slice U l s], .bool (resB (frN s1 x1 t1 y1 * frD s2 x2 t2 y2 + frN s2 x2 t2 y2 * frD s1 x1 t1 y1) (frD s1 x1 t1 y1 * (frD s2 x2 t2 y2)))]) ∧ Sl w' T k r (lOf (resN (frN s1 x1 t1 y1 * frD s2 x2 t2 y2 + frN s2 x2 t2 y2 * frD s1 x1 t1 y1) (frD s1 x1 t1 y1 * (frD s2 x2 t2 y2)))) ∧ Sl w' U l s (lOf (resD (frN s1 x1 t1 y1 * frD s2 x2 t2 y2 + frN s2 x2 t2 y2 * frD s1 x1 t1 y1) (frD s1 x1 t1 y1 * (frD s2 x2 t2 y2)))) ∧ Below w.heap.size w w' := by
  have S1 := Lib.hid ha
  have S2 := Lib.hid hb
  have S3 := Lib.hid hc
  have S4 := Lib.hid hd
  clear ha hb hc hd
  have FA := Lib.hid (fr_ok s1 x1 t1 y1)
  have FB := Lib.hid (fr_ok s2 x2 t2 y2)
  have BW := Lib.hid (Below.refl w.heap.size w)
  go_enter Tryz.func7, Tryz.ntmps7
  go_upto_region 1 with fail
  have S1 := Lib.hid (S1.out.alloc (.cells #[.bool s1, .slice A1 n1 c1, .bool t1, .slice B1 m1 d1] 26))
  have S2 := Lib.hid (S2.out.alloc (.cells #[.bool s1, .slice A1 n1 c1, .bool t1, .slice B1 m1 d1] 26))
  have S3 := Lib.hid (S3.out.alloc (.cells #[.bool s1, .slice A1 n1 c1, .bool t1, .slice B1 m1 d1] 26))
  have S4 := Lib.hid (S4.out.alloc (.cells #[.bool s1, .slice A1 n1 c1, .bool t1, .slice B1 m1 d1] 26))
  have BW := Lib.hid (BW.out.alloc BW.out.size (.cells #[.bool s1, .slice A1 n1 c1, .bool t1, .slice B1 m1 d1] 26))
  have X1 := Lib.hid (Bk.new 26 w #[.bool s1, .slice A1 n1 c1, .bool t1, .slice B1 m1 d1])
  have S1 := Lib.hid (S1.out.alloc (.cells #[.bool s2, .slice A2 n2 c2, .bool t2, .slice B2 m2 d2] 26))
  have S2 := Lib.hid (S2.out.alloc (.cells #[.bool s2, .slice A2 n2 c2, .bool t2, .slice B2 m2 d2] 26))
  have S3 := Lib.hid (S3.out.alloc (.cells #[.bool s2, .slice A2 n2 c2, .bool t2, .slice B2 m2 d2] 26))
  have S4 := Lib.hid (S4.out.alloc (.cells #[.bool s2, .slice A2 n2 c2, .bool t2, .slice B2 m2 d2] 26))
  have BW := Lib.hid (BW.out.alloc BW.out.size (.cells #[.bool s2, .slice A2 n2 c2, .bool t2, .slice B2 m2 d2] 26))
  have X1 := Lib.hid (X1.out.alloc (.cells #[.bool s2, .slice A2 n2 c2, .bool t2, .slice B2 m2 d2] 26))
  have X2 := Lib.hid (Bk.new 26 (w.alloc (.cells #[.bool s1, .slice A1 n1 c1, .bool t1, .slice B1 m1 d1] 26)) #[.bool s2, .slice A2 n2 c2, .bool t2, .slice B2 m2 d2])
  rw [alloc_sz] at X2
  have S1 := Lib.hid (S1.out.alloc (.cells #[.bool false, .slice none 0 0, .bool false, .slice none 0 0] 26))
  have S2 := Lib.hid (S2.out.alloc (.cells #[.bool false, .slice none 0 0, .bool false, .slice none 0 0] 26))
  have S3 := Lib.hid (S3.out.alloc (.cells #[.bool false, .slice none 0 0, .bool false, .slice none 0 0] 26))
  have S4 := Lib.hid (S4.out.alloc (.cells #[.bool false, .slice none 0 0, .bool false, .slice none 0 0] 26))
  have BW := Lib.hid (BW.out.alloc BW.out.size (.cells #[.bool false, .slice none 0 0, .bool false, .slice none 0 0] 26))
  have X1 := Lib.hid (X1.out.alloc (.cells #[.bool false, .slice none 0 0, .bool false, .slice none 0 0] 26))
  have X2 := Lib.hid (X2.out.alloc (.cells #[.bool false, .slice none 0 0, .bool false, .slice none 0 0] 26))
  have X3 := Lib.hid (Bk.new 26 ((w.alloc (.cells #[.bool s1, .slice A1 n1 c1, .bool t1, .slice B1 m1 d1] 26)).alloc (.cells #[.bool s2, .slice A2 n2 c2, .bool t2, .slice B2 m2 d2] 26)) #[.bool false, .slice none 0 0, .bool false, .slice none 0 0])
  rw [alloc_sz, alloc_sz] at X3
  generalize (((w.alloc (.cells #[.bool s1, .slice A1 n1 c1, .bool t1, .slice B1 m1 d1] 26)).alloc (.cells #[.bool s2, .slice A2 n2 c2, .bool t2, .slice B2 m2 d2] 26)).alloc (.cells #[.bool false, .slice none 0 0, .bool false, .slice none 0 0] 26)) = W0 at *
  have e0 : W0.cell? ⟨w.heap.size, 0, none⟩ = some (.bool s1) := X1.out.c 0 rfl
  have e1 : W0.cell? ⟨w.heap.size, 1, none⟩ = some (.slice A1 n1 c1) := X1.out.c 1 rfl
  have e2 : W0.cell? ⟨w.heap.size, 2, none⟩ = some (.bool t1) := X1.out.c 2 rfl
  have e3 : W0.cell? ⟨w.heap.size, 3, none⟩ = some (.slice B1 m1 d1) := X1.out.c 3 rfl
  have e4 : W0.cell? ⟨w.heap.size + 1, 0, none⟩ = some (.bool s2) := X2.out.c 0 rfl
  have e5 : W0.cell? ⟨w.heap.size + 1, 1, none⟩ = some (.slice A2 n2 c2) := X2.out.c 1 rfl
  have e6 : W0.cell? ⟨w.heap.size + 1, 2, none⟩ = some (.bool t2) := X2.out.c 2 rfl
  have e7 : W0.cell? ⟨w.heap.size + 1, 3, none⟩ = some (.slice B2 m2 d2) := X2.out.c 3 rfl
  have iq1 : ¬ w.heap.size + 1 + 1 = w.heap.size := by omega
  have ir1 : ¬ w.heap.size = w.heap.size + 1 + 1 := by omega
  have iq2 : ¬ w.heap.size + 1 + 1 = w.heap.size + 1 := by omega
  have ir2 : ¬ w.heap.size + 1 = w.heap.size + 1 + 1 := by omega
  go_region_held3 (fun w' => w'.cell? ⟨w.heap.size, 0, none⟩ = some (.bool s1) ∧ w'.cell? ⟨w.heap.size, 1, none⟩ = some (.slice A1 n1 c1) ∧ w'.cell? ⟨w.heap.size, 2, none⟩ = some (.bool t1) ∧ w'.cell? ⟨w.heap.size, 3, none⟩ = some (.slice B1 m1 d1) ∧ w'.cell? ⟨w.heap.size + 1, 0, none⟩ = some (.bool s2) ∧ w'.cell? ⟨w.heap.size + 1, 1, none⟩ = some (.slice A2 n2 c2) ∧ w'.cell? ⟨w.heap.size + 1, 2, none⟩ = some (.bool t2) ∧ w'.cell? ⟨w.heap.size + 1, 3, none⟩ = some (.slice B2 m2 d2)) (go_keep)
    (first | (go_at_call 29; (with_reducible refine (frac_any s1 t1 A1 B1 n1 c1 m1 d1 x1 y1 _ (by first | exact S1.out | exact S1.out.drew) (by first | exact S2.out | exact S2.out.drew)).mono ?_); rintro e a1 ⟨T1, k1, r1, U1, l1, j1, rfl, hs, ht, hb⟩; have BB1 := Lib.hid (show Below W0.heap.size W0 a1 from (by first | exact hb | exact (Below.refl _ _).drew.trans (hb.mono (Nat.le_refl _)))); have R1 := Lib.hid hs; clear hs; have R2 := Lib.hid ht; clear ht; have f0 : a1.cell? ⟨w.heap.size, 0, none⟩ = some (.bool s1) := (X1.out.below BB1.out).c 0 rfl; have f1 : a1.cell? ⟨w.heap.size, 1, none⟩ = some (.slice A1 n1 c1) := (X1.out.below BB1.out).c 1 rfl; have f2 : a1.cell? ⟨w.heap.size, 2, none⟩ = some (.bool t1) := (X1.out.below BB1.out).c 2 rfl; have f3 : a1.cell? ⟨w.heap.size, 3, none⟩ = some (.slice B1 m1 d1) := (X1.out.below BB1.out).c 3 rfl; have f4 : a1.cell? ⟨w.heap.size + 1, 0, none⟩ = some (.bool s2) := (X2.out.below BB1.out).c 0 rfl; have f5 : a1.cell? ⟨w.heap.size + 1, 1, none⟩ = some (.slice A2 n2 c2) := (X2.out.below BB1.out).c 1 rfl; have f6 : a1.cell? ⟨w.heap.size + 1, 2, none⟩ = some (.bool t2) := (X2.out.below BB1.out).c 2 rfl; have f7 : a1.cell? ⟨w.heap.size + 1, 3, none⟩ = some (.slice B2 m2 d2) := (X2.out.below BB1.out).c 3 rfl; have g0 : a1.cell? ⟨w.heap.size + 1 + 1, 0, none⟩ = some (.bool false) := (X3.out.below BB1.out).c 0 rfl; have h0 := (X3.out.below BB1.out).fz 0; have g1 : a1.cell? ⟨w.heap.size + 1 + 1, 1, none⟩ = some (.slice none 0 0) := (X3.out.below BB1.out).c 1 rfl; have h1 := (X3.out.below BB1.out).fz 1; have g2 : a1.cell? ⟨w.heap.size + 1 + 1, 2, none⟩ = some (.bool false) := (X3.out.below BB1.out).c 2 rfl; have h2 := (X3.out.below BB1.out).fz 2; have g3 : a1.cell? ⟨w.heap.size + 1 + 1, 3, none⟩ = some (.slice none 0 0) := (X3.out.below BB1.out).c 3 rfl; have h3 := (X3.out.below BB1.out).fz 3; clear hb) | (go_at_call 29; (with_reducible refine (frac_any s2 t2 A2 B2 n2 c2 m2 d2 x2 y2 _ (S3.out.below BB1.out) (S4.out.below BB1.out)).mono ?_); rintro e a2 ⟨T2, k2, r2, U2, l2, j2, rfl, hs, ht, hb⟩; have BB2 := Lib.hid (below_up BB1.out hb); have R1 := Lib.hid (R1.out.below hb); have R2 := Lib.hid (R2.out.below hb); have R3 := Lib.hid hs; clear hs; have R4 := Lib.hid ht; clear ht; have f0 : a2.cell? ⟨w.heap.size, 0, none⟩ = some (.bool s1) := (X1.out.below BB2.out).c 0 rfl; have f1 : a2.cell? ⟨w.heap.size, 1, none⟩ = some (.slice A1 n1 c1) := (X1.out.below BB2.out).c 1 rfl; have f2 : a2.cell? ⟨w.heap.size, 2, none⟩ = some (.bool t1) := (X1.out.below BB2.out).c 2 rfl; have f3 : a2.cell? ⟨w.heap.size, 3, none⟩ = some (.slice B1 m1 d1) := (X1.out.below BB2.out).c 3 rfl; have f4 : a2.cell? ⟨w.heap.size + 1, 0, none⟩ = some (.bool s2) := (X2.out.below BB2.out).c 0 rfl; have f5 : a2.cell? ⟨w.heap.size + 1, 1, none⟩ = some (.slice A2 n2 c2) := (X2.out.below BB2.out).c 1 rfl; have f6 : a2.cell? ⟨w.heap.size + 1, 2, none⟩ = some (.bool t2) := (X2.out.below BB2.out).c 2 rfl; have f7 : a2.cell? ⟨w.heap.size + 1, 3, none⟩ = some (.slice B2 m2 d2) := (X2.out.below BB2.out).c 3 rfl; have g0 : a2.cell? ⟨w.heap.size + 1 + 1, 0, none⟩ = some (.bool false) := (X3.out.below BB2.out).c 0 rfl; have h0 := (X3.out.below BB2.out).fz 0; have g1 : a2.cell? ⟨w.heap.size + 1 + 1, 1, none⟩ = some (.slice none 0 0) := (X3.out.below BB2.out).c 1 rfl; have h1 := (X3.out.below BB2.out).fz 1; have g2 : a2.cell? ⟨w.heap.size + 1 + 1, 2, none⟩ = some (.bool false) := (X3.out.below BB2.out).c 2 rfl; have h2 := (X3.out.below BB2.out).fz 2; have g3 : a2.cell? ⟨w.heap.size + 1 + 1, 3, none⟩ = some (.slice none 0 0) := (X3.out.below BB2.out).c 3 rfl; have h3 := (X3.out.below BB2.out).fz 3; clear hb) | (go_at_call 30; (with_reducible refine (opp_any (frN s2 x2 t2 y2) (frD s2 x2 t2 y2) T2 U2 k2 r2 l2 j2 _ R3.out R4.out FB.out.fn).mono ?_); rintro e a3 ⟨T3, k3, r3, U3, l3, j3, rfl, hs, ht, hb⟩; have BB3 := Lib.hid (below_up BB2.out hb); have R1 := Lib.hid (R1.out.below hb); have R2 := Lib.hid (R2.out.below hb); have R3 := Lib.hid (R3.out.below hb); have R4 := Lib.hid (R4.out.below hb); have R5 := Lib.hid hs; clear hs; have R6 := Lib.hid ht; clear ht; have f0 : a3.cell? ⟨w.heap.size, 0, none⟩ = some (.bool s1) := (X1.out.below BB3.out).c 0 rfl; have f1 : a3.cell? ⟨w.heap.size, 1, none⟩ = some (.slice A1 n1 c1) := (X1.out.below BB3.out).c 1 rfl; have f2 : a3.cell? ⟨w.heap.size, 2, none⟩ = some (.bool t1) := (X1.out.below BB3.out).c 2 rfl; have f3 : a3.cell? ⟨w.heap.size, 3, none⟩ = some (.slice B1 m1 d1) := (X1.out.below BB3.out).c 3 rfl; have f4 : a3.cell? ⟨w.heap.size + 1, 0, none⟩ = some (.bool s2) := (X2.out.below BB3.out).c 0 rfl; have f5 : a3.cell? ⟨w.heap.size + 1, 1, none⟩ = some (.slice A2 n2 c2) := (X2.out.below BB3.out).c 1 rfl; have f6 : a3.cell? ⟨w.heap.size + 1, 2, none⟩ = some (.bool t2) := (X2.out.below BB3.out).c 2 rfl; have f7 : a3.cell? ⟨w.heap.size + 1, 3, none⟩ = some (.slice B2 m2 d2) := (X2.out.below BB3.out).c 3 rfl; have g0 : a3.cell? ⟨w.heap.size + 1 + 1, 0, none⟩ = some (.bool false) := (X3.out.below BB3.out).c 0 rfl; have h0 := (X3.out.below BB3.out).fz 0; have g1 : a3.cell? ⟨w.heap.size + 1 + 1, 1, none⟩ = some (.slice none 0 0) := (X3.out.below BB3.out).c 1 rfl; have h1 := (X3.out.below BB3.out).fz 1; have g2 : a3.cell? ⟨w.heap.size + 1 + 1, 2, none⟩ = some (.bool false) := (X3.out.below BB3.out).c 2 rfl; have h2 := (X3.out.below BB3.out).fz 2; have g3 : a3.cell? ⟨w.heap.size + 1 + 1, 3, none⟩ = some (.slice none 0 0) := (X3.out.below BB3.out).c 3 rfl; have h3 := (X3.out.below BB3.out).fz 3; clear hb) | (go_at_call 28; (with_reducible refine (diff_any (frN s1 x1 t1 y1) (frD s1 x1 t1 y1) (-(frN s2 x2 t2 y2)) (frD s2 x2 t2 y2) T1 U1 T3 U3 k1 r1 l1 j1 k3 r3 l3 j3 _ R1.out R2.out R5.out R6.out FA.out FB.out.neg).mono ?_); rintro e a4 ⟨T4, k4, r4, U4, l4, j4, rfl, hs, ht, hb⟩; rw [show (frN s1 x1 t1 y1) * (frD s2 x2 t2 y2) - -(frN s2 x2 t2 y2) * (frD s1 x1 t1 y1) = frN s1 x1 t1 y1 * frD s2 x2 t2 y2 + frN s2 x2 t2 y2 * frD s1 x1 t1 y1 from by rw [Int.neg_mul, Int.sub_neg]] at hs ht ⊢; have BB4 := Lib.hid (below_up BB3.out hb); have R1 := Lib.hid (R1.out.below hb); have R2 := Lib.hid (R2.out.below hb); have R3 := Lib.hid (R3.out.below hb); have R4 := Lib.hid (R4.out.below hb); have R5 := Lib.hid (R5.out.below hb); have R6 := Lib.hid (R6.out.below hb); have R7 := Lib.hid hs; clear hs; have R8 := Lib.hid ht; clear ht; have f0 : a4.cell? ⟨w.heap.size, 0, none⟩ = some (.bool s1) := (X1.out.below BB4.out).c 0 rfl; have f1 : a4.cell? ⟨w.heap.size, 1, none⟩ = some (.slice A1 n1 c1) := (X1.out.below BB4.out).c 1 rfl; have f2 : a4.cell? ⟨w.heap.size, 2, none⟩ = some (.bool t1) := (X1.out.below BB4.out).c 2 rfl; have f3 : a4.cell? ⟨w.heap.size, 3, none⟩ = some (.slice B1 m1 d1) := (X1.out.below BB4.out).c 3 rfl; have f4 : a4.cell? ⟨w.heap.size + 1, 0, none⟩ = some (.bool s2) := (X2.out.below BB4.out).c 0 rfl; have f5 : a4.cell? ⟨w.heap.size + 1, 1, none⟩ = some (.slice A2 n2 c2) := (X2.out.below BB4.out).c 1 rfl; have f6 : a4.cell? ⟨w.heap.size + 1, 2, none⟩ = some (.bool t2) := (X2.out.below BB4.out).c 2 rfl; have f7 : a4.cell? ⟨w.heap.size + 1, 3, none⟩ = some (.slice B2 m2 d2) := (X2.out.below BB4.out).c 3 rfl; have g0 : a4.cell? ⟨w.heap.size + 1 + 1, 0, none⟩ = some (.bool false) := (X3.out.below BB4.out).c 0 rfl; have h0 := (X3.out.below BB4.out).fz 0; have g1 : a4.cell? ⟨w.heap.size + 1 + 1, 1, none⟩ = some (.slice none 0 0) := (X3.out.below BB4.out).c 1 rfl; have h1 := (X3.out.below BB4.out).fz 1; have g2 : a4.cell? ⟨w.heap.size + 1 + 1, 2, none⟩ = some (.bool false) := (X3.out.below BB4.out).c 2 rfl; have h2 := (X3.out.below BB4.out).fz 2; have g3 : a4.cell? ⟨w.heap.size + 1 + 1, 3, none⟩ = some (.slice none 0 0) := (X3.out.below BB4.out).c 3 rfl; have h3 := (X3.out.below BB4.out).fz 3; clear hb))
  clear e0 e1 e2 e3 e4 e5 e6 e7 iq1 ir1 iq2 ir2
  try clear f0 f1 f2 f3 f4 f5 f6 f7
  have S1 := Lib.hid (S1.out.below BB4.out)
  have S2 := Lib.hid (S2.out.below BB4.out)
  have S3 := Lib.hid (S3.out.below BB4.out)
  have S4 := Lib.hid (S4.out.below BB4.out)
  have BW := Lib.hid (below_on BW.out BB4.out)
  have X1 := Lib.hid (X1.out.below BB4.out)
  have X2 := Lib.hid (X2.out.below BB4.out)
  have X3 := Lib.hid (X3.out.below BB4.out)
  go_wp2_with fail
  refine bodyPost_ret (v := .tuple #[.agg #[.bool (nOf (resN (frN s1 x1 t1 y1 * frD s2 x2 t2 y2 + frN s2 x2 t2 y2 * frD s1 x1 t1 y1) (frD s1 x1 t1 y1 * (frD s2 x2 t2 y2)))), .slice T4 k4 r4, .bool (nOf (resD (frN s1 x1 t1 y1 * frD s2 x2 t2 y2 + frN s2 x2 t2 y2 * frD s1 x1 t1 y1) (frD s1 x1 t1 y1 * (frD s2 x2 t2 y2)))), .slice U4 l4 j4], .bool (resB (frN s1 x1 t1 y1 * frD s2 x2 t2 y2 + frN s2 x2 t2 y2 * frD s1 x1 t1 y1) (frD s1 x1 t1 y1 * (frD s2 x2 t2 y2)))]) (by simp [results, Tryz.results7, go_sem, *]) rfl ⟨T4, k4, r4, U4, l4, j4, rfl, R7.out.bk4 X3.out _ _ _ _, R8.out.bk4 X3.out _ _ _ _, below_set4 BW.out (by omega) _ _ _ _⟩
end Go.Proofs.YtfenmogbellhdaaGreatDoor
