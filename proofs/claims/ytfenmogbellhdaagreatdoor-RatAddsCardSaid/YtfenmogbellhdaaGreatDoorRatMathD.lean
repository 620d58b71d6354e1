/-
  Differences of fractions: whole parts, parts below 1, and what they are joined to.
-/
import Derived.Test.YtfenmogbellhdaaGreatDoorRatMathC
namespace Go.Proofs.YtfenmogbellhdaaGreatDoor
open Go.RowKit

theorem fit_lt {p q : Int} (h : fitB q = true) (h0 : 0 ≤ p) (hl : p ≤ q) : fitB p = true := fit_le h (by omega)
theorem fit_diff {a b p q : Int} (hp : fitB p = true) (hq : fitB q = true) (a0 : 0 ≤ a) (a1 : a ≤ p) (b0 : 0 ≤ b) (b1 : b ≤ q) : fitB (a - b) = true := by
  rw [fitB_iff] at hp hq ⊢; omega
theorem qZ_pos {a b : Int} (ha : 0 ≤ a) (hb : 0 < b) : 0 ≤ qZ a b := by
  unfold qZ; rw [if_neg (by omega), Int.fdiv_eq_ediv_of_nonneg _ (by omega)]
  exact Int.ediv_nonneg ha (by omega)
theorem pos_of_mul {a b : Int} (ha : 0 < a) (h : 0 < a * b) : 0 < b := by
  rcases Decidable.em (0 < b) with hb | hb
  · exact hb
  · exfalso
    have := Int.mul_nonneg (a := a) (b := -b) (by omega) (by omega)
    rw [Int.mul_neg] at this
    omega
theorem gcd_shift (g k t : Int) : Nat.gcd (g * k + t).natAbs g.natAbs = Nat.gcd t.natAbs g.natAbs := by
  have e1 : Nat.gcd (g * k + t).natAbs g.natAbs = Int.gcd (g * k + t) g := rfl
  have e2 : Nat.gcd t.natAbs g.natAbs = Int.gcd t g := rfl
  rw [e1, e2]
  have h1 : ((Int.gcd (g * k + t) g : Nat) : Int) ∣ g * k + t := Int.gcd_dvd_left _ _
  have h2 : ((Int.gcd (g * k + t) g : Nat) : Int) ∣ g := Int.gcd_dvd_right _ _
  have h3 : ((Int.gcd t g : Nat) : Int) ∣ t := Int.gcd_dvd_left _ _
  have h4 : ((Int.gcd t g : Nat) : Int) ∣ g := Int.gcd_dvd_right _ _
  apply Nat.dvd_antisymm
  · exact Int.dvd_gcd ((Int.dvd_add_right (Int.dvd_trans h2 ⟨k, rfl⟩)).1 h1) h2
  · exact Int.dvd_gcd (Int.dvd_add (Int.dvd_trans h4 ⟨k, rfl⟩) h3) h4
/-- What partsDifference is given: two fractions from 0 on and below 1. -/
structure Parts (r D1 s D2 : Int) : Prop where
  f1 : fitB D1 = true
  f2 : fitB D2 = true
  r0 : 0 ≤ r
  r1 : r < D1
  s0 : 0 ≤ s
  s1 : s < D2
  c1 : Nat.gcd r.natAbs D1.natAbs = 1
  c2 : Nat.gcd s.natAbs D2.natAbs = 1
namespace Parts
variable {r D1 s D2 : Int}
def g (_ : Parts r D1 s D2) : Int := gZ D1 D2
theorem d1 (h : Parts r D1 s D2) : 0 < D1 := by have := h.r0; have := h.r1; omega
theorem d2 (h : Parts r D1 s D2) : 0 < D2 := by have := h.s0; have := h.s1; omega
theorem fr (h : Parts r D1 s D2) : fitB r = true := fit_lt h.f1 h.r0 (by have := h.r1; omega)
theorem fs (h : Parts r D1 s D2) : fitB s = true := fit_lt h.f2 h.s0 (by have := h.s1; omega)
theorem gpos (h : Parts r D1 s D2) : 0 < gZ D1 D2 := gZ_pos' (by have := h.d2; omega)
theorem fg (h : Parts r D1 s D2) : fitB (gZ D1 D2) = true := fit_gZ (by have := h.d2; omega) h.f2
theorem gx (h : Parts r D1 s D2) : gZ D1 D2 * qZ D1 (gZ D1 D2) = D1 := qZ_mul (by have := h.gpos; omega) (gZ_dvd_l _ _)
theorem gy (h : Parts r D1 s D2) : gZ D1 D2 * qZ D2 (gZ D1 D2) = D2 := qZ_mul (by have := h.gpos; omega) (gZ_dvd_r _ _)
theorem xpos (h : Parts r D1 s D2) : 0 < qZ D1 (gZ D1 D2) := by
  have h1 := h.gx; have h2 := h.d1; have h3 := h.gpos
  exact pos_of_mul h3 (by rw [h1]; exact h2)
theorem ypos (h : Parts r D1 s D2) : 0 < qZ D2 (gZ D1 D2) := by
  have h1 := h.gy; have h2 := h.d2; have h3 := h.gpos
  exact pos_of_mul h3 (by rw [h1]; exact h2)
theorem fx (h : Parts r D1 s D2) : fitB (qZ D1 (gZ D1 D2)) = true := fit_q (by have := h.gpos; omega) h.f1
theorem fy (h : Parts r D1 s D2) : fitB (qZ D2 (gZ D1 D2)) = true := fit_q (by have := h.gpos; omega) h.f2
theorem cxy (h : Parts r D1 s D2) : Nat.gcd (qZ D1 (gZ D1 D2)).natAbs (qZ D2 (gZ D1 D2)).natAbs = 1 := by
  have h1 := congrArg Int.natAbs h.gx
  have h2 := congrArg Int.natAbs h.gy
  rw [Int.natAbs_mul] at h1 h2
  have hg : (gZ D1 D2).natAbs = Nat.gcd D1.natAbs D2.natAbs := by unfold gZ; omega
  have hp : 0 < (gZ D1 D2).natAbs := by have := h.gpos; omega
  have h3 : (gZ D1 D2).natAbs * Nat.gcd (qZ D1 (gZ D1 D2)).natAbs (qZ D2 (gZ D1 D2)).natAbs = (gZ D1 D2).natAbs * 1 := by
    rw [← Nat.gcd_mul_left, h1, h2, Nat.mul_one, hg]
  exact Nat.eq_of_mul_eq_mul_left hp h3
end Parts
/-- A rest by g, times y, is below g y. -/
theorem rest_mul {a g y D : Int} (hg : 0 < g) (hy : 0 < y) (e : g * y = D) : 0 ≤ rZ a g * y ∧ rZ a g * y ≤ D := by
  have h := (qr_facts a g (by omega)).2.1 hg
  refine ⟨Int.mul_nonneg h.1 (by omega), ?_⟩
  rw [← e]
  exact Int.mul_le_mul_of_nonneg_right (by omega) (by omega)
/-- numerator's value, for rests or quotients. -/
def numR (r D1 s D2 k : Int) : Int := rZ r k * qZ D2 (gZ D1 D2) - rZ s k * qZ D1 (gZ D1 D2)
def numQ (r D1 s D2 k : Int) : Int := qZ r k * qZ D2 (gZ D1 D2) - qZ s k * qZ D1 (gZ D1 D2)
def hZ (r D1 s D2 : Int) : Int := gZ (numR r D1 s D2 (gZ D1 D2)) (gZ D1 D2)
def tZ (r D1 s D2 : Int) : Int := r * qZ D2 (gZ D1 D2) - s * qZ D1 (gZ D1 D2)
def dZ (r D1 s D2 : Int) : Int := qZ D1 (gZ D1 D2) * qZ D2 (hZ r D1 s D2)
def nZ (r D1 s D2 : Int) : Int := numQ r D1 s D2 (hZ r D1 s D2) + qZ (numR r D1 s D2 (hZ r D1 s D2)) (hZ r D1 s D2)
theorem num_split (r D1 s D2 : Int) {k : Int} (hk : k ≠ 0) : tZ r D1 s D2 = k * numQ r D1 s D2 k + numR r D1 s D2 k := by
  have h1 := (qr_facts r k hk).1
  have h2 := (qr_facts s k hk).1
  unfold tZ numQ numR
  generalize qZ D2 (gZ D1 D2) = y
  generalize qZ D1 (gZ D1 D2) = x
  have e1 : r * y = k * (qZ r k * y) + rZ r k * y := by
    have : r * y = (k * qZ r k + rZ r k) * y := by rw [← h1]
    rw [this, Int.add_mul, Int.mul_assoc]
  have e2 : s * x = k * (qZ s k * x) + rZ s k * x := by
    have : s * x = (k * qZ s k + rZ s k) * x := by rw [← h2]
    rw [this, Int.add_mul, Int.mul_assoc]
  rw [e1, e2, Int.mul_sub]
  omega
namespace Parts
variable {r D1 s D2 : Int}
theorem hpos (h : Parts r D1 s D2) : 0 < hZ r D1 s D2 := gZ_pos' (by have := h.gpos; omega)
theorem hdvd (h : Parts r D1 s D2) : hZ r D1 s D2 ∣ gZ D1 D2 := by have _ := h.gpos; exact gZ_dvd_r _ _
theorem hle (h : Parts r D1 s D2) : hZ r D1 s D2 ≤ gZ D1 D2 := Int.le_of_dvd h.gpos h.hdvd
theorem fh (h : Parts r D1 s D2) : fitB (hZ r D1 s D2) = true := fit_lt h.fg (by have := h.hpos; omega) h.hle
theorem hgcd (h : Parts r D1 s D2) : Nat.gcd (tZ r D1 s D2).natAbs (gZ D1 D2).natAbs = (hZ r D1 s D2).natAbs := by
  rw [num_split r D1 s D2 (k := gZ D1 D2) (by have := h.gpos; omega), gcd_shift]
  unfold hZ gZ; rfl
theorem hdt (h : Parts r D1 s D2) : hZ r D1 s D2 ∣ tZ r D1 s D2 := by
  have h1 : (hZ r D1 s D2).natAbs ∣ (tZ r D1 s D2).natAbs := by rw [← h.hgcd]; exact Nat.gcd_dvd_left _ _
  exact Int.natAbs_dvd_natAbs.1 h1
theorem hn (h : Parts r D1 s D2) : hZ r D1 s D2 * nZ r D1 s D2 = tZ r D1 s D2 := by
  have hk : hZ r D1 s D2 ≠ 0 := by have := h.hpos; omega
  have e := num_split r D1 s D2 hk
  have hd : hZ r D1 s D2 ∣ numR r D1 s D2 (hZ r D1 s D2) := by
    have h1 := h.hdt
    rw [e] at h1
    exact (Int.dvd_add_right ⟨_, rfl⟩).1 h1
  unfold nZ
  rw [Int.mul_add, qZ_mul hk hd, ← e]
theorem hD2 (h : Parts r D1 s D2) : hZ r D1 s D2 ∣ D2 := Int.dvd_trans h.hdvd (gZ_dvd_r _ _)
theorem hd (h : Parts r D1 s D2) : hZ r D1 s D2 * dZ r D1 s D2 = D1 * qZ D2 (gZ D1 D2) := by
  have hk : hZ r D1 s D2 ≠ 0 := by have := h.hpos; omega
  unfold dZ
  calc hZ r D1 s D2 * (qZ D1 (gZ D1 D2) * qZ D2 (hZ r D1 s D2)) = qZ D1 (gZ D1 D2) * (hZ r D1 s D2 * qZ D2 (hZ r D1 s D2)) := by rw [← Int.mul_assoc, Int.mul_comm (hZ r D1 s D2), Int.mul_assoc]
    _ = qZ D1 (gZ D1 D2) * (gZ D1 D2 * qZ D2 (gZ D1 D2)) := by rw [qZ_mul hk h.hD2, h.gy]
    _ = D1 * qZ D2 (gZ D1 D2) := by rw [← Int.mul_assoc, Int.mul_comm (qZ D1 _), h.gx]
theorem hd' (h : Parts r D1 s D2) : hZ r D1 s D2 * dZ r D1 s D2 = D2 * qZ D1 (gZ D1 D2) := by
  rw [h.hd]
  calc D1 * qZ D2 (gZ D1 D2) = gZ D1 D2 * qZ D1 (gZ D1 D2) * qZ D2 (gZ D1 D2) := by rw [h.gx]
    _ = gZ D1 D2 * qZ D2 (gZ D1 D2) * qZ D1 (gZ D1 D2) := by rw [Int.mul_assoc, Int.mul_comm (qZ D1 _), ← Int.mul_assoc]
    _ = D2 * qZ D1 (gZ D1 D2) := by rw [h.gy]
theorem dpos (h : Parts r D1 s D2) : 0 < dZ r D1 s D2 :=
  pos_of_mul h.hpos (by rw [h.hd]; exact Int.mul_pos h.d1 h.ypos)
theorem tlt (h : Parts r D1 s D2) : -(hZ r D1 s D2 * dZ r D1 s D2) < tZ r D1 s D2 ∧ tZ r D1 s D2 < hZ r D1 s D2 * dZ r D1 s D2 := by
  have h1 : r * qZ D2 (gZ D1 D2) < D1 * qZ D2 (gZ D1 D2) := Int.mul_lt_mul_of_pos_right h.r1 h.ypos
  have h2 : s * qZ D1 (gZ D1 D2) < D2 * qZ D1 (gZ D1 D2) := Int.mul_lt_mul_of_pos_right h.s1 h.xpos
  have h3 : 0 ≤ r * qZ D2 (gZ D1 D2) := Int.mul_nonneg h.r0 (by have := h.ypos; omega)
  have h4 : 0 ≤ s * qZ D1 (gZ D1 D2) := Int.mul_nonneg h.s0 (by have := h.xpos; omega)
  rw [← h.hd] at h1
  rw [← h.hd'] at h2
  unfold tZ
  omega
theorem nlt (h : Parts r D1 s D2) : -dZ r D1 s D2 < nZ r D1 s D2 ∧ nZ r D1 s D2 < dZ r D1 s D2 := by
  have h1 := h.tlt
  rw [← h.hn] at h1
  have hp := h.hpos
  constructor
  · refine Int.lt_of_mul_lt_mul_left (a := hZ r D1 s D2) ?_ (by omega)
    rw [Int.mul_neg]; exact h1.1
  · exact Int.lt_of_mul_lt_mul_left (a := hZ r D1 s D2) h1.2 (by omega)
theorem cop (h : Parts r D1 s D2) : Nat.gcd (nZ r D1 s D2).natAbs (dZ r D1 s D2).natAbs = 1 := by
  obtain ⟨g', hg'⟩ := h.hdvd
  have hk : hZ r D1 s D2 ≠ 0 := by have := h.hpos; omega
  have ed : dZ r D1 s D2 = qZ D1 (gZ D1 D2) * (g' * qZ D2 (gZ D1 D2)) := by
    refine Int.eq_of_mul_eq_mul_left hk ?_
    rw [h.hd]
    calc D1 * qZ D2 (gZ D1 D2) = gZ D1 D2 * qZ D1 (gZ D1 D2) * qZ D2 (gZ D1 D2) := by rw [h.gx]
      _ = hZ r D1 s D2 * g' * qZ D1 (gZ D1 D2) * qZ D2 (gZ D1 D2) := by rw [← hg']
      _ = _ := by simp only [Int.mul_assoc, Int.mul_left_comm]
  have dn : nZ r D1 s D2 ∣ tZ r D1 s D2 := ⟨hZ r D1 s D2, by rw [Int.mul_comm]; exact h.hn.symm⟩
  rw [ed]
  refine cop_mul_r ?_ (cop_mul_r ?_ ?_)
  · -- x
    refine cop_of_dvd (a := tZ r D1 s D2) (b := qZ D1 (gZ D1 D2)) ?_ dn (Int.dvd_refl _)
    have e : tZ r D1 s D2 = qZ D1 (gZ D1 D2) * (-s) + r * qZ D2 (gZ D1 D2) := by
      unfold tZ; rw [Int.mul_neg, Int.mul_comm (qZ D1 _) s]; omega
    rw [e, gcd_shift]
    refine cop_mul_l ?_ (cop_comm h.cxy)
    exact cop_of_dvd h.c1 (Int.dvd_refl _) ⟨gZ D1 D2, by rw [Int.mul_comm]; exact h.gx.symm⟩
  · -- g / h
    have e1 : Nat.gcd (hZ r D1 s D2 * nZ r D1 s D2).natAbs (hZ r D1 s D2 * g').natAbs = (hZ r D1 s D2).natAbs := by rw [h.hn, ← hg']; exact h.hgcd
    rw [Int.natAbs_mul, Int.natAbs_mul, Nat.gcd_mul_left] at e1
    have hp : 0 < (hZ r D1 s D2).natAbs := by have := h.hpos; omega
    exact Nat.eq_of_mul_eq_mul_left hp (by rw [e1, Nat.mul_one])
  · -- y
    refine cop_of_dvd (a := tZ r D1 s D2) (b := qZ D2 (gZ D1 D2)) ?_ dn (Int.dvd_refl _)
    have e : tZ r D1 s D2 = qZ D2 (gZ D1 D2) * r + (-s) * qZ D1 (gZ D1 D2) := by
      unfold tZ; rw [Int.neg_mul, Int.mul_comm r]; omega
    rw [e, gcd_shift]
    refine cop_mul_l ?_ h.cxy
    rw [Int.natAbs_neg]
    exact cop_of_dvd h.c2 (Int.dvd_refl _) ⟨gZ D1 D2, by rw [Int.mul_comm]; exact h.gy.symm⟩
/-- What partsDifference computes is the difference in lowest terms. -/
theorem lo (h : Parts r D1 s D2) : loN (r * D2 - s * D1) (D1 * D2) = nZ r D1 s D2 ∧ loD (r * D2 - s * D1) (D1 * D2) = dZ r D1 s D2 := by
  have hq : D1 * D2 ≠ 0 := Int.mul_ne_zero (by have := h.d1; omega) (by have := h.d2; omega)
  refine lo_unique hq h.dpos h.cop ?_
  have hk : hZ r D1 s D2 ≠ 0 := by have := h.hpos; omega
  refine Int.eq_of_mul_eq_mul_left hk ?_
  have e1 : r * D2 - s * D1 = gZ D1 D2 * tZ r D1 s D2 := by
    unfold tZ
    rw [Int.mul_sub]
    have a1 : r * D2 = gZ D1 D2 * (r * qZ D2 (gZ D1 D2)) := by
      rw [← Int.mul_assoc, Int.mul_comm _ r, Int.mul_assoc, h.gy]
    have a2 : s * D1 = gZ D1 D2 * (s * qZ D1 (gZ D1 D2)) := by
      rw [← Int.mul_assoc, Int.mul_comm _ s, Int.mul_assoc, h.gx]
    rw [a1, a2]
  have e2 : D1 * D2 = gZ D1 D2 * (hZ r D1 s D2 * dZ r D1 s D2) := by
    rw [h.hd, ← Int.mul_assoc, Int.mul_comm _ D1, Int.mul_assoc, h.gy]
  calc hZ r D1 s D2 * (nZ r D1 s D2 * (D1 * D2)) = (hZ r D1 s D2 * nZ r D1 s D2) * (D1 * D2) := by rw [Int.mul_assoc]
    _ = tZ r D1 s D2 * (gZ D1 D2 * (hZ r D1 s D2 * dZ r D1 s D2)) := by rw [h.hn, ← e2]
    _ = hZ r D1 s D2 * ((gZ D1 D2 * tZ r D1 s D2) * dZ r D1 s D2) := by simp only [Int.mul_comm, Int.mul_left_comm, Int.mul_assoc]
    _ = hZ r D1 s D2 * ((r * D2 - s * D1) * dZ r D1 s D2) := by rw [← e1]
-- the sizes of what is computed on the way
theorem a1 (h : Parts r D1 s D2) : 0 ≤ rZ r (gZ D1 D2) * qZ D2 (gZ D1 D2) ∧ rZ r (gZ D1 D2) * qZ D2 (gZ D1 D2) ≤ D2 := rest_mul h.gpos h.ypos h.gy
theorem a2 (h : Parts r D1 s D2) : 0 ≤ rZ s (gZ D1 D2) * qZ D1 (gZ D1 D2) ∧ rZ s (gZ D1 D2) * qZ D1 (gZ D1 D2) ≤ D1 := rest_mul h.gpos h.xpos h.gx
theorem fa1 (h : Parts r D1 s D2) : fitB (rZ r (gZ D1 D2) * qZ D2 (gZ D1 D2)) = true := fit_lt h.f2 h.a1.1 h.a1.2
theorem fa2 (h : Parts r D1 s D2) : fitB (rZ s (gZ D1 D2) * qZ D1 (gZ D1 D2)) = true := fit_lt h.f1 h.a2.1 h.a2.2
theorem fa (h : Parts r D1 s D2) : fitB (numR r D1 s D2 (gZ D1 D2)) = true := fit_diff h.f2 h.f1 h.a1.1 h.a1.2 h.a2.1 h.a2.2
theorem hy (h : Parts r D1 s D2) : hZ r D1 s D2 * qZ D2 (gZ D1 D2) ≤ D2 := by
  have := Int.mul_le_mul_of_nonneg_right h.hle (c := qZ D2 (gZ D1 D2)) (by have := h.ypos; omega)
  rwa [h.gy] at this
theorem hx (h : Parts r D1 s D2) : hZ r D1 s D2 * qZ D1 (gZ D1 D2) ≤ D1 := by
  have := Int.mul_le_mul_of_nonneg_right h.hle (c := qZ D1 (gZ D1 D2)) (by have := h.xpos; omega)
  rwa [h.gx] at this
theorem b1 (h : Parts r D1 s D2) : 0 ≤ rZ r (hZ r D1 s D2) * qZ D2 (gZ D1 D2) ∧ rZ r (hZ r D1 s D2) * qZ D2 (gZ D1 D2) ≤ D2 := by
  have := rest_mul (a := r) h.hpos h.ypos rfl
  have := h.hy
  omega
theorem b2 (h : Parts r D1 s D2) : 0 ≤ rZ s (hZ r D1 s D2) * qZ D1 (gZ D1 D2) ∧ rZ s (hZ r D1 s D2) * qZ D1 (gZ D1 D2) ≤ D1 := by
  have := rest_mul (a := s) h.hpos h.xpos rfl
  have := h.hx
  omega
theorem fb1 (h : Parts r D1 s D2) : fitB (rZ r (hZ r D1 s D2) * qZ D2 (gZ D1 D2)) = true := fit_lt h.f2 h.b1.1 h.b1.2
theorem fb2 (h : Parts r D1 s D2) : fitB (rZ s (hZ r D1 s D2) * qZ D1 (gZ D1 D2)) = true := fit_lt h.f1 h.b2.1 h.b2.2
theorem fb (h : Parts r D1 s D2) : fitB (numR r D1 s D2 (hZ r D1 s D2)) = true := fit_diff h.f2 h.f1 h.b1.1 h.b1.2 h.b2.1 h.b2.2
theorem quot_mul {a k y d D : Int} (hk : 0 < k) (hy : 0 < y) (ha : 0 ≤ a) (hD : a * y ≤ D) (e : k * d = D) : 0 ≤ qZ a k * y ∧ qZ a k * y ≤ d := by
  have hq := qZ_pos ha hk
  refine ⟨Int.mul_nonneg hq (by omega), ?_⟩
  refine Int.le_of_mul_le_mul_left (a := k) ?_ hk
  have h1 := (qr_facts a k (by omega))
  have h2 := h1.2.1 hk
  have h3 : k * qZ a k ≤ a := by have := h1.1; omega
  have h4 := Int.mul_le_mul_of_nonneg_right h3 (c := y) (by omega)
  rw [Int.mul_assoc] at h4
  omega
theorem q1 (h : Parts r D1 s D2) : 0 ≤ qZ r (hZ r D1 s D2) * qZ D2 (gZ D1 D2) ∧ qZ r (hZ r D1 s D2) * qZ D2 (gZ D1 D2) ≤ dZ r D1 s D2 :=
  quot_mul h.hpos h.ypos h.r0 (Int.mul_le_mul_of_nonneg_right (by have := h.r1; omega) (by have := h.ypos; omega)) h.hd
theorem q2 (h : Parts r D1 s D2) : 0 ≤ qZ s (hZ r D1 s D2) * qZ D1 (gZ D1 D2) ∧ qZ s (hZ r D1 s D2) * qZ D1 (gZ D1 D2) ≤ dZ r D1 s D2 :=
  quot_mul h.hpos h.xpos h.s0 (Int.mul_le_mul_of_nonneg_right (by have := h.s1; omega) (by have := h.xpos; omega)) h.hd'
theorem fq1 (h : Parts r D1 s D2) (hd : fitB (dZ r D1 s D2) = true) : fitB (qZ r (hZ r D1 s D2) * qZ D2 (gZ D1 D2)) = true := fit_lt hd h.q1.1 h.q1.2
theorem fq2 (h : Parts r D1 s D2) (hd : fitB (dZ r D1 s D2) = true) : fitB (qZ s (hZ r D1 s D2) * qZ D1 (gZ D1 D2)) = true := fit_lt hd h.q2.1 h.q2.2
theorem fq (h : Parts r D1 s D2) (hd : fitB (dZ r D1 s D2) = true) : fitB (numQ r D1 s D2 (hZ r D1 s D2)) = true := fit_diff hd hd h.q1.1 h.q1.2 h.q2.1 h.q2.2
theorem fn (h : Parts r D1 s D2) (hd : fitB (dZ r D1 s D2) = true) : fitB (nZ r D1 s D2) = true := fit_le hd (by have := h.nlt; have := h.dpos; omega)
end Parts
/-- What joined is given and returns: a whole number and a fraction between -1 and 1. -/
theorem join_lo {P Q W n d : Int} (hq : Q ≠ 0) (h : loN P Q = n ∧ loD P Q = d) : loN (W * Q + P) Q = W * d + n ∧ loD (W * Q + P) Q = d := by
  have hd : 0 < d := by rw [← h.2]; exact loD_pos hq
  have hc : Nat.gcd n.natAbs d.natAbs = 1 := by rw [← h.1, ← h.2]; exact lo_coprime hq
  have he : n * Q = P * d := by rw [← h.1, ← h.2]; exact lo_eq hq
  refine lo_unique hq hd ?_ ?_
  · rw [show W * d + n = d * W + n by rw [Int.mul_comm], gcd_shift]; exact hc
  · rw [Int.add_mul, Int.add_mul, he, Int.mul_assoc, Int.mul_assoc, Int.mul_comm d Q]
theorem big_whole {W n d : Int} (hW : fitB W = false) (hd : 0 < d) (h1 : -d < n) (h2 : n < d) : fitB (W * d + n) = false := by
  rcases Bool.eq_false_or_eq_true (fitB (W * d + n)) with h | h
  · exfalso
    have hw : ¬ (W.natAbs : Int) < pw 200 := fun k => by rw [fitB_iff.2 k] at hW; cases hW
    rw [fitB_iff] at h
    have h3 : (2 : Int) ≤ pw 200 := by
      have := pw_mono (show 1 ≤ 200 by omega)
      have e : pw 1 = 10000 := rfl
      omega
    rcases (by omega : d = 1 ∨ 2 ≤ d) with hd1 | hd2
    · subst hd1
      have : n = 0 := by omega
      subst this
      rw [Int.mul_one, Int.add_zero] at h
      omega
    · rcases (by omega : 0 ≤ W ∨ W < 0) with hs | hs
      · have a1 : (W - 1) * 2 ≤ (W - 1) * d := Int.mul_le_mul_of_nonneg_left hd2 (by omega)
        rw [Int.sub_mul, Int.sub_mul] at a1
        omega
      · have a1 : (-W - 1) * 2 ≤ (-W - 1) * d := Int.mul_le_mul_of_nonneg_left hd2 (by omega)
        rw [Int.sub_mul, Int.sub_mul, Int.neg_mul, Int.neg_mul] at a1
        omega
  · exact h
end Go.Proofs.YtfenmogbellhdaaGreatDoor
