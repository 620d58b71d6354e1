/-
  Results of computations with fractions, in lowest terms; products.
-/
import Derived.Test.YtfenmogbellhdaaGreatDoorRatMath
namespace Go.Proofs.YtfenmogbellhdaaGreatDoor
open Go.RowKit

/-- Whether P/Q in lowest terms fits, and its parts (0 and 0 if not). -/
def resB (P Q : Int) : Bool := Q != 0 && (fitB (loN P Q) && fitB (loD P Q))
def resN (P Q : Int) : Int := if resB P Q then loN P Q else 0
def resD (P Q : Int) : Int := if resB P Q then loD P Q else 0
theorem res_no {P Q : Int} (h : resB P Q = false) : resN P Q = 0 ∧ resD P Q = 0 := by unfold resN resD; rw [h]; exact ⟨rfl, rfl⟩
theorem res_yes {P Q : Int} (h : resB P Q = true) : resN P Q = loN P Q ∧ resD P Q = loD P Q := by unfold resN resD; rw [h]; exact ⟨rfl, rfl⟩
theorem res_zero (P : Int) : resB P 0 = false := rfl
theorem res_ne {P Q : Int} (h : resB P Q = true) : Q ≠ 0 := by
  intro e; subst e; rw [res_zero] at h; cases h
theorem Fr.res {P Q : Int} (h : resB P Q = true) : Fr (resN P Q) (resD P Q) := by
  have hq := res_ne h
  rw [(res_yes h).1, (res_yes h).2]
  unfold resB at h
  simp only [Bool.and_eq_true] at h
  exact ⟨h.2.1, h.2.2, loD_pos hq, lo_coprime hq⟩
theorem cop_iff {a b : Int} : Nat.gcd a.natAbs b.natAbs = 1 ↔ Nat.Coprime a.natAbs b.natAbs := Iff.rfl
theorem cop_of_dvd {a b x y : Int} (h : Nat.gcd a.natAbs b.natAbs = 1) (hx : x ∣ a) (hy : y ∣ b) : Nat.gcd x.natAbs y.natAbs = 1 :=
  Nat.Coprime.coprime_dvd_left (Int.natAbs_dvd_natAbs.2 hx) (Nat.Coprime.coprime_dvd_right (Int.natAbs_dvd_natAbs.2 hy) h)
theorem cop_mul_l {a b c : Int} (h1 : Nat.gcd a.natAbs c.natAbs = 1) (h2 : Nat.gcd b.natAbs c.natAbs = 1) : Nat.gcd (a * b).natAbs c.natAbs = 1 := by
  rw [Int.natAbs_mul]; exact Nat.Coprime.mul_left h1 h2
theorem cop_mul_r {a b c : Int} (h1 : Nat.gcd a.natAbs b.natAbs = 1) (h2 : Nat.gcd a.natAbs c.natAbs = 1) : Nat.gcd a.natAbs (b * c).natAbs = 1 := by
  rw [Int.natAbs_mul]; exact Nat.Coprime.mul_right h1 h2
theorem cop_comm {a b : Int} (h : Nat.gcd a.natAbs b.natAbs = 1) : Nat.gcd b.natAbs a.natAbs = 1 := by rw [Nat.gcd_comm]; exact h
theorem lo_dvd {p q : Int} (hq : q ≠ 0) : loN p q ∣ p ∧ loD p q ∣ q :=
  ⟨⟨gs p q, by rw [Int.mul_comm]; exact (lo_mul_l hq).symm⟩, ⟨gs p q, by rw [Int.mul_comm]; exact (lo_mul_r hq).symm⟩⟩
/-- Lowest terms keep the fraction. -/
theorem lo_eq {p q : Int} (hq : q ≠ 0) : loN p q * q = p * loD p q := by
  have h1 := lo_mul_l (p := p) hq
  have h2 := lo_mul_r (p := p) hq
  have e1 : loN p q * q = loN p q * (gs p q * loD p q) := by rw [h2]
  have e2 : p * loD p q = gs p q * loN p q * loD p q := by rw [h1]
  rw [e1, e2, ← Int.mul_assoc, Int.mul_comm (loN p q)]
/-- The product of what is lowest crosswise is lowest. -/
theorem mul_lo {p q p' q' : Int} (h : Fr p q) (h' : Fr p' q') (hx : q' ≠ 0) (hy : q ≠ 0) :
    loN (p * p') (q * q') = loN p q' * loN p' q ∧ loD (p * p') (q * q') = loD p q' * loD p' q := by
  have a1 := lo_eq (p := p) hx
  have a2 := lo_eq (p := p') hy
  refine lo_unique (Int.mul_ne_zero hy hx) (Int.mul_pos (loD_pos hx) (loD_pos hy)) ?_ ?_
  · refine cop_mul_l (cop_mul_r (lo_coprime hx) ?_) (cop_mul_r ?_ (lo_coprime hy))
    · exact cop_of_dvd h.cop (lo_dvd hx).1 (lo_dvd hy).2
    · exact cop_of_dvd h'.cop (lo_dvd hy).1 (lo_dvd hx).2
  · calc loN p q' * loN p' q * (q * q') = (loN p q' * q') * (loN p' q * q) := by
          simp only [Int.mul_comm, Int.mul_assoc, Int.mul_left_comm]
      _ = p * loD p q' * (p' * loD p' q) := by rw [a1, a2]
      _ = p * p' * (loD p q' * loD p' q) := by simp only [Int.mul_assoc, Int.mul_left_comm]
theorem div_lo {p q p' q' : Int} (h : Fr p q) (h' : Fr p' q') (hx : p' ≠ 0) :
    loN (p * q') (q * p') = loN p p' * loN q' q ∧ loD (p * q') (q * p') = loD p p' * loD q' q := by
  have hy : q ≠ 0 := by have := h.pos; omega
  have a1 := lo_eq (p := p) hx
  have a2 := lo_eq (p := q') hy
  refine lo_unique (Int.mul_ne_zero hy hx) (Int.mul_pos (loD_pos hx) (loD_pos hy)) ?_ ?_
  · refine cop_mul_l (cop_mul_r (lo_coprime hx) ?_) (cop_mul_r ?_ (lo_coprime hy))
    · exact cop_of_dvd h.cop (lo_dvd hx).1 (lo_dvd hy).2
    · exact cop_of_dvd (cop_comm h'.cop) (lo_dvd hy).1 (lo_dvd hx).2
  · calc loN p p' * loN q' q * (q * p') = (loN p p' * p') * (loN q' q * q) := by
          simp only [Int.mul_comm, Int.mul_assoc, Int.mul_left_comm]
      _ = p * loD p p' * (q' * loD q' q) := by rw [a1, a2]
      _ = p * q' * (loD p p' * loD q' q) := by simp only [Int.mul_assoc, Int.mul_left_comm]
end Go.Proofs.YtfenmogbellhdaaGreatDoor
