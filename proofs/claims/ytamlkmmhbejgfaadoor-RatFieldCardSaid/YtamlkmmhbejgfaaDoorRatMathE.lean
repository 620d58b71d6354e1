/-
  The order of fractions, and of their sums.
-/
import Derived.Test.YtamlkmmhbejgfaaDoorRatMathD
import Derived.Test.YtamlkmmhbejgfaaDoorRatG
namespace Go.Proofs.YtamlkmmhbejgfaaDoor
open Go.RowKit

theorem cmp_scale {k a b : Int} (hk : 0 < k) : cmpI (k * a) (k * b) = cmpI a b :=
  cmpI_iff ⟨fun h => Int.lt_of_mul_lt_mul_left h (by omega), fun h => Int.mul_lt_mul_of_pos_left h hk⟩ ⟨fun h => Int.lt_of_mul_lt_mul_left h (by omega), fun h => Int.mul_lt_mul_of_pos_left h hk⟩
theorem cmp_add (t a b : Int) : cmpI (a + t) (b + t) = cmpI a b := cmpI_iff (by omega) (by omega)
theorem cmp_swap (a b : Int) : cmpI b a = -cmpI a b := by
  unfold cmpI
  by_cases h : a < b
  · rw [if_pos h, if_neg (by omega), if_pos h]; rfl
  · rw [if_neg h]
    by_cases g : b < a
    · rw [if_pos g, if_neg h, if_pos g]
    · rw [if_neg g, if_neg h, if_neg g]; rfl
theorem gs_gt {p q : Int} (hq : 0 < q) : 0 < gs p q := by
  rw [gs_pos (by omega)]; exact gZ_pos' (by omega)
/-- Lowest terms are ordered as what they are made of. -/
theorem cmp_lo {P Q P' Q' : Int} (hQ : 0 < Q) (hQ' : 0 < Q') : cmpI (loN P Q * loD P' Q') (loN P' Q' * loD P Q) = cmpI (P * Q') (P' * Q) := by
  have a1 := lo_mul_l (p := P) (q := Q) (by omega)
  have a2 := lo_mul_r (p := P) (q := Q) (by omega)
  have a3 := lo_mul_l (p := P') (q := Q') (by omega)
  have a4 := lo_mul_r (p := P') (q := Q') (by omega)
  have hk : 0 < gs P Q * gs P' Q' := Int.mul_pos (gs_gt hQ) (gs_gt hQ')
  have e1 : P * Q' = (gs P Q * gs P' Q') * (loN P Q * loD P' Q') := by
    calc P * Q' = (gs P Q * loN P Q) * (gs P' Q' * loD P' Q') := by rw [a1, a4]
      _ = _ := by simp only [Int.mul_comm, Int.mul_assoc, Int.mul_left_comm]
  have e2 : P' * Q = (gs P Q * gs P' Q') * (loN P' Q' * loD P Q) := by
    calc P' * Q = (gs P' Q' * loN P' Q') * (gs P Q * loD P Q) := by rw [a3, a2]
      _ = _ := by simp only [Int.mul_comm, Int.mul_assoc, Int.mul_left_comm]
  rw [e1, e2, cmp_scale hk]
theorem cmp_sums {p q p' q' p'' q'' : Int} (h'' : 0 < q'') :
    cmpI ((p * q'' + p'' * q) * (q' * q'')) ((p' * q'' + p'' * q') * (q * q'')) = cmpI (p * q') (p' * q) := by
  have e1 : (p * q'' + p'' * q) * (q' * q'') = (q'' * q'') * (p * q') + p'' * q * (q' * q'') := by
    rw [Int.add_mul]
    have : p * q'' * (q' * q'') = (q'' * q'') * (p * q') := by simp only [Int.mul_comm, Int.mul_left_comm]
    rw [this]
  have e2 : (p' * q'' + p'' * q') * (q * q'') = (q'' * q'') * (p' * q) + p'' * q * (q' * q'') := by
    rw [Int.add_mul]
    have : p' * q'' * (q * q'') = (q'' * q'') * (p' * q) := by simp only [Int.mul_comm, Int.mul_left_comm]
    have e3 : p'' * q' * (q * q'') = p'' * q * (q' * q'') := by simp only [Int.mul_comm, Int.mul_left_comm]
    rw [this, e3]
  rw [e1, e2, cmp_add, cmp_scale (Int.mul_pos h'' h'')]
theorem cmp_le {a b : Int} (h : cmpI a b ≤ 0) : a ≤ b := by
  rcases (by omega : a ≤ b ∨ b < a) with k | k
  · exact k
  · rw [cmpI_gt k] at h; omega
theorem cmp_of_le {a b : Int} (h : a ≤ b) : cmpI a b ≤ 0 := by
  rcases (by omega : a < b ∨ a = b) with k | k
  · rw [cmpI_lt k]; omega
  · rw [cmpI_eq k]; omega
theorem cmp_trans {p q p' q' p'' q'' : Int} (hq : 0 < q) (hq' : 0 < q') (hq'' : 0 < q'') (h1 : cmpI (p * q') (p' * q) ≤ 0) (h2 : cmpI (p' * q'') (p'' * q') ≤ 0) : cmpI (p * q'') (p'' * q) ≤ 0 := by
  have a1 := Int.mul_le_mul_of_nonneg_right (cmp_le h1) (c := q'') (by omega)
  have a2 := Int.mul_le_mul_of_nonneg_right (cmp_le h2) (c := q) (by omega)
  have e1 : p' * q * q'' = p' * q'' * q := by rw [Int.mul_assoc, Int.mul_comm q, ← Int.mul_assoc]
  have e2 : p * q' * q'' = q' * (p * q'') := by simp only [Int.mul_comm, Int.mul_left_comm]
  have e3 : p'' * q' * q = q' * (p'' * q) := by simp only [Int.mul_comm, Int.mul_left_comm]
  refine cmp_of_le (Int.le_of_mul_le_mul_left (a := q') ?_ hq')
  omega
theorem cmp_zero' {a b : Int} (h : a ≠ b) : (cmpI a b == 0) = false := cmp_nz h
theorem cmp_same {p q p' q' : Int} (h : Fr p q) (h' : Fr p' q') : (decide (p = p') && decide (q = q')) = (cmpI (p * q') (p' * q) == 0) := by
  by_cases e : p * q' = p' * q
  · rw [cmpI_eq e]
    obtain ⟨a1, a2⟩ := lo_unique (p := p) (q := q) (by have := h.pos; omega) h'.pos h'.cop e.symm
    obtain ⟨b1, b2⟩ := h.lo_self
    rw [← a1, ← a2, b1, b2]; simp
  · rw [cmp_zero' e]
    by_cases k : p = p'
    · by_cases l : q = q'
      · exfalso; apply e; rw [k, l]
      · rw [decide_eq_false l, Bool.and_false]
    · rw [decide_eq_false k, Bool.false_and]
theorem sum_q {q q' : Int} (h : 0 < q) (h' : 0 < q') : 0 < q * q' := Int.mul_pos h h'
theorem res_cmp {p q p' q' p'' q'' : Int} (h1 : 0 < q) (h2 : 0 < q') (h3 : 0 < q'') (b1 : resB (p * q'' + p'' * q) (q * q'') = true) (b2 : resB (p' * q'' + p'' * q') (q' * q'') = true) :
    cmpI (resN (p * q'' + p'' * q) (q * q'') * resD (p' * q'' + p'' * q') (q' * q'')) (resN (p' * q'' + p'' * q') (q' * q'') * resD (p * q'' + p'' * q) (q * q'')) = cmpI (p * q') (p' * q) := by
  rw [(res_yes b1).1, (res_yes b1).2, (res_yes b2).1, (res_yes b2).2, cmp_lo (sum_q h1 h3) (sum_q h2 h3), cmp_sums h3]
end Go.Proofs.YtamlkmmhbejgfaaDoor
