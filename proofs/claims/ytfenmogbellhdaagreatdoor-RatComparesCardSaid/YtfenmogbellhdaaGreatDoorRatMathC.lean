/-
  The order of fractions, by what is left of them.
-/
import Derived.Test.YtfenmogbellhdaaGreatDoorRatMathB
import Derived.Test.YtfenmogbellhdaaGreatDoorBigZ
namespace Go.Proofs.YtfenmogbellhdaaGreatDoor
open Go.RowKit

theorem cmpI_iff {a b c d : Int} (h1 : a < b ↔ c < d) (h2 : b < a ↔ d < c) : cmpI a b = cmpI c d := by
  unfold cmpI
  by_cases h : a < b
  · rw [if_pos h, if_pos (h1.1 h)]
  · rw [if_neg h, if_neg (fun k => h (h1.2 k))]
    by_cases g : b < a
    · rw [if_pos g, if_pos (h2.1 g)]
    · rw [if_neg g, if_neg (fun k => g (h2.2 k))]
theorem cmp_pq {P Q P' Q' : Int} (hQ : 0 < Q) (hQ' : 0 < Q') : cmpI (P * Q') (P' * Q) = cmpI ((Q * Q') * qZ P Q + rZ P Q * Q') ((Q * Q') * qZ P' Q' + rZ P' Q' * Q) := by
  have h1 := (qr_facts P Q (by omega)).1
  have h2 := (qr_facts P' Q' (by omega)).1
  have e1 : P * Q' = (Q * Q') * qZ P Q + rZ P Q * Q' := by
    have : P * Q' = (Q * qZ P Q + rZ P Q) * Q' := by rw [← h1]
    rw [this, Int.add_mul, Int.mul_assoc, Int.mul_comm (qZ P Q), ← Int.mul_assoc]
  have e2 : P' * Q = (Q * Q') * qZ P' Q' + rZ P' Q' * Q := by
    have : P' * Q = (Q' * qZ P' Q' + rZ P' Q') * Q := by rw [← h2]
    rw [this, Int.add_mul, Int.mul_assoc, Int.mul_comm (qZ P' Q'), ← Int.mul_assoc, Int.mul_comm Q' Q]
  rw [e1, e2]
theorem rest_bds {P Q Q' : Int} (hQ : 0 < Q) (hQ' : 0 < Q') : 0 ≤ rZ P Q * Q' ∧ rZ P Q * Q' < Q * Q' := by
  have h := (qr_facts P Q (by omega)).2.1 hQ
  exact ⟨Int.mul_nonneg h.1 (by omega), Int.mul_lt_mul_of_pos_right h.2 hQ'⟩
theorem cmp_whole_lt {M a b x y : Int} (hM : 0 < M) (_hx0 : 0 ≤ x) (hx : x < M) (hy0 : 0 ≤ y) (_hy : y < M) (h : a < b) : M * a + x < M * b + y := by
  have : M * (a + 1) ≤ M * b := Int.mul_le_mul_of_nonneg_left (by omega) (by omega)
  rw [Int.mul_add] at this
  omega
theorem cmp_ne {P Q P' Q' : Int} (hQ : 0 < Q) (hQ' : 0 < Q') (h : qZ P Q ≠ qZ P' Q') : cmpI (P * Q') (P' * Q) = cmpI (qZ P Q) (qZ P' Q') := by
  have b1 := rest_bds (P := P) hQ hQ'
  have b2 := rest_bds (P := P') hQ' hQ
  rw [Int.mul_comm Q' Q] at b2
  have hM : 0 < Q * Q' := Int.mul_pos hQ hQ'
  rw [cmp_pq hQ hQ']
  rcases (by omega : qZ P Q < qZ P' Q' ∨ qZ P' Q' < qZ P Q) with g | g
  · rw [cmpI_lt g, cmpI_lt (cmp_whole_lt hM b1.1 b1.2 b2.1 b2.2 g)]
  · rw [cmpI_gt g, cmpI_gt (cmp_whole_lt hM b2.1 b2.2 b1.1 b1.2 g)]
theorem cmp_rest {P Q P' Q' : Int} (hQ : 0 < Q) (hQ' : 0 < Q') (h : qZ P Q = qZ P' Q') : cmpI (P * Q') (P' * Q) = cmpI (rZ P Q * Q') (rZ P' Q' * Q) := by
  rw [cmp_pq hQ hQ', h]
  exact cmpI_iff (by omega) (by omega)
theorem cmp_ends {r s Q Q' : Int} (hQ : 0 < Q) (hQ' : 0 < Q') (hr : 0 ≤ r) (hs : 0 ≤ s) (h : r = 0 ∨ s = 0) : cmpI (r * Q') (s * Q) = cmpI r s := by
  rcases h with h | h
  · subst h
    rw [Int.zero_mul]
    rcases (by omega : s = 0 ∨ 0 < s) with g | g
    · subst g; rw [Int.zero_mul]
    · rw [cmpI_lt g, cmpI_lt (Int.mul_pos g hQ)]
  · subst h
    rw [Int.zero_mul]
    rcases (by omega : r = 0 ∨ 0 < r) with g | g
    · subst g; rw [Int.zero_mul]
    · rw [cmpI_gt g, cmpI_gt (Int.mul_pos g hQ')]
theorem cmp_turn (r s Q Q' : Int) : cmpI (r * Q') (s * Q) = cmpI (Q' * r) (Q * s) := by rw [Int.mul_comm r, Int.mul_comm s]
theorem fit_q {a b : Int} (hb : b ≠ 0) (h : fitB a = true) : fitB (qZ a b) = true := fit_le h (q_abs a b hb)
theorem fit_r {a b : Int} (hb : b ≠ 0) (h : fitB b = true) : fitB (rZ a b) = true := fit_le h (Nat.le_of_lt (r_abs a b hb))
end Go.Proofs.YtfenmogbellhdaaGreatDoor
