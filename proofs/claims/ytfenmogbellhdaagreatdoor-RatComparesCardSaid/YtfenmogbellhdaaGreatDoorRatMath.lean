/-
  Fractions in lowest terms, by their two parts.
-/
import Derived.Test.YtfenmogbellhdaaGreatDoorBigM
import Derived.Test.YtfenmogbellhdaaGreatDoorBigL
namespace Go.Proofs.YtfenmogbellhdaaGreatDoor
open Go.RowKit

theorem gZ_nonneg (p q : Int) : 0 ≤ gZ p q := Int.natCast_nonneg _
theorem gZ_pos' {p q : Int} (hq : q ≠ 0) : 0 < gZ p q := by
  unfold gZ
  have : 0 < Nat.gcd p.natAbs q.natAbs := Nat.gcd_pos_of_pos_right _ (by omega)
  omega
theorem gZ_dvd_l (p q : Int) : gZ p q ∣ p := Int.ofNat_dvd_left.2 (Nat.gcd_dvd_left _ _)
theorem gZ_dvd_r (p q : Int) : gZ p q ∣ q := Int.ofNat_dvd_left.2 (Nat.gcd_dvd_right _ _)
theorem gZ_int (p q : Int) : gZ p q = (Int.gcd p q : Int) := rfl
theorem fit_le {p q : Int} (h : fitB q = true) (hl : p.natAbs ≤ q.natAbs) : fitB p = true := by
  rw [fitB_iff] at h ⊢; omega
theorem fit_gZ {p q : Int} (hq : q ≠ 0) (h : fitB q = true) : fitB (gZ p q) = true := by
  refine fit_le h ?_
  have := Nat.gcd_le_right p.natAbs (n := q.natAbs) (by omega)
  unfold gZ; omega
/-- What parts are divided by, with the sign of the second. -/
def gs (p q : Int) : Int := if q < 0 then -gZ p q else gZ p q
def loN (p q : Int) : Int := qZ p (gs p q)
def loD (p q : Int) : Int := qZ q (gs p q)
theorem gs_neg {p q : Int} (h : q < 0) : gs p q = -gZ p q := if_pos h
theorem gs_pos {p q : Int} (h : ¬ q < 0) : gs p q = gZ p q := if_neg h
theorem gs_ne {p q : Int} (hq : q ≠ 0) : gs p q ≠ 0 := by
  have := gZ_pos' (p := p) hq
  unfold gs; split <;> omega
theorem gs_dvd_l (p q : Int) : gs p q ∣ p := by
  unfold gs; split
  · exact Int.neg_dvd.2 (gZ_dvd_l p q)
  · exact gZ_dvd_l p q
theorem gs_dvd_r (p q : Int) : gs p q ∣ q := by
  unfold gs; split
  · exact Int.neg_dvd.2 (gZ_dvd_r p q)
  · exact gZ_dvd_r p q
theorem fit_gs {p q : Int} (hq : q ≠ 0) (h : fitB q = true) : fitB (gs p q) = true := by
  have := fit_gZ (p := p) hq h
  unfold gs; split
  · rw [fitB_neg]; exact this
  · exact this
theorem qZ_mul {g p : Int} (hg : g ≠ 0) (h : g ∣ p) : g * qZ p g = p := by
  unfold qZ
  rw [if_neg hg]
  exact Int.mul_fdiv_cancel' h
theorem lo_mul_l {p q : Int} (hq : q ≠ 0) : gs p q * loN p q = p := qZ_mul (gs_ne hq) (gs_dvd_l p q)
theorem lo_mul_r {p q : Int} (hq : q ≠ 0) : gs p q * loD p q = q := qZ_mul (gs_ne hq) (gs_dvd_r p q)
theorem abs_le_mul {g x : Int} (hg : g ≠ 0) : x.natAbs ≤ (g * x).natAbs := by
  rw [Int.natAbs_mul]
  exact Nat.le_mul_of_pos_left _ (by omega)
theorem fit_loN {p q : Int} (hq : q ≠ 0) (h : fitB p = true) : fitB (loN p q) = true := fit_le h (by
  have h1 := lo_mul_l (p := p) hq
  have h2 := abs_le_mul (x := loN p q) (gs_ne (p := p) hq)
  rw [h1] at h2; exact h2)
theorem fit_loD {p q : Int} (hq : q ≠ 0) (h : fitB q = true) : fitB (loD p q) = true := fit_le h (by
  have h1 := lo_mul_r (p := p) hq
  have h2 := abs_le_mul (x := loD p q) (gs_ne (p := p) hq)
  rw [h1] at h2; exact h2)
theorem loD_pos {p q : Int} (hq : q ≠ 0) : 0 < loD p q := by
  have h := lo_mul_r (p := p) hq
  have hg := gZ_pos' (p := p) hq
  by_cases h0 : q < 0
  · rw [gs_neg h0] at h
    rcases Decidable.em (0 < loD p q) with h1 | h1
    · exact h1
    · exfalso
      have := Int.mul_nonneg (a := gZ p q) (b := -loD p q) (by omega) (by omega)
      rw [Int.mul_neg] at this
      rw [Int.neg_mul] at h
      omega
  · rw [gs_pos h0] at h
    rcases Decidable.em (0 < loD p q) with h1 | h1
    · exact h1
    · exfalso
      have := Int.mul_nonneg (a := gZ p q) (b := -loD p q) (by omega) (by omega)
      rw [Int.mul_neg] at this
      omega
theorem natAbs_gs (p q : Int) : (gs p q).natAbs = Nat.gcd p.natAbs q.natAbs := by
  unfold gs gZ; split <;> omega
theorem lo_coprime {p q : Int} (hq : q ≠ 0) : Nat.gcd (loN p q).natAbs (loD p q).natAbs = 1 := by
  have h1 := congrArg Int.natAbs (lo_mul_l (p := p) hq)
  have h2 := congrArg Int.natAbs (lo_mul_r (p := p) hq)
  rw [Int.natAbs_mul, natAbs_gs] at h1 h2
  have hg : 0 < Nat.gcd p.natAbs q.natAbs := Nat.gcd_pos_of_pos_right _ (by omega)
  have h3 : Nat.gcd p.natAbs q.natAbs * Nat.gcd (loN p q).natAbs (loD p q).natAbs = Nat.gcd p.natAbs q.natAbs * 1 := by
    rw [← Nat.gcd_mul_left, h1, h2, Nat.mul_one]
  exact Nat.eq_of_mul_eq_mul_left hg h3
/-- The lowest terms are the only ones. -/
theorem lo_unique {p q n d : Int} (hq : q ≠ 0) (hd : 0 < d) (hc : Nat.gcd n.natAbs d.natAbs = 1) (h : n * q = p * d) : loN p q = n ∧ loD p q = d := by
  have hg := gs_ne (p := p) hq
  have h1 := lo_mul_l (p := p) hq
  have h2 := lo_mul_r (p := p) hq
  have hD := loD_pos (p := p) hq
  have hC := lo_coprime (p := p) hq
  generalize loN p q = N at *
  generalize loD p q = D at *
  have e : n * D = N * d := by
    have : gs p q * (n * D) = gs p q * (N * d) := by
      calc gs p q * (n * D) = n * (gs p q * D) := by rw [← Int.mul_assoc, Int.mul_comm (gs p q) n, Int.mul_assoc]
        _ = n * q := by rw [h2]
        _ = p * d := h
        _ = gs p q * N * d := by rw [h1]
        _ = gs p q * (N * d) := Int.mul_assoc _ _ _
    exact Int.eq_of_mul_eq_mul_left hg this
  have ea : n.natAbs * D.natAbs = N.natAbs * d.natAbs := by rw [← Int.natAbs_mul, ← Int.natAbs_mul, e]
  have d1 : d.natAbs ∣ D.natAbs := by
    have : d.natAbs ∣ n.natAbs * D.natAbs := ⟨N.natAbs, by rw [ea, Nat.mul_comm]⟩
    exact Nat.Coprime.dvd_of_dvd_mul_left (Nat.Coprime.symm hc) this
  have d2 : D.natAbs ∣ d.natAbs := by
    have : D.natAbs ∣ N.natAbs * d.natAbs := ⟨n.natAbs, by rw [← ea, Nat.mul_comm]⟩
    exact Nat.Coprime.dvd_of_dvd_mul_left (Nat.Coprime.symm hC) this
  have ed : D = d := by
    have := Nat.dvd_antisymm d1 d2
    omega
  subst ed
  exact ⟨(Int.eq_of_mul_eq_mul_right (by omega) e).symm, rfl⟩
/-- Parts of a fraction. -/
structure Fr (p q : Int) : Prop where
  fn : fitB p = true
  fd : fitB q = true
  pos : 0 < q
  cop : Nat.gcd p.natAbs q.natAbs = 1
theorem Fr.whole {p : Int} (h : fitB p = true) : Fr p 1 := ⟨h, by
  rw [fitB_iff]
  have := pw_mono (show 1 ≤ 200 by omega)
  have e : pw 1 = 10000 := rfl
  omega, by omega, by simp⟩
theorem Fr.lo {p q : Int} (hq : q ≠ 0) (hp : fitB p = true) (hf : fitB q = true) : Fr (loN p q) (loD p q) := ⟨fit_loN hq hp, fit_loD hq hf, loD_pos hq, lo_coprime hq⟩
theorem Fr.lo_self {p q : Int} (h : Fr p q) : loN p q = p ∧ loD p q = q := lo_unique (by have := h.pos; omega) h.pos h.cop rfl
theorem Fr.neg {p q : Int} (h : Fr p q) : Fr (-p) q := ⟨by rw [fitB_neg]; exact h.fn, h.fd, h.pos, by rw [Int.natAbs_neg]; exact h.cop⟩
/-- Whether digits with signs are a fraction. -/
def validR (na : Bool) (xs : List Int) (nb : Bool) (ys : List Int) : Bool := validB na xs && validB nb ys && decide (0 < zOf nb ys) && decide (gZ (zOf na xs) (zOf nb ys) = 1)
def frN (na : Bool) (xs : List Int) (nb : Bool) (ys : List Int) : Int := if validR na xs nb ys then zOf na xs else 0
def frD (na : Bool) (xs : List Int) (nb : Bool) (ys : List Int) : Int := if validR na xs nb ys then zOf nb ys else 1
theorem fr_ok (na : Bool) (xs : List Int) (nb : Bool) (ys : List Int) : Fr (frN na xs nb ys) (frD na xs nb ys) := by
  unfold frN frD
  cases h : validR na xs nb ys with
  | false => exact Fr.whole fit_zero
  | true =>
    unfold validR at h
    simp only [Bool.and_eq_true, decide_eq_true_eq] at h
    obtain ⟨⟨⟨_, _⟩, h3⟩, h4⟩ := h
    refine ⟨fit_zOf _ _, fit_zOf _ _, h3, ?_⟩
    unfold gZ at h4
    simp only [if_true]
    omega
theorem Fr.valid {p q : Int} (h : Fr p q) : validR (nOf p) (lOf p) (nOf q) (lOf q) = true := by
  unfold validR
  rw [valid_lOf h.fn, valid_lOf h.fd, zOf_lOf h.fn, zOf_lOf h.fd]
  have h1 := h.pos
  have h2 : gZ p q = 1 := by unfold gZ; rw [h.cop]; rfl
  simp [h1, h2]
theorem fr_valid {na : Bool} {xs : List Int} {nb : Bool} {ys : List Int} (h : validR na xs nb ys = true) :
    frN na xs nb ys = zOf na xs ∧ frD na xs nb ys = zOf nb ys ∧ na = nOf (frN na xs nb ys) ∧ xs = lOf (frN na xs nb ys) ∧ nb = nOf (frD na xs nb ys) ∧ ys = lOf (frD na xs nb ys) := by
  unfold frN frD
  rw [h]
  unfold validR at h
  simp only [Bool.and_eq_true, decide_eq_true_eq] at h
  obtain ⟨⟨⟨h1, h2⟩, h3⟩, h4⟩ := h
  exact ⟨rfl, rfl, (form_of_valid h1).1, (form_of_valid h1).2.1, (form_of_valid h2).1, (form_of_valid h2).2.1⟩
theorem fr_invalid {na : Bool} {xs : List Int} {nb : Bool} {ys : List Int} (h : validR na xs nb ys = false) : frN na xs nb ys = 0 ∧ frD na xs nb ys = 1 := by
  unfold frN frD; rw [h]; exact ⟨rfl, rfl⟩
theorem fr_of {p q : Int} (h : Fr p q) : frN (nOf p) (lOf p) (nOf q) (lOf q) = p ∧ frD (nOf p) (lOf p) (nOf q) (lOf q) = q := by
  obtain ⟨h1, h2, _⟩ := fr_valid h.valid
  rw [zOf_lOf h.fn] at h1
  rw [zOf_lOf h.fd] at h2
  exact ⟨h1, h2⟩
end Go.Proofs.YtfenmogbellhdaaGreatDoor
