/-
  Plain facts on bounded integers: sums, products, rounded quotients and rests, greatest common divisors. No program in sight.
-/
namespace Go.Proofs.YtblakndpionmgaaDoor

/-- In bounds. -/
def inB (n : Int) : Bool := decide (-1000000000000 ≤ n ∧ n ≤ 1000000000000)
def addB (a b : Int) : Bool := inB a && inB b && inB (a + b)
def addV (a b : Int) : Int := if addB a b then a + b else 0
def subB (a b : Int) : Bool := inB a && inB b && inB (a - b)
def subV (a b : Int) : Int := if subB a b then a - b else 0
def mulB (a b : Int) : Bool := inB a && inB b && inB (a * b)
def mulV (a b : Int) : Int := if mulB a b then a * b else 0
def divB (a b : Int) : Bool := inB a && inB b && b != 0
/-- Go's quotient is above the exact one. -/
def ruB (a b : Int) : Bool := a.tmod b != 0 && (decide (a < 0) != decide (b < 0))
def quo (a b : Int) : Int := if ruB a b then a.tdiv b - 1 else a.tdiv b
def rest (a b : Int) : Int := if ruB a b then a.tmod b + b else a.tmod b
def divV (a b : Int) : Int := if divB a b then quo a b else 0
def modV (a b : Int) : Int := if divB a b then rest a b else 0
/-- The absolute value; that of the least int counts as MaxInt. -/
def mag (n : Int) : Int := if n = -9223372036854775808 then 1000000000000 else if n < 0 then -n else n
def gcdV (a b : Int) : Int := (Nat.gcd (mag a).toNat (mag b).toNat : Nat)

theorem inB_yes {n : Int} (h1 : -1000000000000 ≤ n) (h2 : n ≤ 1000000000000) : inB n = true := decide_eq_true ⟨h1, h2⟩
theorem inB_no {n : Int} (h : n < -1000000000000 ∨ 1000000000000 < n) : inB n = false := decide_eq_false (by omega)
theorem of_inB {n : Int} (h : inB n = true) : -1000000000000 ≤ n ∧ n ≤ 1000000000000 := of_decide_eq_true h
theorem of_inB_no {n : Int} (h : inB n = false) : n < -1000000000000 ∨ 1000000000000 < n := by
  have := of_decide_eq_false h; omega

theorem tmod_lt {a b : Int} (hb : b ≠ 0) : (0 ≤ a → 0 ≤ a.tmod b) ∧ (a ≤ 0 → a.tmod b ≤ 0) ∧ (0 < b → a.tmod b < b ∧ -b < a.tmod b) ∧ (b < 0 → a.tmod b < -b ∧ b < a.tmod b) := by
  have h1 : (a.tmod b).natAbs < b.natAbs := by
    rw [Int.natAbs_tmod]; exact Nat.mod_lt _ (by omega)
  refine ⟨fun h => Int.tmod_nonneg _ h, fun h => ?_, fun h => by omega, fun h => by omega⟩
  have := Int.tmod_nonneg b (a := -a) (by omega)
  rw [Int.neg_tmod] at this
  omega

theorem tdiv_le {a b : Int} : -(a.natAbs : Int) ≤ a.tdiv b ∧ a.tdiv b ≤ a.natAbs := by
  have h1 : (a.tdiv b).natAbs ≤ a.natAbs := by
    rw [Int.natAbs_tdiv]; exact Nat.div_le_self _ _
  omega

theorem tdiv_mul {a b : Int} : a.tmod b + b * a.tdiv b = a := Int.tmod_add_mul_tdiv a b

/-- The reference's test: q*b is not a. -/
theorem back_ne {a b : Int} : (a.tdiv b * b != a) = (a.tmod b != 0) := by
  have h := @tdiv_mul a b
  rw [Int.mul_comm] at h
  rw [Bool.eq_iff_iff]; simp; omega

theorem rest_eq {a b : Int} : a - b * quo a b = rest a b := by
  have h := @tdiv_mul a b
  unfold quo rest
  split
  · rw [Int.mul_sub, Int.mul_one]; omega
  · omega

theorem quo_rest (a b : Int) : a = b * quo a b + rest a b := by
  have := @rest_eq a b; omega

theorem rest_sign {a b : Int} (hb : b ≠ 0) : (0 < b → 0 ≤ rest a b ∧ rest a b < b) ∧ (b < 0 → rest a b ≤ 0 ∧ b < rest a b) := by
  obtain ⟨h1, h2, h3, h4⟩ := @tmod_lt a b hb
  unfold rest ruB
  refine ⟨fun h => ?_, fun h => ?_⟩
  · have := h3 h
    by_cases ha : a < 0
    · have := h2 (by omega)
      by_cases hm : a.tmod b = 0
      · simp [hm]; omega
      · simp [hm, ha, show ¬ b < 0 by omega]; omega
    · have := h1 (by omega)
      simp [ha, show ¬ b < 0 by omega]; omega
  · have := h4 h
    by_cases ha : a < 0
    · have := h2 (by omega)
      simp [ha, h]; omega
    · have := h1 (by omega)
      by_cases hm : a.tmod b = 0
      · simp [hm]; omega
      · simp [hm, ha, h]; omega

theorem mag_in {n : Int} (h1 : -9223372036854775808 ≤ n) (h2 : n ≤ 9223372036854775807) : 0 ≤ mag n ∧ mag n ≤ 9223372036854775807 := by
  unfold mag; split
  · omega
  · split <;> omega

/-- The size of a product against a quotient of the bound. -/
theorem prod_le {x y : Int} (hx : 0 < x) (_hy : 0 ≤ y) (h : y ≤ 1000000000000 / x) : x * y ≤ 1000000000000 := by
  have h1 : x * y ≤ x * (1000000000000 / x) := Int.mul_le_mul_of_nonneg_left h (by omega)
  have h2 : x * (1000000000000 / x) ≤ 1000000000000 := Int.mul_ediv_self_le (by omega)
  omega
theorem prod_gt {x y : Int} (hx : 0 < x) (h : 1000000000000 / x < y) : 1000000000000 < x * y := by
  have h1 : 1000000000000 < x * (1000000000000 / x + 1) := by
    have := Int.lt_mul_ediv_self_add (x := 1000000000000) (k := x) hx
    rw [Int.mul_add, Int.mul_one]; omega
  have h2 : x * (1000000000000 / x + 1) ≤ x * y := Int.mul_le_mul_of_nonneg_left (by omega) (by omega)
  omega

end Go.Proofs.YtblakndpionmgaaDoor
