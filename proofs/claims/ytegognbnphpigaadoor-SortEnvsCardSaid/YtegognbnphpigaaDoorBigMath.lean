/-
  Plain facts on digits to the base 10000: values of lists, lists of values, validity, comparison, division by an estimate. No program in sight.
-/
namespace Go.Proofs.YtegognbnphpigaaDoor

/-- The value of digits, the least one first. -/
def val : List Int → Int
  | [] => 0
  | d :: l => d + 10000 * val l
/-- All digits are digits. -/
def dOk (l : List Int) : Prop := ∀ d ∈ l, 0 ≤ d ∧ d < 10000
/-- The digits of a number. -/
def digs (n : Nat) : List Int := if h : n = 0 then [] else ((n % 10000 : Nat) : Int) :: digs (n / 10000)
/-- The greatest digit is not 0. -/
def topOk (l : List Int) : Prop := l.getLast? ≠ some 0
/-- Powers of the base. -/
def pw (k : Nat) : Int := 10000 ^ k

theorem pw_zero : pw 0 = 1 := rfl
theorem pw_succ (k : Nat) : pw (k + 1) = 10000 * pw k := by unfold pw; rw [Int.pow_succ, Int.mul_comm]
theorem pw_pos (k : Nat) : 0 < pw k := by
  induction k with
  | zero => decide
  | succ k ih => rw [pw_succ]; omega
theorem pw_add (j k : Nat) : pw (j + k) = pw j * pw k := by unfold pw; rw [Int.pow_add]
theorem pw_mono {j k : Nat} (h : j ≤ k) : pw j ≤ pw k := by
  obtain ⟨i, rfl⟩ := Nat.exists_eq_add_of_le h
  rw [pw_add]
  have h1 := pw_pos i
  have h2 := pw_pos j
  have := Int.mul_le_mul_of_nonneg_left (show 1 ≤ pw i by omega) (show 0 ≤ pw j by omega)
  omega

theorem dOk_nil : dOk [] := fun d h => by cases h
theorem dOk_cons {d : Int} {l : List Int} : dOk (d :: l) ↔ (0 ≤ d ∧ d < 10000) ∧ dOk l := by
  unfold dOk; simp
theorem dOk_app {a b : List Int} : dOk (a ++ b) ↔ dOk a ∧ dOk b := by
  unfold dOk; simp only [List.mem_append]
  exact ⟨fun h => ⟨fun d hd => h d (.inl hd), fun d hd => h d (.inr hd)⟩, fun h d hd => hd.elim (h.1 d) (h.2 d)⟩
theorem dOk_take {l : List Int} (h : dOk l) (n : Nat) : dOk (l.take n) := fun d hd => h d (List.mem_of_mem_take hd)
theorem dOk_drop {l : List Int} (h : dOk l) (n : Nat) : dOk (l.drop n) := fun d hd => h d (List.mem_of_mem_drop hd)
theorem dOk_rep (n : Nat) : dOk (List.replicate n 0) := fun d hd => by
  have := (List.mem_replicate.1 hd).2; omega
theorem dOk_at {l : List Int} (h : dOk l) {k : Nat} (hk : k < l.length) : 0 ≤ l[k] ∧ l[k] < 10000 := h _ (List.getElem_mem hk)

theorem val_app (a b : List Int) : val (a ++ b) = val a + pw a.length * val b := by
  induction a with
  | nil => simp [val, pw]
  | cons d l ih =>
    simp only [List.cons_append, val, List.length_cons, pw_succ, ih]
    rw [Int.mul_add, Int.mul_assoc]; omega
theorem val_rep (n : Nat) : val (List.replicate n 0) = 0 := by
  induction n with
  | zero => rfl
  | succ n ih => rw [List.replicate_succ]; simp [val, ih]
theorem val_bd {l : List Int} (h : dOk l) : 0 ≤ val l ∧ val l < pw l.length := by
  induction l with
  | nil => exact ⟨by decide, by decide⟩
  | cons d l ih =>
    obtain ⟨h1, h2⟩ := dOk_cons.1 h
    have := ih h2
    simp only [val, List.length_cons, pw_succ]
    omega
theorem val_split (l : List Int) (n : Nat) (h : n ≤ l.length) : val l = val (l.take n) + pw n * val (l.drop n) := by
  conv => lhs; rw [← List.take_append_drop n l, val_app]
  rw [List.length_take, Nat.min_eq_left h]

theorem digs_zero : digs 0 = [] := by unfold digs; simp
theorem digs_pos {n : Nat} (h : n ≠ 0) : digs n = ((n % 10000 : Nat) : Int) :: digs (n / 10000) := by
  rw [digs]; simp [h]
theorem digs_ok (n : Nat) : dOk (digs n) := by
  induction n using Nat.strongRecOn with
  | _ n ih =>
    by_cases h : n = 0
    · subst h; rw [digs_zero]; exact dOk_nil
    · rw [digs_pos h, dOk_cons]
      exact ⟨by omega, ih _ (by omega)⟩
theorem val_digs (n : Nat) : val (digs n) = n := by
  induction n using Nat.strongRecOn with
  | _ n ih =>
    by_cases h : n = 0
    · subst h; rw [digs_zero]; rfl
    · rw [digs_pos h, val, ih _ (by omega)]
      omega
theorem digs_eq_nil {n : Nat} : digs n = [] ↔ n = 0 := by
  constructor
  · intro h
    have := val_digs n
    rw [h] at this
    simp only [val] at this
    omega
  · rintro rfl; exact digs_zero
theorem topOk_cons {d : Int} {l : List Int} (h : topOk (d :: l)) : topOk l := by
  unfold topOk at h ⊢
  cases l with
  | nil => simp
  | cons e l => rwa [List.getLast?_cons_cons] at h
theorem digs_top (n : Nat) : topOk (digs n) := by
  induction n using Nat.strongRecOn with
  | _ n ih =>
    by_cases h : n = 0
    · subst h; rw [digs_zero]; simp [topOk]
    · rw [digs_pos h]
      by_cases h2 : n / 10000 = 0
      · rw [h2, digs_zero]; unfold topOk; simp; omega
      · have := ih (n / 10000) (by omega)
        rw [digs_pos h2] at this ⊢
        unfold topOk at this ⊢
        rwa [List.getLast?_cons_cons]
/-- Digits without a leading zero are those of their value. -/
theorem digs_val {l : List Int} (h : dOk l) (ht : topOk l) : digs (val l).toNat = l := by
  induction l with
  | nil => exact digs_zero
  | cons d l ih =>
    obtain ⟨h1, h2⟩ := dOk_cons.1 h
    have hb := val_bd h2
    have hi := ih h2 (topOk_cons ht)
    have hne : (val (d :: l)).toNat ≠ 0 := by
      intro h0
      simp only [val] at h0
      have hd : d = 0 := by omega
      have hv : val l = 0 := by omega
      rw [hv] at hi
      have hl : l = [] := hi.symm.trans digs_zero
      subst hl; subst hd
      exact ht rfl
    rw [digs_pos hne]
    simp only [val] at hne ⊢
    have e1 : ((d + 10000 * val l).toNat / 10000) = (val l).toNat := by omega
    have e2 : (((d + 10000 * val l).toNat % 10000 : Nat) : Int) = d := by omega
    rw [e1, e2, hi]
theorem topOk_snoc {l : List Int} {d : Int} (h : d ≠ 0) : topOk (l ++ [d]) := by
  unfold topOk; simp [h]
theorem val_top {l : List Int} (h : dOk l) (ht : topOk l) (hn : l ≠ []) : pw (l.length - 1) ≤ val l := by
  induction l with
  | nil => exact absurd rfl hn
  | cons d l ih =>
    obtain ⟨h1, h2⟩ := dOk_cons.1 h
    cases l with
    | nil =>
      unfold topOk at ht
      simp [val, pw] at ht ⊢
      omega
    | cons e l =>
      have := ih h2 (topOk_cons ht) (by simp)
      simp only [List.length_cons, Nat.add_sub_cancel] at this ⊢
      rw [pw_succ, val]
      omega
theorem digs_len_le {n k : Nat} (h : (n : Int) < pw k) : (digs n).length ≤ k := by
  by_cases hn : n = 0
  · subst hn; rw [digs_zero]; simp
  · have hne : digs n ≠ [] := fun h => hn (digs_eq_nil.1 h)
    have h1 := val_top (digs_ok n) (digs_top n) hne
    rw [val_digs] at h1
    refine Nat.le_of_not_lt fun hlt => ?_
    have := pw_mono (show k ≤ (digs n).length - 1 by omega)
    omega
theorem digs_len_lt {n k : Nat} (h : (digs n).length ≤ k) : (n : Int) < pw k := by
  have h1 := (val_bd (digs_ok n)).2
  rw [val_digs] at h1
  have := pw_mono h
  omega
theorem digs_one {n : Nat} (h0 : 0 < n) (h : n < 10000) : digs n = [(n : Int)] := by
  rw [digs_pos (by omega), show n / 10000 = 0 by omega, digs_zero, Nat.mod_eq_of_lt h]

/-! ### Signed numbers -/

/-- Valid: a number in its only form, at most 200 digits. -/
def validB (neg : Bool) (l : List Int) : Bool := decide (l.length ≤ 200) && (l.isEmpty && !neg || !l.isEmpty && l.getLast? != some 0) && l.all fun d => decide (0 ≤ d) && decide (d < 10000)
/-- What a number counts as. -/
def zOf (neg : Bool) (l : List Int) : Int := if validB neg l then (if neg then - val l else val l) else 0
/-- The form of a number. -/
def nOf (z : Int) : Bool := decide (z < 0)
def lOf (z : Int) : List Int := digs z.natAbs
/-- A number has room. -/
def fitB (z : Int) : Bool := decide ((lOf z).length ≤ 200)
/-- The number that counts where there is room. -/
def fitZ (z : Int) : Int := if fitB z then z else 0

theorem validB_iff {neg : Bool} {l : List Int} : validB neg l = true ↔ l.length ≤ 200 ∧ (l = [] → neg = false) ∧ topOk l ∧ dOk l := by
  unfold validB topOk dOk
  cases l with
  | nil => cases neg <;> simp
  | cons d l => simp [and_assoc]
theorem lOf_zero : lOf 0 = [] := digs_zero
theorem nOf_zero : nOf 0 = false := rfl
theorem lOf_neg (z : Int) : lOf (-z) = lOf z := by unfold lOf; rw [Int.natAbs_neg]
theorem lOf_nat (n : Nat) : lOf (n : Int) = digs n := rfl
theorem lOf_of {z : Int} (h : 0 ≤ z) : lOf z = digs z.toNat := by unfold lOf; congr 1; omega
theorem val_lOf (z : Int) : val (lOf z) = z.natAbs := val_digs _
theorem lOf_nil {z : Int} : lOf z = [] ↔ z = 0 := by unfold lOf; rw [digs_eq_nil]; omega
theorem lOf_ok (z : Int) : dOk (lOf z) := digs_ok _
theorem lOf_top (z : Int) : topOk (lOf z) := digs_top _
theorem valid_lOf {z : Int} (h : fitB z = true) : validB (nOf z) (lOf z) = true := by
  rw [validB_iff]
  refine ⟨of_decide_eq_true h, fun h => ?_, lOf_top z, lOf_ok z⟩
  rw [lOf_nil] at h; subst h; rfl
theorem zOf_lOf {z : Int} (h : fitB z = true) : zOf (nOf z) (lOf z) = z := by
  unfold zOf
  rw [if_pos (valid_lOf h), val_lOf]
  unfold nOf
  by_cases hz : z < 0
  · simp [hz]; omega
  · simp [hz]; omega
theorem validB_lOf (z : Int) : validB (nOf z) (lOf z) = fitB z := by
  cases h : fitB z with
  | true => exact valid_lOf h
  | false =>
    have h1 : ¬ (lOf z).length ≤ 200 := of_decide_eq_false h
    unfold validB
    simp [h1]
/-- A valid number is the form of what it counts as. -/
theorem form_of_valid {neg : Bool} {l : List Int} (h : validB neg l = true) : neg = nOf (zOf neg l) ∧ l = lOf (zOf neg l) ∧ fitB (zOf neg l) = true := by
  obtain ⟨h1, h2, h3, h4⟩ := validB_iff.1 h
  have hd := digs_val h4 h3
  have hb := (val_bd h4).1
  have hl : l = lOf (zOf neg l) := by
    unfold zOf lOf
    rw [if_pos h]
    conv => lhs; rw [← hd]
    congr 1
    cases neg <;> simp <;> omega
  refine ⟨?_, hl, ?_⟩
  · unfold zOf nOf
    rw [if_pos h]
    cases neg with
    | false => simp; omega
    | true =>
      have hne : l ≠ [] := fun e => by have := h2 e; cases this
      have := val_top h4 h3 hne
      have := pw_pos (l.length - 1)
      simp; omega
  · unfold fitB
    rw [← hl]
    exact decide_eq_true h1
theorem zOf_invalid {neg : Bool} {l : List Int} (h : validB neg l = false) : zOf neg l = 0 := by unfold zOf; rw [h]; rfl
theorem fit_zero : fitB 0 = true := by unfold fitB; rw [lOf_zero]; decide
theorem fit_zOf (neg : Bool) (l : List Int) : fitB (zOf neg l) = true := by
  cases h : validB neg l with
  | true => exact (form_of_valid h).2.2
  | false => rw [zOf_invalid h]; exact fit_zero
theorem fitB_iff {z : Int} : fitB z = true ↔ (z.natAbs : Int) < pw 200 := by
  unfold fitB lOf
  rw [decide_eq_true_iff]
  exact ⟨digs_len_lt, digs_len_le⟩
theorem fitB_neg (z : Int) : fitB (-z) = fitB z := by unfold fitB; rw [lOf_neg]
theorem fit_fitZ (z : Int) : fitB (fitZ z) = true := by
  unfold fitZ
  split
  · assumption
  · exact fit_zero
theorem fitZ_of {z : Int} (h : fitB z = true) : fitZ z = z := if_pos h
theorem fitZ_not {z : Int} (h : fitB z = false) : fitZ z = 0 := by unfold fitZ; rw [h]; rfl

/-! ### Comparison -/
def cmpI (a b : Int) : Int := if a < b then -1 else if b < a then 1 else 0
theorem cmpI_lt {a b : Int} (h : a < b) : cmpI a b = -1 := if_pos h
theorem cmpI_gt {a b : Int} (h : b < a) : cmpI a b = 1 := by unfold cmpI; rw [if_neg (by omega), if_pos h]
theorem cmpI_eq {a b : Int} (h : a = b) : cmpI a b = 0 := by unfold cmpI; rw [if_neg (by omega), if_neg (by omega)]
theorem val_lt_len {a b : List Int} (ha : dOk a) (hb : dOk b) (tb : topOk b) (h : a.length < b.length) : val a < val b := by
  have h1 := (val_bd ha).2
  have h2 := val_top hb tb (fun e => by subst e; simp at h)
  have := pw_mono (show a.length ≤ b.length - 1 by omega)
  omega
theorem val_lt_at {a b : List Int} {k : Nat} (ha : dOk a) (hb : dOk b) (hl : a.length = b.length) (hk : k < a.length) (hd : a.drop (k + 1) = b.drop (k + 1)) (h : a[k] < b[k]'(by omega)) : val a < val b := by
  have e1 := val_split a k (by omega)
  have e2 := val_split b k (by omega)
  rw [List.drop_eq_getElem_cons (by omega), val] at e1 e2
  rw [hd] at e1
  have b1 := val_bd (dOk_take ha k)
  have b2 := val_bd (dOk_take hb k)
  rw [List.length_take, Nat.min_eq_left (by omega)] at b1 b2
  have p := pw_pos k
  have : pw k * (a[k] + 10000 * val (b.drop (k + 1))) + pw k ≤ pw k * (b[k]'(by omega) + 10000 * val (b.drop (k + 1))) := by
    have := Int.mul_le_mul_of_nonneg_left (show a[k] + 10000 * val (b.drop (k + 1)) + 1 ≤ (b[k]'(by omega)) + 10000 * val (b.drop (k + 1)) by omega) (show 0 ≤ pw k by omega)
    rw [Int.mul_add, Int.mul_one] at this
    exact this
  omega

/-! ### The estimate of a quotient's digit -/
/-- The three leading digits of the divisor give a digit or one more. -/
theorem est_bd {P B R : Int} (hR : 0 < R) (_hP : 0 ≤ P) (hB : 0 < B) (hPB : P < 10000 * B) (hlead : R = 1 ∨ 100000000 ≤ B / R) :
    0 ≤ (P / R) / (B / R) ∧ (P / R) / (B / R) ≤ 10000 ∧ 0 < B / R ∧ -B ≤ P - (P / R) / (B / R) * B ∧ P - (P / R) / (B / R) * B < B := by
  have b1 : B / R * R ≤ B := Int.ediv_mul_le B (by omega)
  have b2 : B < (B / R + 1) * R := Int.lt_ediv_add_one_mul_self B hR
  have p1 : P / R * R ≤ P := Int.ediv_mul_le P (by omega)
  have p2 : P < (P / R + 1) * R := Int.lt_ediv_add_one_mul_self P hR
  have hb0 : 0 < B / R := by
    rcases hlead with rfl | h
    · rw [Int.ediv_one]; exact hB
    · omega
  have hp0 : 0 ≤ P / R := Int.ediv_nonneg _hP (by omega)
  generalize hx : B / R = x at *
  generalize hy : P / R = y at *
  have q1 : y / x * x ≤ y := Int.ediv_mul_le y (by omega)
  have q2 : y < (y / x + 1) * x := Int.lt_ediv_add_one_mul_self y hb0
  have q0 : 0 ≤ y / x := Int.ediv_nonneg hp0 (by omega)
  generalize hq : y / x = q at *
  -- not too small: P < (q + 1) B
  have lo : P < (q + 1) * B := by
    have h1 : y + 1 ≤ (q + 1) * x := by omega
    have h2 : (y + 1) * R ≤ (q + 1) * x * R := Int.mul_le_mul_of_nonneg_right h1 (by omega)
    have h3 : (q + 1) * (x * R) ≤ (q + 1) * B := Int.mul_le_mul_of_nonneg_left b1 (by omega)
    rw [Int.mul_assoc] at h2
    omega
  rw [Int.add_mul, Int.one_mul] at lo
  -- not too great
  have hi : q * B ≤ P + B ∧ q ≤ 10000 := by
    rcases hlead with rfl | h
    · rw [Int.ediv_one] at hx hy
      subst hx; subst hy
      refine ⟨by omega, ?_⟩
      refine Int.not_lt.1 fun hlt => ?_
      have : 10001 * B ≤ q * B := Int.mul_le_mul_of_nonneg_right (by omega) (by omega)
      omega
    · have hqx : q ≤ 20000 := by
        refine Int.not_lt.1 fun hlt => ?_
        have c1 : 20001 * x ≤ q * x := Int.mul_le_mul_of_nonneg_right (by omega) (by omega)
        have c2 : 10000 * B < 10000 * ((x + 1) * R) := by omega
        have c3 : y * R < 10000 * (x + 1) * R := by rw [Int.mul_assoc]; omega
        have c4 : y < 10000 * (x + 1) := Int.lt_of_mul_lt_mul_right c3 (by omega)
        omega
      have d1 : q * x * R ≤ y * R := Int.mul_le_mul_of_nonneg_right q1 (by omega)
      have d2 : q * B ≤ q * ((x + 1) * R) := Int.mul_le_mul_of_nonneg_left (by omega) q0
      have d3 : q * R ≤ x * R := Int.mul_le_mul_of_nonneg_right (by omega) (by omega)
      rw [Int.add_mul, Int.one_mul, Int.mul_add] at d2
      rw [Int.mul_assoc] at d1
      have d4 : q * B ≤ P + B := by omega
      refine ⟨d4, ?_⟩
      refine Int.not_lt.1 fun hlt => ?_
      have : 10001 * B ≤ q * B := Int.mul_le_mul_of_nonneg_right (by omega) (by omega)
      omega
  refine ⟨q0, hi.2, hb0, by omega, by omega⟩

end Go.Proofs.YtegognbnphpigaaDoor
