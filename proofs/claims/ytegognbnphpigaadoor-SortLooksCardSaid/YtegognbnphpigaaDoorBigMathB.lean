/-
  Plain facts on the steps of long addition, multiplication and division on digits to the base 10000. No program in sight.
-/
import Derived.Test.YtegognbnphpigaaDoorBigMath
namespace Go.Proofs.YtegognbnphpigaaDoor

theorem take_succ_at (l : List Int) {k : Nat} (h : k < l.length) : l.take (k + 1) = l.take k ++ [l[k]] := by
  rw [List.take_succ_eq_append_getElem h]
theorem val_one (d : Int) : val [d] = d := by simp [val]
theorem val_snoc (l : List Int) (d : Int) : val (l ++ [d]) = val l + pw l.length * d := by rw [val_app, val_one]
theorem val_take_succ (l : List Int) (k : Nat) : val (l.take (k + 1)) = val (l.take k) + pw k * l.getD k 0 := by
  by_cases h : k < l.length
  · rw [take_succ_at l h, val_snoc, List.length_take, Nat.min_eq_left (by omega)]
    simp [List.getD, h]
  · rw [List.take_of_length_le (by omega), List.take_of_length_le (by omega)]
    simp [List.getD, show l.length ≤ k by omega]
theorem take_set_self (l : List Int) (k : Nat) (d : Int) : (l.set k d).take k = l.take k := by
  rw [List.take_set, List.set_eq_of_length_le (by rw [List.length_take]; omega)]
theorem drop_set_succ (l : List Int) (k : Nat) (d : Int) : (l.set k d).drop (k + 1) = l.drop (k + 1) := by
  rw [List.drop_set, if_pos (by omega)]
theorem getD_drop_eq {a b : List Int} {k : Nat} (h : a.drop k = b.drop k) : a.getD k 0 = b.getD k 0 := by
  have : (a.drop k)[0]? = (b.drop k)[0]? := by rw [h]
  rw [List.getElem?_drop, List.getElem?_drop] at this
  simp only [Nat.add_zero] at this
  unfold List.getD; rw [this]
theorem drop_succ_of {a b : List Int} {k : Nat} (h : a.drop k = b.drop k) : a.drop (k + 1) = b.drop (k + 1) := by
  rw [← List.drop_drop, ← List.drop_drop, h]
theorem dOk_set {l : List Int} (h : dOk l) (k : Nat) {d : Int} (h0 : 0 ≤ d) (h1 : d < 10000) : dOk (l.set k d) := fun x hx => by
  rcases List.mem_or_eq_of_mem_set hx with hx | rfl
  · exact h x hx
  · exact ⟨h0, h1⟩
theorem dOk_getD {l : List Int} (h : dOk l) (k : Nat) : 0 ≤ l.getD k 0 ∧ l.getD k 0 < 10000 := by
  by_cases hk : k < l.length
  · have := dOk_at h hk; simp [List.getD, hk]; omega
  · simp [List.getD, show l.length ≤ k by omega]
theorem dOk_snoc {l : List Int} (h : dOk l) {d : Int} (h0 : 0 ≤ d) (h1 : d < 10000) : dOk (l ++ [d]) := dOk_app.2 ⟨h, dOk_cons.2 ⟨⟨h0, h1⟩, dOk_nil⟩⟩

/-! ### Adding a multiple, in place -/
/-- After k places: M is the list as it stands, c what is carried. -/
structure AddAt (l b : List Int) (n : Int) (k : Nat) (M : List Int) (c : Int) : Prop where
  len : M.length = l.length
  rest : M.drop k = l.drop k
  ok : dOk M
  eq : val (M.take k) + pw k * c = val (l.take k) + n * val (b.take k)
  lo : -10001 ≤ c
  hi : c ≤ 10001
theorem AddAt.start {l b : List Int} {n : Int} (h : dOk l) : AddAt l b n 0 l 0 := ⟨rfl, rfl, h, by simp [val], by omega, by omega⟩
/-- What comes together at a place. -/
def place (M b : List Int) (n : Int) (k : Nat) (c : Int) : Int := M.getD k 0 + c + n * b.getD k 0
theorem mul_digit {n d : Int} (h1 : -10000 ≤ n) (h2 : n ≤ 10000) (d0 : 0 ≤ d) (d1 : d < 10000) : -99990000 ≤ n * d ∧ n * d ≤ 99990000 := by
  have a1 : n * d ≤ 10000 * d := Int.mul_le_mul_of_nonneg_right h2 d0
  have a2 : -10000 * d ≤ n * d := Int.mul_le_mul_of_nonneg_right h1 d0
  omega
theorem AddAt.step {l b M : List Int} {n c : Int} {k : Nat} (h : AddAt l b n k M c) (hb : dOk b) (h1 : -10000 ≤ n) (h2 : n ≤ 10000) (hk : k < l.length) :
    AddAt l b n (k + 1) (M.set k (place M b n k c % 10000)) (place M b n k c / 10000) := by
  have hm := dOk_getD h.ok k
  have hd := dOk_getD hb k
  have hp := mul_digit h1 h2 hd.1 hd.2
  have := h.lo
  have := h.hi
  have hlen := h.len
  generalize hP : place M b n k c = p
  have hP' : p = M.getD k 0 + c + n * b.getD k 0 := hP.symm
  refine ⟨by rw [List.length_set]; exact h.len, by rw [drop_set_succ]; exact drop_succ_of h.rest, dOk_set h.ok k (by omega) (by omega), ?_, by omega, by omega⟩
  have e1 : val ((M.set k (p % 10000)).take (k + 1)) = val (M.take k) + pw k * (p % 10000) := by
    rw [val_take_succ, take_set_self]
    congr 2
    simp [List.getD, show k < M.length by omega]
  rw [e1, val_take_succ l, val_take_succ b, ← getD_drop_eq h.rest, pw_succ]
  have e2 := h.eq
  have e3 : pw k * (p % 10000) + 10000 * pw k * (p / 10000) = pw k * p := by
    have : p = p % 10000 + 10000 * (p / 10000) := by omega
    conv => rhs; rw [this, Int.mul_add]
    rw [← Int.mul_assoc, Int.mul_comm (pw k) 10000]
  have e4 : pw k * p = pw k * M.getD k 0 + pw k * c + n * (pw k * b.getD k 0) := by
    rw [hP', Int.mul_add, Int.mul_add, Int.mul_left_comm (pw k) n]
  rw [Int.mul_add]
  omega
theorem AddAt.done {l b M : List Int} {n c : Int} (h : AddAt l b n l.length M c) (hb : b.length ≤ l.length) : val M + pw l.length * c = val l + n * val b := by
  have := h.eq
  rwa [List.take_of_length_le (by rw [h.len]; omega), List.take_of_length_le (Nat.le_refl _), List.take_of_length_le hb] at this
theorem AddAt.place_bd {l b M : List Int} {n c : Int} {k : Nat} (h : AddAt l b n k M c) (hb : dOk b) (h1 : -10000 ≤ n) (h2 : n ≤ 10000) :
    -100000001 ≤ place M b n k c ∧ place M b n k c ≤ 100010000 := by
  have hm := dOk_getD h.ok k
  have hd := dOk_getD hb k
  have hp := mul_digit h1 h2 hd.1 hd.2
  have := h.lo
  have := h.hi
  unfold place
  omega

/-! ### A window of a list -/
theorem val_three {l a m z : List Int} (h : l = a ++ m ++ z) : val l = val a + pw a.length * val m + pw (a.length + m.length) * val z := by
  rw [h, val_app, val_app, List.length_append]

/-- After i digits of a: the product of those with b stands in O. -/
structure MulAt (a b : List Int) (i : Nat) (O : List Int) : Prop where
  len : O.length = a.length + b.length
  ok : dOk O
  eq : val O = val (a.take i) * val b
theorem MulAt.start (a b : List Int) : MulAt a b 0 (List.replicate (a.length + b.length) 0) := ⟨by simp, dOk_rep _, by rw [val_rep]; simp [val]⟩
theorem pw_split_lt {i j : Nat} {x y : Int} (hx : x < pw i) (hy : y < pw j) (h0 : 0 ≤ x) : x * y < pw (i + j) := by
  rw [pw_add]
  have a1 : x * y ≤ x * pw j := Int.mul_le_mul_of_nonneg_left (by omega) h0
  have a2 : x * pw j < pw i * pw j := Int.mul_lt_mul_of_pos_right hx (pw_pos j)
  omega
theorem mul_lt_of {p x y : Int} (hp : 0 < p) (h : p * x < p * y) : x < y := Int.lt_of_mul_lt_mul_left h (by omega)
theorem MulAt.step {a b O W : List Int} {i : Nat} {c : Int} (h : MulAt a b i O) (ha : dOk a) (hb : dOk b) (hi : i < a.length) (hW : dOk W) (hl : W.length = b.length + 1)
    (he : val W + pw (b.length + 1) * c = val ((O.drop i).take (b.length + 1)) + a.getD i 0 * val b) :
    MulAt a b (i + 1) (O.take i ++ W ++ O.drop (i + (b.length + 1))) := by
  have hlen := h.len
  have hO : O = O.take i ++ (O.drop i).take (b.length + 1) ++ O.drop (i + (b.length + 1)) := by
    rw [List.append_assoc, ← List.drop_drop, List.take_append_drop, List.take_append_drop]
  have l1 : (O.take i).length = i := by rw [List.length_take]; omega
  have l2 : ((O.drop i).take (b.length + 1)).length = b.length + 1 := by rw [List.length_take, List.length_drop]; omega
  have v1 := val_three hO
  rw [l1, l2] at v1
  have v2 := val_three (l := O.take i ++ W ++ O.drop (i + (b.length + 1))) rfl
  rw [l1, hl] at v2
  have bB := val_bd hb
  have bA := val_bd (dOk_take ha i)
  rw [List.length_take, Nat.min_eq_left (by omega)] at bA
  have b1 := val_bd (dOk_take h.ok i)
  have b2 := val_bd (dOk_take (dOk_drop h.ok i) (b.length + 1))
  have b3 := val_bd (dOk_drop h.ok (i + (b.length + 1)))
  have bW := val_bd hW
  rw [hl] at bW
  have bD := dOk_getD ha i
  have lt := pw_split_lt bA.2 bB.2 bA.1
  rw [← h.eq] at lt
  have nn : 0 ≤ pw (i + (b.length + 1)) * val (O.drop (i + (b.length + 1))) := Int.mul_nonneg (Int.le_of_lt (pw_pos _)) b3.1
  have wlt : val ((O.drop i).take (b.length + 1)) < pw b.length := by
    refine mul_lt_of (pw_pos i) ?_
    rw [pw_add] at lt
    omega
  have dl : a.getD i 0 * val b ≤ 9999 * val b := Int.mul_le_mul_of_nonneg_right (by omega) bB.1
  have dn : 0 ≤ a.getD i 0 * val b := Int.mul_nonneg bD.1 bB.1
  have hc : c = 0 := by
    rw [pw_succ] at he bW
    have p := pw_pos b.length
    rcases Int.lt_trichotomy c 0 with h0 | h0 | h0
    · have : 10000 * pw b.length * c ≤ 10000 * pw b.length * (-1) := Int.mul_le_mul_of_nonneg_left (by omega) (by omega)
      omega
    · exact h0
    · have : 10000 * pw b.length * 1 ≤ 10000 * pw b.length * c := Int.mul_le_mul_of_nonneg_left (by omega) (by omega)
      omega
  subst hc
  refine ⟨by simp only [List.length_append, l1, hl, List.length_drop]; omega, dOk_app.2 ⟨dOk_app.2 ⟨dOk_take h.ok i, hW⟩, dOk_drop h.ok _⟩, ?_⟩
  have e1 := h.eq
  rw [v2, val_take_succ, Int.add_mul, ← e1, v1]
  have e2 : val W = val ((O.drop i).take (b.length + 1)) + a.getD i 0 * val b := by omega
  rw [e2, Int.mul_add, Int.mul_assoc]
  omega
theorem MulAt.done {a b O : List Int} (h : MulAt a b a.length O) : val O = val a * val b := by
  have := h.eq
  rwa [List.take_of_length_le (Nat.le_refl _)] at this

/-! ### Long division -/
theorem val_drop {l : List Int} (h : dOk l) {s : Nat} (hs : s ≤ l.length) : val (l.drop s) = val l / pw s := by
  have e := val_split l s hs
  have b := val_bd (dOk_take h s)
  rw [List.length_take, Nat.min_eq_left hs] at b
  rw [e, Int.add_mul_ediv_left _ _ (by have := pw_pos s; omega), Int.ediv_eq_zero_of_lt b.1 b.2]
  omega
theorem est_of {W b : List Int} (hW : dOk W) (hb : dOk b) (tb : topOk b) (hn : b ≠ []) (hl : W.length = b.length + 1) (hlt : val W < 10000 * val b) :
    0 ≤ val (W.drop (b.length - 3)) / val (b.drop (b.length - 3)) ∧ val (W.drop (b.length - 3)) / val (b.drop (b.length - 3)) ≤ 10000 ∧ 0 < val (b.drop (b.length - 3)) ∧
    -val b ≤ val W - val (W.drop (b.length - 3)) / val (b.drop (b.length - 3)) * val b ∧ val W - val (W.drop (b.length - 3)) / val (b.drop (b.length - 3)) * val b < val b := by
  rw [val_drop hW (by omega), val_drop hb (by omega)]
  have bW := val_bd hW
  have tB := val_top hb tb hn
  have hl1 : 1 ≤ b.length := by cases b; exact absurd rfl hn; simp
  have p1 := pw_pos (b.length - 1)
  refine est_bd (pw_pos _) bW.1 (by omega) hlt ?_
  by_cases h3 : b.length ≤ 3
  · left; rw [show b.length - 3 = 0 by omega]; rfl
  · right
    have e : b.length - 1 = b.length - 3 + 2 := by omega
    rw [e, pw_add] at tB
    have : pw 2 = 100000000 := rfl
    rw [this] at tB
    have p3 := pw_pos (b.length - 3)
    exact Int.le_ediv_of_mul_le p3 (by rw [Int.mul_comm]; exact tB)

/-- Before the digit j - 1 of the quotient: Q the quotient so far, R the rest. -/
structure DivAt (a b : List Int) (j : Nat) (Q R : List Int) : Prop where
  lq : Q.length = a.length + 1 - b.length
  lr : R.length = a.length + 1
  hj : j ≤ a.length + 1 - b.length
  okq : dOk Q
  okr : dOk R
  zero : Q.take j = List.replicate j 0
  eq : val a = val Q * val b + val R
  lt : val R < val b * pw j
theorem DivAt.start {a b : List Int} (ha : dOk a) (hb : dOk b) (tb : topOk b) (hn : b ≠ []) :
    DivAt a b (a.length + 1 - b.length) (List.replicate (a.length + 1 - b.length) 0) (a ++ [0]) := by
  have bA := val_bd ha
  have tB := val_top hb tb hn
  have hl1 : 1 ≤ b.length := by cases b; exact absurd rfl hn; simp
  refine ⟨by simp, by simp, Nat.le_refl _, dOk_rep _, dOk_snoc ha (by omega) (by omega), by simp, by rw [val_rep, val_snoc]; omega, ?_⟩
  rw [val_snoc]
  have a1 : pw (b.length - 1) * pw (a.length + 1 - b.length) ≤ val b * pw (a.length + 1 - b.length) := Int.mul_le_mul_of_nonneg_right tB (Int.le_of_lt (pw_pos _))
  rw [← pw_add] at a1
  have := pw_mono (show a.length ≤ b.length - 1 + (a.length + 1 - b.length) by omega)
  omega
/-- The window before a step is less than the base times the divisor. -/
theorem DivAt.win {a b Q R : List Int} {i : Nat} (h : DivAt a b (i + 1) Q R) (hb : dOk b) :
    ((R.drop i).take (b.length + 1)).length = b.length + 1 ∧ dOk ((R.drop i).take (b.length + 1)) ∧ val ((R.drop i).take (b.length + 1)) < 10000 * val b ∧
    val R = val (R.take i) + pw i * val ((R.drop i).take (b.length + 1)) ∧ val (R.drop (i + (b.length + 1))) = 0 ∧ (R.take i).length = i := by
  have hlr := h.lr
  have hj := h.hj
  have hR : R = R.take i ++ (R.drop i).take (b.length + 1) ++ R.drop (i + (b.length + 1)) := by
    rw [List.append_assoc, ← List.drop_drop, List.take_append_drop, List.take_append_drop]
  have l1 : (R.take i).length = i := by rw [List.length_take]; omega
  have l2 : ((R.drop i).take (b.length + 1)).length = b.length + 1 := by rw [List.length_take, List.length_drop]; omega
  have v1 := val_three hR
  rw [l1, l2] at v1
  have b1 := val_bd (dOk_take h.okr i)
  have b2 := val_bd (dOk_take (dOk_drop h.okr i) (b.length + 1))
  have b3 := val_bd (dOk_drop h.okr (i + (b.length + 1)))
  have bB := val_bd hb
  have lt := h.lt
  have pi := pw_pos i
  have z : val (R.drop (i + (b.length + 1))) = 0 := by
    refine Int.le_antisymm (Int.not_lt.1 fun hz => ?_) b3.1
    have a1 : pw (i + (b.length + 1)) * 1 ≤ pw (i + (b.length + 1)) * val (R.drop (i + (b.length + 1))) := Int.mul_le_mul_of_nonneg_left (by omega) (Int.le_of_lt (pw_pos _))
    have a2 : val b * pw (i + 1) ≤ pw b.length * pw (i + 1) := Int.mul_le_mul_of_nonneg_right (by omega) (Int.le_of_lt (pw_pos _))
    rw [← pw_add, show b.length + (i + 1) = i + (b.length + 1) by omega] at a2
    have a3 : 0 ≤ pw i * val ((R.drop i).take (b.length + 1)) := Int.mul_nonneg (Int.le_of_lt pi) b2.1
    omega
  rw [z, Int.mul_zero, Int.add_zero] at v1
  refine ⟨l2, dOk_take (dOk_drop h.okr i) _, ?_, v1, z, l1⟩
  refine mul_lt_of pi ?_
  rw [pw_succ, ← Int.mul_assoc] at lt
  have : pw i * (10000 * val b) = val b * 10000 * pw i := by rw [Int.mul_comm, Int.mul_comm 10000]
  omega
theorem DivAt.step {a b Q R W : List Int} {i : Nat} {q : Int} (h : DivAt a b (i + 1) Q R) (hb : dOk b) (hq0 : 0 ≤ q) (hq1 : q < 10000) (hW : dOk W) (hl : W.length = b.length + 1)
    (he : val W = val ((R.drop i).take (b.length + 1)) - q * val b) (hlt : val W < val b) :
    DivAt a b i (Q.set i q) (R.take i ++ W ++ R.drop (i + (b.length + 1))) := by
  obtain ⟨l2, _, _, v1, z, l1⟩ := h.win hb
  have hj := h.hj
  have hlq := h.lq
  have hlr := h.lr
  have v2 := val_three (l := R.take i ++ W ++ R.drop (i + (b.length + 1))) rfl
  rw [l1, hl, z, Int.mul_zero, Int.add_zero] at v2
  have b1 := val_bd (dOk_take h.okr i)
  rw [l1] at b1
  have pi := pw_pos i
  have hQ : val (Q.set i q) = val Q + pw i * q := by
    have s1 := val_split (Q.set i q) (i + 1) (by rw [List.length_set]; omega)
    have s2 := val_split Q (i + 1) (by omega)
    rw [drop_set_succ, val_take_succ, take_set_self] at s1
    rw [h.zero, val_rep] at s2
    have z0 : Q.take i = List.replicate i 0 := by
      have := congrArg (List.take i) h.zero
      rwa [List.take_take, Nat.min_eq_left (by omega), List.take_replicate, Nat.min_eq_left (by omega)] at this
    rw [z0, val_rep] at s1
    have g : (Q.set i q).getD i 0 = q := by simp [List.getD, show i < Q.length by omega]
    rw [g] at s1
    omega
  refine ⟨by rw [List.length_set]; exact hlq, by simp only [List.length_append, l1, hl, List.length_drop]; omega, by omega, dOk_set h.okq i hq0 hq1, dOk_app.2 ⟨dOk_app.2 ⟨dOk_take h.okr i, hW⟩, dOk_drop h.okr _⟩, ?_, ?_, ?_⟩
  · rw [take_set_self]
    have := congrArg (List.take i) h.zero
    rwa [List.take_take, Nat.min_eq_left (by omega), List.take_replicate, Nat.min_eq_left (by omega)] at this
  · rw [hQ, v2, he, h.eq, v1, Int.add_mul, Int.mul_sub, ← Int.mul_assoc]
    omega
  · rw [v2]
    have : pw i * (val W + 1) ≤ pw i * val b := Int.mul_le_mul_of_nonneg_left (by omega) (by omega)
    rw [Int.mul_add, Int.mul_one, Int.mul_comm (pw i) (val b)] at this
    omega
theorem div_done {A B Q R : Int} (h : A = Q * B + R) (h0 : 0 ≤ R) (h1 : R < B) : Q = A / B ∧ R = A % B := by
  have hb : B ≠ 0 := by omega
  have e1 : A / B = Q := by
    rw [h, Int.add_comm, Int.add_mul_ediv_right _ _ hb, Int.ediv_eq_zero_of_lt h0 h1]; omega
  have e2 : A % B = R := by
    rw [h, Int.add_comm, Int.add_mul_emod_self_right, Int.emod_eq_of_lt h0 h1]
  exact ⟨e1.symm, e2.symm⟩
theorem DivAt.done {a b Q R : List Int} (h : DivAt a b 0 Q R) : val Q = val a / val b ∧ val R = val a % val b := by
  have lt := h.lt
  rw [pw_zero, Int.mul_one] at lt
  exact div_done h.eq (val_bd h.okr).1 lt
/-- Two additions in a window. -/
theorem win_eq {x c v m : Int} (h : x + m * c = v) (x0 : 0 ≤ x) (x1 : x < m) (v0 : 0 ≤ v) (v1 : v < m) : x = v ∧ c = 0 := by
  have hc : c = 0 := by
    rcases Int.lt_trichotomy c 0 with h0 | h0 | h0
    · have : m * c ≤ m * (-1) := Int.mul_le_mul_of_nonneg_left (by omega) (by omega)
      omega
    · exact h0
    · have : m * 1 ≤ m * c := Int.mul_le_mul_of_nonneg_left (by omega) (by omega)
      omega
  subst hc
  omega
theorem carry_neg {x c v m : Int} (h : x + m * c = v) (x0 : 0 ≤ x) (x1 : x < m) : (c < 0 ↔ v < 0) := by
  constructor
  · intro hc
    have : m * c ≤ m * (-1) := Int.mul_le_mul_of_nonneg_left (by omega) (by omega)
    omega
  · intro hv
    refine Int.not_le.1 fun hc => ?_
    have : m * 0 ≤ m * c := Int.mul_le_mul_of_nonneg_left hc (by omega)
    omega
end Go.Proofs.YtegognbnphpigaaDoor
