/-
  Plain facts on decimal texts of numbers of any size, four places a digit. No program in sight.
-/
import Derived.Lib.ItoaNum
import Derived.Lib.ItoaLen
import Derived.Lib.Strings
import Derived.Test.YtfenmogbellhdaaDoorBigMathB
namespace Go.Proofs.YtfenmogbellhdaaDoor
open Go

theorem dec_small {u : Nat} (h : u < 10) : Lib.decDigits u = [UInt8.ofNat (48 + u)] := by rw [Lib.decDigits, dif_pos h]
theorem dec_big {u : Nat} (h : 10 ≤ u) : Lib.decDigits u = Lib.decDigits (u / 10) ++ [UInt8.ofNat (48 + u % 10)] := by rw [Lib.decDigits, dif_neg (by omega)]
/-- The four places of a digit. -/
def pad4 (d : Nat) : List UInt8 := [UInt8.ofNat (48 + d / 1000), UInt8.ofNat (48 + d / 100 % 10), UInt8.ofNat (48 + d / 10 % 10), UInt8.ofNat (48 + d % 10)]
theorem dec_pad {v d : Nat} (hv : 0 < v) (hd : d < 10000) : Lib.decDigits (d + 10000 * v) = Lib.decDigits v ++ pad4 d := by
  rw [dec_big (by omega), dec_big (u := (d + 10000 * v) / 10) (by omega), dec_big (u := (d + 10000 * v) / 10 / 10) (by omega), dec_big (u := (d + 10000 * v) / 10 / 10 / 10) (by omega)]
  have e1 : (d + 10000 * v) / 10 / 10 / 10 / 10 = v := by omega
  have e2 : (d + 10000 * v) / 10 / 10 / 10 % 10 = d / 1000 := by omega
  have e3 : (d + 10000 * v) / 10 / 10 % 10 = d / 100 % 10 := by omega
  have e4 : (d + 10000 * v) / 10 % 10 = d / 10 % 10 := by omega
  have e5 : (d + 10000 * v) % 10 = d % 10 := by omega
  rw [e1, e2, e3, e4, e5]
  simp [pad4]
theorem pad_dec {d : Nat} (hd : d < 10000) : List.replicate (4 - (Lib.decDigits d).length) 48 ++ Lib.decDigits d = pad4 d := by
  unfold pad4
  by_cases h1 : d < 10
  · rw [dec_small h1, show d / 1000 = 0 by omega, show d / 100 % 10 = 0 by omega, show d / 10 % 10 = 0 by omega, show d % 10 = d by omega]; rfl
  · by_cases h2 : d < 100
    · rw [dec_big (by omega), dec_small (u := d / 10) (by omega), show d / 1000 = 0 by omega, show d / 100 % 10 = 0 by omega, show d / 10 % 10 = d / 10 by omega]; rfl
    · by_cases h3 : d < 1000
      · rw [dec_big (by omega), dec_big (u := d / 10) (by omega), dec_small (u := d / 10 / 10) (by omega), show d / 1000 = 0 by omega, show d / 100 % 10 = d / 10 / 10 by omega]; rfl
      · rw [dec_big (by omega), dec_big (u := d / 10) (by omega), dec_big (u := d / 10 / 10) (by omega), dec_small (u := d / 10 / 10 / 10) (by omega), show d / 1000 = d / 10 / 10 / 10 by omega, show d / 100 % 10 = d / 10 / 10 % 10 by omega]; rfl
theorem dec_len4 {d : Nat} (hd : d < 10000) : (Lib.decDigits d).length ≤ 4 := by
  by_cases h1 : d < 10
  · rw [dec_small h1]; simp
  · by_cases h2 : d < 100
    · rw [dec_big (by omega), dec_small (u := d / 10) (by omega)]; simp
    · by_cases h3 : d < 1000
      · rw [dec_big (by omega), dec_big (u := d / 10) (by omega), dec_small (u := d / 10 / 10) (by omega)]; simp
      · rw [dec_big (by omega), dec_big (u := d / 10) (by omega), dec_big (u := d / 10 / 10) (by omega), dec_small (u := d / 10 / 10 / 10) (by omega)]; simp
theorem dec_ne (u : Nat) : Lib.decDigits u ≠ [] := by
  by_cases h : u < 10
  · rw [dec_small h]; simp
  · rw [dec_big (by omega)]; simp
/-- The digits that have been written: none of 0. -/
def dig0 (u : Nat) : List UInt8 := if u = 0 then [] else Lib.decDigits u
theorem dig0_zero : dig0 0 = [] := rfl
theorem dig0_pos {u : Nat} (h : u ≠ 0) : dig0 u = Lib.decDigits u := if_neg h

/-! ### Reading -/
/-- What is read of a text of digits. -/
def dg (l : List UInt8) : Int := l.foldl (fun n c => 10 * n + ((c.toNat : Int) - 48) % 256) 0
theorem dg_nil : dg [] = 0 := rfl
theorem dg_snoc (l : List UInt8) (c : UInt8) : dg (l ++ [c]) = 10 * dg l + ((c.toNat : Int) - 48) % 256 := by simp [dg, List.foldl_append]
theorem dg_bd : ∀ (k : Nat) (l : List UInt8), l.length ≤ k → k ≤ 4 → 0 ≤ dg l ∧ dg l ≤ (if k = 0 then 0 else if k = 1 then 255 else if k = 2 then 2805 else if k = 3 then 28305 else 283305) := by
  intro k
  induction k with
  | zero =>
    intro l hl _
    obtain rfl : l = [] := List.eq_nil_of_length_eq_zero (by omega)
    rw [dg_nil]; simp
  | succ k ih =>
    intro l hl hk
    rcases List.eq_nil_or_concat l with rfl | ⟨l', c, rfl⟩
    · rw [dg_nil]; simp; split <;> omega
    · have := ih l' (by simp at hl; omega) (by omega)
      rw [List.concat_eq_append, dg_snoc]
      have hm : 0 ≤ ((c.toNat : Int) - 48) % 256 ∧ ((c.toNat : Int) - 48) % 256 ≤ 255 := by omega
      have : k = 0 ∨ k = 1 ∨ k = 2 ∨ k = 3 := by omega
      rcases this with rfl | rfl | rfl | rfl <;> simp at * <;> omega
theorem dg_le {l : List UInt8} (h : l.length ≤ 4) : 0 ≤ dg l ∧ dg l ≤ 283305 := by
  have := dg_bd 4 l h (Nat.le_refl _)
  simpa using this
theorem dig_val {x : Nat} (h : x < 10) : (((UInt8.ofNat (48 + x)).toNat : Int) - 48) % 256 = x := by
  rw [UInt8.toNat_ofNat']
  omega
theorem dg_dec (u : Nat) : dg (Lib.decDigits u) = u := by
  induction u using Nat.strongRecOn with
  | _ u ih =>
    by_cases h : u < 10
    · rw [dec_small h]
      have := dg_snoc [] (UInt8.ofNat (48 + u))
      rw [List.nil_append, dg_nil, dig_val h] at this
      omega
    · rw [dec_big (by omega), dg_snoc, ih _ (by omega), dig_val (by omega)]
      omega
theorem dg_pad {d : Nat} (hd : d < 10000) : dg (pad4 d) = d := by
  have e : pad4 d = ([UInt8.ofNat (48 + d / 1000), UInt8.ofNat (48 + d / 100 % 10), UInt8.ofNat (48 + d / 10 % 10)] ++ [UInt8.ofNat (48 + d % 10)] : List UInt8) := rfl
  have e2 : ([UInt8.ofNat (48 + d / 1000), UInt8.ofNat (48 + d / 100 % 10), UInt8.ofNat (48 + d / 10 % 10)] : List UInt8) = [UInt8.ofNat (48 + d / 1000), UInt8.ofNat (48 + d / 100 % 10)] ++ [UInt8.ofNat (48 + d / 10 % 10)] := rfl
  have e3 : ([UInt8.ofNat (48 + d / 1000), UInt8.ofNat (48 + d / 100 % 10)] : List UInt8) = [UInt8.ofNat (48 + d / 1000)] ++ [UInt8.ofNat (48 + d / 100 % 10)] := rfl
  have e4 : ([UInt8.ofNat (48 + d / 1000)] : List UInt8) = [] ++ [UInt8.ofNat (48 + d / 1000)] := rfl
  rw [e, dg_snoc, e2, dg_snoc, e3, dg_snoc, e4, dg_snoc, dg_nil, dig_val (by omega), dig_val (by omega), dig_val (by omega), dig_val (by omega)]
  omega

/-- The digits that are read of a text, four places a digit, from its end. -/
def pd (l : List UInt8) : List Int := if h : l = [] then [] else dg (l.drop (l.length - 4)) :: pd (l.take (l.length - 4))
termination_by l.length
decreasing_by
  rw [List.length_take]
  have : 0 < l.length := (List.length_pos_iff.2 h)
  omega
theorem pd_nil : pd [] = [] := by rw [pd]; simp
theorem pd_cons {l : List UInt8} (h : l ≠ []) : pd l = dg (l.drop (l.length - 4)) :: pd (l.take (l.length - 4)) := by rw [pd, dif_neg h]
theorem pd_dec (u : Nat) : pd (Lib.decDigits u) = if u = 0 then [0] else digs u := by
  induction u using Nat.strongRecOn with
  | _ u ih =>
    by_cases h : u < 10000
    · have h4 := dec_len4 h
      rw [pd_cons (dec_ne u), show (Lib.decDigits u).length - 4 = 0 by omega, List.drop_zero, List.take_zero, pd_nil, dg_dec]
      by_cases h0 : u = 0
      · subst h0; rfl
      · rw [if_neg h0, digs_one (by omega) h]
    · have e : Lib.decDigits u = Lib.decDigits (u / 10000) ++ pad4 (u % 10000) := by
        rw [← dec_pad (by omega) (by omega)]; congr 1; omega
      have hl : (pad4 (u % 10000)).length = 4 := rfl
      rw [pd_cons (dec_ne u), e, List.length_append, hl, Nat.add_sub_cancel, List.drop_left, List.take_left, dg_pad (by omega), ih _ (by omega), if_neg (show ¬ u / 10000 = 0 by omega), if_neg (show ¬ u = 0 by omega), digs_pos (n := u) (by omega)]
theorem pd_dec_ok (u : Nat) : dOk (pd (Lib.decDigits u)) ∧ val (pd (Lib.decDigits u)) = u := by
  rw [pd_dec]
  by_cases h : u = 0
  · subst h; exact ⟨dOk_cons.2 ⟨by omega, dOk_nil⟩, rfl⟩
  · rw [if_neg h]; exact ⟨digs_ok u, val_digs u⟩
theorem pd_len (l : List UInt8) : (pd l).length ≤ l.length := by
  induction h : l.length using Nat.strongRecOn generalizing l with
  | _ n ih =>
    by_cases h0 : l = []
    · subst h0; rw [pd_nil]; simp
    · have hp : 0 < l.length := (List.length_pos_iff.2 h0)
      rw [pd_cons h0, List.length_cons]
      have := ih (l.take (l.length - 4)).length (by rw [List.length_take]; omega) (l.take (l.length - 4)) rfl
      rw [List.length_take] at this
      omega

/-! ### Signs -/
def isNeg (l : List UInt8) : Bool := Lib.hasPrefix l [45]
def digits (l : List UInt8) : List UInt8 := Lib.trimPrefix l [45]
theorem itoa_form (z : Int) : Lib.itoa z = if z < 0 then 45 :: Lib.decDigits z.natAbs else Lib.decDigits z.natAbs := by
  unfold Lib.itoa
  split
  · rfl
  · rw [show z.toNat = z.natAbs by omega]
theorem dec_no45 (u : Nat) : (45 : UInt8) ∉ Lib.decDigits u := by
  induction u using Nat.strongRecOn with
  | _ u ih =>
    by_cases h : u < 10
    · rw [dec_small h, List.mem_singleton]
      intro e
      have := congrArg UInt8.toNat e
      rw [UInt8.toNat_ofNat'] at this
      have : (45 : UInt8).toNat = 45 := rfl
      omega
    · rw [dec_big (by omega), List.mem_append, List.mem_singleton]
      rintro (h1 | e)
      · exact ih _ (by omega) h1
      · have := congrArg UInt8.toNat e
        rw [UInt8.toNat_ofNat'] at this
        have : (45 : UInt8).toNat = 45 := rfl
        omega
theorem prefix_dec (u : Nat) : Lib.hasPrefix (Lib.decDigits u) [45] = false := by
  cases hl : Lib.decDigits u with
  | nil => exact absurd hl (dec_ne u)
  | cons c l =>
    have h := dec_no45 u
    rw [hl, List.mem_cons] at h
    have hc : ¬ (45 : UInt8) = c := fun e => h (.inl e)
    simp [Lib.hasPrefix, List.isPrefixOf, hc]
theorem itoa_cut (z : Int) : isNeg (Lib.itoa z) = nOf z ∧ digits (Lib.itoa z) = Lib.decDigits z.natAbs := by
  rw [itoa_form]
  unfold isNeg digits nOf
  by_cases h : z < 0
  · rw [if_pos h]
    simp [Lib.hasPrefix, Lib.trimPrefix, List.isPrefixOf, h]
  · rw [if_neg h]
    have := prefix_dec z.natAbs
    unfold Lib.trimPrefix
    rw [this]
    simp [h]
theorem itoa_inj {a b : Int} (h : Lib.itoa a = Lib.itoa b) : a = b := by
  have h1 := (itoa_cut a).1
  have h2 := (itoa_cut a).2
  rw [h, (itoa_cut b).1] at h1
  rw [h, (itoa_cut b).2] at h2
  have h3 := congrArg dg h2
  rw [dg_dec, dg_dec] at h3
  have h4 : (b < 0) ↔ (a < 0) := by
    unfold nOf at h1
    exact decide_eq_decide.1 h1
  omega
/-- What Parse answers of a text: a number whose text it is, if there is one. -/
def PSpec (s : List UInt8) (ok : Bool) (z : Int) : Prop := (ok = true ∧ fitB z = true ∧ Lib.itoa z = s) ∨ (ok = false ∧ z = 0 ∧ ∀ x, fitB x = true → Lib.itoa x ≠ s)
theorem PSpec.same {s : List UInt8} {ok ok' : Bool} {z z' : Int} (h : PSpec s ok z) (h' : PSpec s ok' z') : ok = ok' ∧ z = z' := by
  rcases h with ⟨rfl, hf, he⟩ | ⟨rfl, rfl, hn⟩ <;> rcases h' with ⟨rfl, hf', he'⟩ | ⟨rfl, rfl, hn'⟩
  · exact ⟨rfl, itoa_inj (he.trans he'.symm)⟩
  · exact absurd he (hn' _ hf)
  · exact absurd he' (hn _ hf')
  · exact ⟨rfl, rfl⟩
end Go.Proofs.YtfenmogbellhdaaDoor
