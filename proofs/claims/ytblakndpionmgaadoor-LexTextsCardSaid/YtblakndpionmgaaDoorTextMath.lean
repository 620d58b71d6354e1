/-
  Plain facts on decimal texts: what Parse reads of a text of bytes, and that it reads back what is written of a number in bounds, and nothing else. No program in sight.
-/
import Derived.Lib.ItoaNum
import Derived.Lib.Strings
import Derived.Test.YtblakndpionmgaaDoorNumMath
namespace Go.Proofs.YtblakndpionmgaaDoor
open Go

/-- A byte that is no digit. -/
def noDig (c : UInt8) : Bool := decide ((c.toNat : Int) < 48) || decide (57 < (c.toNat : Int))
def digV (c : UInt8) : Int := (c.toNat : Int) - 48

/-- The program's reading of digits: it stops at a byte that is none, and at a number out of bounds. -/
def runP : Int → List UInt8 → Option Int
  | n, [] => some n
  | n, c :: cs => if noDig c then none else if inB (10 * n + digV c) then runP (10 * n + digV c) cs else none
/-- The reference's reading: it looks at the bound one digit later. -/
def runQ : Int → List UInt8 → Option Int
  | n, [] => some n
  | n, c :: cs => if noDig c || decide (1000000000000 < n) then none else runQ (n * 10 + digV c) cs

def isNeg (l : List UInt8) : Bool := Lib.hasPrefix l [45]
def digits (l : List UInt8) : List UInt8 := Lib.trimPrefix l [45]
def sgn (neg : Bool) (v : Int) : Int := if neg then -v else v
/-- What Parse reads: the number, if there is one. -/
def fin (l : List UInt8) (v : Int) : Option Int := if Lib.itoa (sgn (isNeg l) v) = l then some (sgn (isNeg l) v) else none
def parseO (l : List UInt8) : Option Int := (runP 0 (digits l)).bind (fin l)
def finQ (l : List UInt8) (v : Int) : Option Int := if inB (sgn (isNeg l) v) then fin l v else none
def parseQ (l : List UInt8) : Option Int := (runQ 0 (digits l)).bind (finQ l)
def parseV (l : List UInt8) : Int := (parseO l).getD 0
def parseB (l : List UInt8) : Bool := (parseO l).isSome

theorem digV_bd {c : UInt8} (h : noDig c = false) : 0 ≤ digV c ∧ digV c ≤ 9 := by
  simp [noDig, digV] at h ⊢; omega

theorem runP_bd : ∀ {l : List UInt8} {n v : Int}, 0 ≤ n → n ≤ 1000000000000 → runP n l = some v → 0 ≤ v ∧ v ≤ 1000000000000
  | [], n, v, h1, h2, h => by simp [runP] at h; omega
  | c :: cs, n, v, h1, h2, h => by
    unfold runP at h
    split at h
    · cases h
    · rename_i hd
      have := digV_bd (by simpa using hd)
      split at h
      · rename_i hi
        have := of_inB hi
        exact runP_bd (by omega) (by omega) h
      · cases h

/-- WHERE THE PROGRAM READS A NUMBER THE REFERENCE READS THE SAME; where it reads none the reference reads none or one out of bounds. -/
theorem run_same : ∀ {l : List UInt8} {n : Int}, 0 ≤ n → n ≤ 1000000000000 →
    (∀ v, runP n l = some v → runQ n l = some v) ∧ (runP n l = none → ∀ v, runQ n l = some v → 1000000000000 < v)
  | [], n, h1, h2 => ⟨fun v h => by simpa [runP, runQ] using h, fun h => by simp [runP] at h⟩
  | c :: cs, n, h1, h2 => by
    unfold runP runQ
    by_cases hd : noDig c
    · simp [hd]
    · have hn : ¬ (1000000000000 < n) := by omega
      have b := digV_bd (by simpa using hd)
      have e : n * 10 + digV c = 10 * n + digV c := by omega
      simp only [hd, hn, decide_false, Bool.or_false, e]
      by_cases hi : inB (10 * n + digV c)
      · have := of_inB hi
        simpa [hi] using run_same (l := cs) (n := 10 * n + digV c) (by omega) (by omega)
      · have := of_inB_no (by simpa using hi)
        simp only [hi]
        refine ⟨fun v h => by simp at h, fun _ v h => ?_⟩
        cases cs with
        | nil => simp [runQ] at h; omega
        | cons c' cs =>
          unfold runQ at h
          have : 1000000000000 < 10 * n + digV c := by omega
          simp [this] at h

theorem parse_same (l : List UInt8) : parseQ l = parseO l := by
  obtain ⟨h1, h2⟩ := run_same (l := digits l) (n := 0) (by omega) (by omega)
  unfold parseQ parseO
  cases hp : runP 0 (digits l) with
  | some v =>
    rw [h1 v hp]
    have := runP_bd (by omega) (by omega) hp
    have hi : inB (sgn (isNeg l) v) = true := by unfold sgn; split <;> exact inB_yes (by omega) (by omega)
    simp [finQ, hi]
  | none =>
    cases hq : runQ 0 (digits l) with
    | none => rfl
    | some v =>
      have := h2 hp v hq
      have hi : inB (sgn (isNeg l) v) = false := by unfold sgn; split <;> exact inB_no (by omega)
      simp [finQ, hi]

/-! ### What is written is read -/

theorem dig_byte (i : Nat) (h : i < 10) : noDig (UInt8.ofNat (48 + i)) = false ∧ digV (UInt8.ofNat (48 + i)) = i := by
  constructor
  · simp [noDig]; omega
  · simp [digV]; omega

theorem runP_append : ∀ (l r : List UInt8) (n : Int), runP n (l ++ r) = (runP n l).bind fun v => runP v r
  | [], r, n => rfl
  | c :: cs, r, n => by
    simp only [List.cons_append, runP]
    split
    · rfl
    · split
      · exact runP_append cs r _
      · rfl

theorem runP_dec (u : Nat) : runP 0 (Lib.decDigits u) = if u ≤ 1000000000000 then some (u : Int) else none := by
  induction u using Nat.strongRecOn with
  | _ u ih =>
    rw [Lib.decDigits]
    split
    · rename_i h
      obtain ⟨a, b⟩ := dig_byte u h
      rw [if_pos (by omega)]
      have hi : inB (u : Int) = true := inB_yes (by omega) (by omega)
      have e : (10 : Int) * 0 + (u : Int) = u := by omega
      simp only [runP, a, b, e, hi]
      rfl
    · rename_i h
      rw [runP_append, ih (u / 10) (by omega)]
      obtain ⟨a, b⟩ := dig_byte (u % 10) (by omega)
      by_cases h1 : u ≤ 1000000000000
      · rw [if_pos (by omega), if_pos h1]
        have e : 10 * ((u / 10 : Nat) : Int) + ((u % 10 : Nat) : Int) = u := by omega
        have hi : inB (u : Int) = true := inB_yes (by omega) (by omega)
        simp only [Option.bind_some, runP, a, b, e, hi]
        rfl
      · rw [if_neg h1]
        split
        · have e : 10 * ((u / 10 : Nat) : Int) + ((u % 10 : Nat) : Int) = u := by omega
          have hi : inB (u : Int) = false := inB_no (by omega)
          simp only [Option.bind_some, runP, a, b, e, hi]
          rfl
        · rfl

theorem dec_head (u : Nat) : ∃ c cs, Lib.decDigits u = c :: cs ∧ noDig c = false := by
  induction u using Nat.strongRecOn with
  | _ u ih =>
    rw [Lib.decDigits]
    split
    · rename_i h
      exact ⟨_, _, rfl, (dig_byte u h).1⟩
    · obtain ⟨c, cs, e, h⟩ := ih (u / 10) (by omega)
      exact ⟨c, _, by rw [e]; rfl, h⟩

theorem itoa_neg (n : Int) : isNeg (Lib.itoa n) = decide (n < 0) ∧ digits (Lib.itoa n) = Lib.decDigits n.natAbs := by
  unfold isNeg digits Lib.trimPrefix Lib.hasPrefix Lib.itoa
  by_cases h : n < 0
  · simp [h, List.isPrefixOf]
  · obtain ⟨c, cs, e, hc⟩ := dec_head n.toNat
    have hc' : c ≠ 45 := by rintro rfl; simp [noDig] at hc
    have e2 : n.toNat = n.natAbs := by omega
    rw [← e2]
    simp [h, e, List.isPrefixOf, Ne.symm hc']

/-- PARSE READS WHAT IS WRITTEN OF A NUMBER IN BOUNDS, and reads nothing where the number is out of bounds. -/
theorem parse_itoa (n : Int) : parseO (Lib.itoa n) = if inB n then some n else none := by
  obtain ⟨h1, h2⟩ := itoa_neg n
  unfold parseO
  rw [h2, runP_dec]
  by_cases hn : inB n
  · have := of_inB hn
    rw [if_pos (by omega), if_pos hn]
    have e : sgn (isNeg (Lib.itoa n)) (n.natAbs : Int) = n := by
      rw [h1]; unfold sgn
      by_cases h : n < 0
      · simp [h]; omega
      · simp [h]; omega
    simp [fin, e]
  · have := of_inB_no (by simpa using hn)
    rw [if_neg (by omega), if_neg hn]
    rfl

theorem parseB_itoa (n : Int) : parseB (Lib.itoa n) = inB n := by
  unfold parseB; rw [parse_itoa]; cases inB n <;> rfl
theorem parseV_itoa (n : Int) (h : inB n = true) : parseV (Lib.itoa n) = n := by
  unfold parseV; rw [parse_itoa, h]; rfl

/-- AND NOTHING ELSE: what is read is written like this. -/
theorem parse_back (l : List UInt8) (h : parseB l = true) : Lib.itoa (parseV l) = l ∧ inB (parseV l) = true := by
  unfold parseB parseV at *
  cases hp : parseO l with
  | none => rw [hp] at h; cases h
  | some m =>
    have hp' := hp
    unfold parseO at hp
    cases hr : runP 0 (digits l) with
    | none => rw [hr] at hp; cases hp
    | some v =>
      rw [hr] at hp
      simp only [Option.bind_some, fin] at hp
      split at hp
      · rename_i he
        cases hp
        have := runP_bd (by omega) (by omega) hr
        refine ⟨he, ?_⟩
        show inB (sgn (isNeg l) v) = true
        unfold sgn; split <;> exact inB_yes (by omega) (by omega)
      · cases hp

/-! ### What Parse returns, way by way -/

theorem parse_none {l : List UInt8} (h : runP 0 (digits l) = none) : 0 = parseV l ∧ false = parseB l := by simp [parseV, parseB, parseO, h]
theorem parse_yes {l : List UInt8} {v : Int} (h : runP 0 (digits l) = some v) (hi : Lib.itoa (sgn (isNeg l) v) = l) : sgn (isNeg l) v = parseV l ∧ true = parseB l := by
  have e : parseO l = some (sgn (isNeg l) v) := by unfold parseO; rw [h]; simp only [Option.bind_some, fin, if_pos hi]
  simp [parseV, parseB, e]
theorem parse_not {l : List UInt8} {v : Int} (h : runP 0 (digits l) = some v) (hi : ¬ Lib.itoa (sgn (isNeg l) v) = l) : 0 = parseV l ∧ false = parseB l := by
  have e : parseO l = none := by unfold parseO; rw [h]; simp only [Option.bind_some, fin, if_neg hi]
  simp [parseV, parseB, e]
theorem runP_bad {c : UInt8} {cs : List UInt8} {v : Int} {o : Option Int} (h : runP v (c :: cs) = o) (hc : (c.toNat : Int) < 48 ∨ 57 < (c.toNat : Int)) : o = none := by
  rw [← h]; unfold runP
  rcases hc with hc | hc <;> simp [noDig, hc]
theorem runP_big {c : UInt8} {cs : List UInt8} {v : Int} {o : Option Int} (h : runP v (c :: cs) = o) (hi : inB (10 * v + ((c.toNat : Int) - 48)) = false) : o = none := by
  rw [← h]; unfold runP
  split
  · rfl
  · rw [show digV c = (c.toNat : Int) - 48 from rfl, hi]; rfl
theorem runP_go {c : UInt8} {cs : List UInt8} {v : Int} {o : Option Int} (h : runP v (c :: cs) = o) (h1 : 48 ≤ (c.toNat : Int)) (h2 : (c.toNat : Int) ≤ 57) (hi : inB (10 * v + ((c.toNat : Int) - 48)) = true) : runP (10 * v + ((c.toNat : Int) - 48)) cs = o := by
  rw [← h]
  have e : runP v (c :: cs) = if noDig c then none else if inB (10 * v + digV c) then runP (10 * v + digV c) cs else none := rfl
  rw [e, if_neg (by simp [noDig]; omega), show digV c = (c.toNat : Int) - 48 from rfl, hi]; rfl
theorem drop_at (s : ByteArray) (k : Nat) (h : k < s.size) : s.data.toList.drop k = s[k] :: s.data.toList.drop (k + 1) := by
  rw [List.drop_eq_getElem_cons (by simpa using h)]; rfl
theorem drop_end (s : ByteArray) (k : Nat) (h : s.size ≤ k) : s.data.toList.drop k = [] := List.drop_eq_nil_of_le (by simpa using h)
theorem bytes_eq {s t : ByteArray} : s = t ↔ s.data.toList = t.data.toList := by
  constructor
  · rintro rfl; rfl
  · cases s with | mk a => cases t with | mk b => intro h; rw [ByteArray.mk.injEq]; exact Array.ext' h
end Go.Proofs.YtblakndpionmgaaDoor
