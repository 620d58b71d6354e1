/-
  Plain facts on the values of digits.
-/
import Derived.Test.YtblakndpionmgaaDoorLxMath
import Derived.Test.YtblakndpionmgaaDoorTextMath
import Derived.Lib.TrimByte
namespace Go.Proofs.YtblakndpionmgaaDoor
open Go

theorem valN_snoc (l : Txt) (c : UInt8) : valN (l ++ [c]) = 10 * valN l + (c.toNat - 48) := by unfold valN; rw [List.foldl_append]; rfl
theorem valN_zero (l : Txt) : valN (48 :: l) = valN l := rfl
theorem valN_trim (l : Txt) : valN (Lib.trimLeftB l 48) = valN l := by
  unfold Lib.trimLeftB
  induction l with
  | nil => rfl
  | cons c l ih =>
    rw [List.dropWhile_cons]
    split
    · rename_i h
      have : c = 48 := by simpa using h
      rw [ih, this, valN_zero]
    · rfl
theorem trim_head {l r : Txt} {c : UInt8} (h : Lib.trimLeftB l 48 = c :: r) : c ≠ 48 := by
  unfold Lib.trimLeftB at h
  induction l with
  | nil => cases h
  | cons d l ih =>
    rw [List.dropWhile_cons] at h
    split at h
    · exact ih h
    · rename_i hd
      cases h
      simpa using hd
theorem trim_all {l : Txt} (h : l.all dgB = true) : (Lib.trimLeftB l 48).all dgB = true := by
  rw [List.all_eq_true] at h ⊢
  intro x hx
  exact h x ((List.dropWhile_sublist (· == (48 : UInt8))).subset hx)
theorem trim_len (l : Txt) : (Lib.trimLeftB l 48).length ≤ l.length := (List.dropWhile_sublist (· == (48 : UInt8))).length_le
theorem dg_range {c : UInt8} (h : dgB c = true) : 48 ≤ c.toNat ∧ c.toNat ≤ 57 := by
  unfold dgB at h; simpa using h
theorem fold_ge (l : Txt) (n : Nat) : n ≤ l.foldl (fun n c => 10 * n + (c.toNat - 48)) n := by
  induction l generalizing n with
  | nil => exact Nat.le_refl _
  | cons c l ih =>
    rw [List.foldl_cons]
    have := ih (10 * n + (c.toNat - 48))
    omega
theorem valN_pos {c : UInt8} {r : Txt} (hc : dgB c = true) (h0 : c ≠ 48) : 1 ≤ valN (c :: r) := by
  have h1 := dg_range hc
  have h2 : c.toNat ≠ 48 := fun e => h0 (UInt8.toNat_inj.1 e)
  have h3 := fold_ge r (10 * 0 + (c.toNat - 48))
  have h4 : valN (c :: r) = r.foldl (fun n c => 10 * n + (c.toNat - 48)) (10 * 0 + (c.toNat - 48)) := rfl
  omega
theorem dg_back {c : UInt8} (hc : dgB c = true) : UInt8.ofNat (48 + (c.toNat - 48)) = c := by
  have h1 := dg_range hc
  apply UInt8.toNat_inj.1
  rw [UInt8.toNat_ofNat']
  omega
theorem dec_val : ∀ (n : Nat) (l : Txt), l.length = n → l.all dgB = true → (∀ c r, l = c :: r → c ≠ 48) → l ≠ [] → Lib.decDigits (valN l) = l := by
  intro n
  induction n with
  | zero => intro l hl _ _ hn; exact absurd (List.eq_nil_of_length_eq_zero hl) hn
  | succ n ih =>
    intro l hl ha h0 hn
    have e := List.dropLast_concat_getLast hn
    have hc : dgB (l.getLast hn) = true := List.all_eq_true.1 ha _ (List.getLast_mem hn)
    generalize l.getLast hn = c at e hc
    have hd : l.dropLast.all dgB = true := by
      rw [List.all_eq_true] at ha ⊢
      intro x hx
      exact ha x ((List.dropLast_sublist l).subset hx)
    have hdl : l.dropLast.length = n := by rw [List.length_dropLast]; omega
    generalize l.dropLast = d at e hd hdl
    subst e
    have hr := dg_range hc
    rw [valN_snoc]
    by_cases hd0 : d = []
    · subst hd0
      have hv : valN [] = 0 := rfl
      rw [hv, Nat.mul_zero, Nat.zero_add, Lib.decDigits_one (by omega), dg_back hc]; rfl
    · have hdh : ∀ c' r, d = c' :: r → c' ≠ 48 := by
        intro c' r e
        exact h0 c' (r ++ [c]) (by rw [e]; rfl)
      have hdv := ih d hdl hd hdh hd0
      have hv1 : 1 ≤ valN d := by
        cases d with
        | nil => exact absurd rfl hd0
        | cons c' r => exact valN_pos (List.all_eq_true.1 hd c' (by simp)) (hdh c' r rfl)
      rw [Lib.decDigits, dif_neg (by omega)]
      have e1 : (10 * valN d + (c.toNat - 48)) / 10 = valN d := by omega
      have e2 : (10 * valN d + (c.toNat - 48)) % 10 = c.toNat - 48 := by omega
      rw [e1, e2, hdv, dg_back hc]
theorem itoa_val {l : Txt} (ha : l.all dgB = true) (h0 : ∀ c r, l = c :: r → c ≠ 48) (hn : l ≠ []) : Lib.itoa ((valN l : Nat) : Int) = l := by
  unfold Lib.itoa
  rw [if_neg (by omega)]
  exact dec_val _ l rfl ha h0 hn
theorem parse_dig {l : Txt} (ha : l.all dgB = true) (h0 : ∀ c r, l = c :: r → c ≠ 48) (hn : l ≠ []) :
    parseB l = decide (valN l ≤ 1000000000000) ∧ (valN l ≤ 1000000000000 → parseV l = ((valN l : Nat) : Int)) := by
  have e := itoa_val ha h0 hn
  have hb : inB ((valN l : Nat) : Int) = decide (valN l ≤ 1000000000000) := by
    unfold inB
    rw [decide_eq_decide]
    omega
  constructor
  · have := parseB_itoa ((valN l : Nat) : Int)
    rw [e, hb] at this
    exact this
  · intro h
    have := parseV_itoa ((valN l : Nat) : Int) (by rw [hb]; exact decide_eq_true h)
    rwa [e] at this
end Go.Proofs.YtblakndpionmgaaDoor
