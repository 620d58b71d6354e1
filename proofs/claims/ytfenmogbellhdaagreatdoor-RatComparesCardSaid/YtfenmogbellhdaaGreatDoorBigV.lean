/-
  Contracts of the program's digitOf and Parse.
-/
import Derived.Test.YtfenmogbellhdaaGreatDoorBigU
import Derived.Test.YtfenmogbellhdaaGreatDoorBigJ
namespace Go.Proofs.YtfenmogbellhdaaGreatDoor
open Go.RowKit

theorem take_snoc (s : ByteArray) (k : Nat) (h : k < s.size) : s.data.toList.take (k + 1) = s.data.toList.take k ++ [s[k]] := by
  rw [List.take_succ_eq_append_getElem (by simpa using h)]; rfl

/-! ### Parse -/
theorem trim_eq {xs : List Int} {m : Nat} (hd : dOk xs) (h3 : val (xs.take m) = val xs) (hm : m ≤ xs.length) (h5 : m = 0 ∨ xs.getD (m - 1) 0 ≠ 0) : xs.take m = digs (val xs).toNat := by
  rw [← h3]
  refine (digs_val (dOk_take hd m) ?_).symm
  rcases h5 with rfl | h5
  · rw [List.take_zero]; simp [topOk]
  · rcases Nat.eq_zero_or_pos m with h0 | h0
    · subst h0; rw [List.take_zero]; simp [topOk]
    · obtain ⟨m', rfl⟩ : ∃ m', m = m' + 1 := ⟨m - 1, by omega⟩
      rw [Nat.add_sub_cancel] at h5
      rw [take_succ_at xs (by omega)]
      refine topOk_snoc ?_
      simpa [List.getD, show m' < xs.length by omega] using h5
/-- What is read of the text of a number. -/
theorem parse_of {S : List UInt8} {m : Nat} {x : Int} (hx : Lib.itoa x = S) (h3 : val ((pd (digits S)).take m) = val (pd (digits S))) (hm : m ≤ (pd (digits S)).length) (h5 : m = 0 ∨ (pd (digits S)).getD (m - 1) 0 ≠ 0) :
    (isNeg S && decide (0 < m)) = nOf x ∧ (pd (digits S)).take m = lOf x := by
  subst hx
  obtain ⟨c1, c2⟩ := itoa_cut x
  rw [c2] at h3 hm h5 ⊢
  rw [c1]
  obtain ⟨p1, p2⟩ := pd_dec_ok x.natAbs
  have e := trim_eq p1 h3 hm h5
  rw [p2, Int.toNat_natCast] at e
  have hl : ((pd (Lib.decDigits x.natAbs)).take m).length = m := by rw [List.length_take]; omega
  rw [e] at hl
  refine ⟨?_, e⟩
  cases hn : nOf x with
  | false => rfl
  | true =>
    have := nOf_true hn
    have hm0 : 0 < m := by
      refine Nat.pos_of_ne_zero fun h0 => ?_
      rw [h0] at hl
      have := digs_eq_nil.1 (List.eq_nil_of_length_eq_zero hl)
      omega
    simp [hm0]
theorem parse_no {S : List UInt8} {m : Nat} (h3 : val ((pd (digits S)).take m) = val (pd (digits S))) (hm : m ≤ (pd (digits S)).length) (h5 : m = 0 ∨ (pd (digits S)).getD (m - 1) 0 ≠ 0)
    (h : Lib.itoa (zOf (isNeg S && decide (0 < m)) ((pd (digits S)).take m)) ≠ S) : PSpec S false 0 := by
  refine .inr ⟨rfl, rfl, fun x hf hx => h ?_⟩
  obtain ⟨e1, e2⟩ := parse_of hx h3 hm h5
  rw [e1, e2, zOf_lOf hf, hx]
theorem parse_yes {S : List UInt8} {m : Nat} (h3 : val ((pd (digits S)).take m) = val (pd (digits S))) (hm : m ≤ (pd (digits S)).length) (h5 : m = 0 ∨ (pd (digits S)).getD (m - 1) 0 ≠ 0)
    (h : Lib.itoa (zOf (isNeg S && decide (0 < m)) ((pd (digits S)).take m)) = S) :
    PSpec S true (zOf (isNeg S && decide (0 < m)) ((pd (digits S)).take m)) ∧ (isNeg S && decide (0 < m)) = nOf (zOf (isNeg S && decide (0 < m)) ((pd (digits S)).take m)) ∧ (pd (digits S)).take m = lOf (zOf (isNeg S && decide (0 < m)) ((pd (digits S)).take m)) := by
  obtain ⟨e1, e2⟩ := parse_of h h3 hm h5
  exact ⟨.inl ⟨rfl, fit_zOf _ _, h⟩, e1, e2⟩

theorem digits_le (l : List UInt8) : (digits l).length ≤ l.length := by
  unfold digits Lib.trimPrefix; split <;> simp
theorem chunk_list (d : ByteArray) (a e : Nat) : (d.extract a e).data.toList = (d.data.toList.take e).drop a := by
  rw [ByteArray.data_extract, Array.toList_extract]
  simp [List.extract_eq_take_drop, List.drop_take]

end Go.Proofs.YtfenmogbellhdaaGreatDoor
