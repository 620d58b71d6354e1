/-
  Contracts of the program's Text and Parse: for every int and every string, in every world that holds the library's table of powers of ten.
-/
import Derived.Test.YtblakndpionmgaaDoorNumA
import Derived.Test.YtblakndpionmgaaDoorTextMath
import Derived.Test.YtblakndpionmgaaDoorShelf
import Derived.Lib.AppendIntMem
import Derived.LoopTactic
import Derived.WalkSpells
namespace Go.Proofs.YtblakndpionmgaaDoor
open Go.RowKit

theorem text_any (n : Int) (w : World) (h1 : -9223372036854775808 ≤ n) (h2 : n ≤ 9223372036854775807) (htab : Lib.TabIs Tryd.prog w "internal/strconv.uint64pow10" .u64 Lib.pow10Tab) :
    Calls Tryd.prog 119 #[.int .i64 n] w fun e w' => e = .returned (.string ⟨(Lib.itoa n).toArray⟩) ∧ Below w.heap.size w w' := by
  go_enter Tryd.func119, Tryd.ntmps119
  go_wp2_with fail
  refine (Tryd.strconv_Itoa n h1 h2 _ htab).mono ?_
  rintro e w' ⟨rfl, k, os, rfl⟩
  go_wp2_with fail
  go_ret
  exact ⟨rfl, Lib.below_grow _ _ (Nat.le_refl _) _ _⟩

theorem cut_any (s d : ByteArray) (neg : Bool) (w : World) (hd : d.data.toList = digits s.data.toList) (hn : isNeg s.data.toList = neg) :
    Calls Tryd.prog 117 #[.string s, .string ⟨#[45]⟩] w fun e w' => e = .returned (.tuple #[.string d, .bool neg]) ∧ w = w' := by
  refine (Tryd.strings_CutPrefix s ⟨#[45]⟩ w).mono ?_
  rintro e w' ⟨rfl, rfl⟩
  refine ⟨?_, rfl⟩
  subst hn
  have : d = ⟨(Lib.trimPrefix s.data.toList [45]).toArray⟩ := bytes_eq.2 hd
  rw [this]
  rfl

set_option maxHeartbeats 400000 in
theorem parse_pos (s d : ByteArray) (w : World) (hds : d.size ≤ maxLen) (hd : d.data.toList = digits s.data.toList) (hn : isNeg s.data.toList = false) (htab : Lib.TabIs Tryd.prog w "internal/strconv.uint64pow10" .u64 Lib.pow10Tab) :
    Calls Tryd.prog 96 #[.string s] w fun e w' => e = .returned (.tuple #[.int .i64 (parseV s.data.toList), .bool (parseB s.data.toList)]) ∧ Below w.heap.size w w' := by
  unfold maxLen at hds
  have HD := Lib.hid hd
  have HN := Lib.hid hn
  clear hd hn
  go_enter Tryd.func96, Tryd.ntmps96
  go_wp2_with fail
  refine (cut_any s d _ _ HD.out HN.out).mono ?_
  rintro e w' ⟨rfl, rfl⟩
  go_wp2_with fail
  go_loop [6, 16] (fun n i => ∃ (k : Nat) (v : Int), k ≤ d.size ∧ i = .int .i64 k ∧ n = .int .i64 v ∧ 0 ≤ v ∧ v ≤ 1000000000000 ∧ runP v (d.data.toList.drop k) = runP 0 d.data.toList) (fun _ i => d.size - (intOf i).toNat)
  case atStart => exact ⟨0, 0, Nat.zero_le _, rfl, rfl, by omega, by omega, rfl⟩
  case round =>
    obtain ⟨k, v, hk, rfl, rfl, hv1, hv2, hr⟩ := hrel
    have HR := Lib.hid hr
    clear hr
    by_cases hlt : k < d.size
    · have HR1 := Lib.hid ((congrArg (runP v) (drop_at d k hlt)).symm.trans HR.out)
      clear HR
      by_cases c1 : (d[k].toNat : Int) < 48
      · have N := Lib.hid (parse_none (l := s.data.toList) (by rw [← HD.out]; exact runP_bad HR1.out (.inl c1)))
        go_wp2_with fail
        go_ret2
        exact ⟨ret_two N.out.1 N.out.2, Below.refl _ _⟩
      · by_cases c2 : 57 < (d[k].toNat : Int)
        · have N := Lib.hid (parse_none (l := s.data.toList) (by rw [← HD.out]; exact runP_bad HR1.out (.inr c2)))
          go_wp2_with fail
          go_ret2
          exact ⟨ret_two N.out.1 N.out.2, Below.refl _ _⟩
        · have c3 : 48 ≤ (d[k].toNat : Int) := by omega
          have c4 : (d[k].toNat : Int) ≤ 57 := by omega
          clear c1 c2
          cases hi : inB (10 * v + ((d[k].toNat : Int) - 48)) with
          | false =>
            have N := Lib.hid (parse_none (l := s.data.toList) (by rw [← HD.out]; exact runP_big HR1.out hi))
            go_wp2_with fail
            (refine (in_any _ _).mono ?_; rintro e w' ⟨rfl, rfl⟩)
            go_wp2_with fail
            go_ret2
            exact ⟨ret_two N.out.1 N.out.2, Below.refl _ _⟩
          | true =>
            obtain ⟨i1, i2⟩ := of_inB hi
            have HR2 := Lib.hid (runP_go HR1.out c3 c4 hi)
            go_wp2_with fail
            (refine (in_any _ _).mono ?_; rintro e w' ⟨rfl, rfl⟩)
            go_wp2_with fail
            go_round
            case rel => exact ⟨k + 1, _, by omega, by go_num, rfl, by omega, by omega, HR2.out⟩
            case measure => simp [intOf]; omega
    · have hr : runP 0 (digits s.data.toList) = some v := by
        rw [← HD.out, ← HR.out, drop_end d k (by omega)]; rfl
      have HS := Lib.hid hr
      clear HR hr
      have hb1 : -9223372036854775808 ≤ v := by omega
      have hb2 : v ≤ 9223372036854775807 := by omega
      go_wp2_with fail
      refine (text_any v _ hb1 hb2 htab).mono ?_
      rintro e w1 ⟨rfl, hb⟩
      cases he : (Lib.itoa v == s.toList) with
      | true =>
        have hi : Lib.itoa (sgn (isNeg s.data.toList) v) = s.data.toList := by
          rw [HN.out]; exact (beq_iff_eq.1 he).trans (ByteArray.toList_eq s)
        have N := Lib.hid (parse_yes HS.out hi)
        have SG : Hid (sgn (isNeg s.data.toList) v = v) := by rw [HN.out]; rfl
        clear hi
        go_wp2_with fail
        go_ret2
        exact ⟨ret_two (SG.out.symm.trans N.out.1) N.out.2, hb⟩
      | false =>
        have hi : ¬ Lib.itoa (sgn (isNeg s.data.toList) v) = s.data.toList := by
          rw [HN.out]; intro h; exact absurd (h.trans (ByteArray.toList_eq s).symm) (by simpa [sgn] using he)
        have N := Lib.hid (parse_not HS.out hi)
        clear hi
        go_wp2_with fail
        go_ret2
        exact ⟨ret_two N.out.1 N.out.2, hb⟩
set_option maxHeartbeats 400000 in
theorem parse_neg (s d : ByteArray) (w : World) (hds : d.size ≤ maxLen) (hd : d.data.toList = digits s.data.toList) (hn : isNeg s.data.toList = true) (htab : Lib.TabIs Tryd.prog w "internal/strconv.uint64pow10" .u64 Lib.pow10Tab) :
    Calls Tryd.prog 96 #[.string s] w fun e w' => e = .returned (.tuple #[.int .i64 (parseV s.data.toList), .bool (parseB s.data.toList)]) ∧ Below w.heap.size w w' := by
  unfold maxLen at hds
  have HD := Lib.hid hd
  have HN := Lib.hid hn
  clear hd hn
  go_enter Tryd.func96, Tryd.ntmps96
  go_wp2_with fail
  refine (cut_any s d _ _ HD.out HN.out).mono ?_
  rintro e w' ⟨rfl, rfl⟩
  go_wp2_with fail
  go_loop [6, 16] (fun n i => ∃ (k : Nat) (v : Int), k ≤ d.size ∧ i = .int .i64 k ∧ n = .int .i64 v ∧ 0 ≤ v ∧ v ≤ 1000000000000 ∧ runP v (d.data.toList.drop k) = runP 0 d.data.toList) (fun _ i => d.size - (intOf i).toNat)
  case atStart => exact ⟨0, 0, Nat.zero_le _, rfl, rfl, by omega, by omega, rfl⟩
  case round =>
    obtain ⟨k, v, hk, rfl, rfl, hv1, hv2, hr⟩ := hrel
    have HR := Lib.hid hr
    clear hr
    by_cases hlt : k < d.size
    · have HR1 := Lib.hid ((congrArg (runP v) (drop_at d k hlt)).symm.trans HR.out)
      clear HR
      by_cases c1 : (d[k].toNat : Int) < 48
      · have N := Lib.hid (parse_none (l := s.data.toList) (by rw [← HD.out]; exact runP_bad HR1.out (.inl c1)))
        go_wp2_with fail
        go_ret2
        exact ⟨ret_two N.out.1 N.out.2, Below.refl _ _⟩
      · by_cases c2 : 57 < (d[k].toNat : Int)
        · have N := Lib.hid (parse_none (l := s.data.toList) (by rw [← HD.out]; exact runP_bad HR1.out (.inr c2)))
          go_wp2_with fail
          go_ret2
          exact ⟨ret_two N.out.1 N.out.2, Below.refl _ _⟩
        · have c3 : 48 ≤ (d[k].toNat : Int) := by omega
          have c4 : (d[k].toNat : Int) ≤ 57 := by omega
          clear c1 c2
          cases hi : inB (10 * v + ((d[k].toNat : Int) - 48)) with
          | false =>
            have N := Lib.hid (parse_none (l := s.data.toList) (by rw [← HD.out]; exact runP_big HR1.out hi))
            go_wp2_with fail
            (refine (in_any _ _).mono ?_; rintro e w' ⟨rfl, rfl⟩)
            go_wp2_with fail
            go_ret2
            exact ⟨ret_two N.out.1 N.out.2, Below.refl _ _⟩
          | true =>
            obtain ⟨i1, i2⟩ := of_inB hi
            have HR2 := Lib.hid (runP_go HR1.out c3 c4 hi)
            go_wp2_with fail
            (refine (in_any _ _).mono ?_; rintro e w' ⟨rfl, rfl⟩)
            go_wp2_with fail
            go_round
            case rel => exact ⟨k + 1, _, by omega, by go_num, rfl, by omega, by omega, HR2.out⟩
            case measure => simp [intOf]; omega
    · have hr : runP 0 (digits s.data.toList) = some v := by
        rw [← HD.out, ← HR.out, drop_end d k (by omega)]; rfl
      have HS := Lib.hid hr
      clear HR hr
      have hb1 : -9223372036854775808 ≤ -v := by omega
      have hb2 : -v ≤ 9223372036854775807 := by omega
      go_wp2_with fail
      refine (text_any (-v) _ hb1 hb2 htab).mono ?_
      rintro e w1 ⟨rfl, hb⟩
      cases he : (Lib.itoa (-v) == s.toList) with
      | true =>
        have hi : Lib.itoa (sgn (isNeg s.data.toList) v) = s.data.toList := by
          rw [HN.out]; exact (beq_iff_eq.1 he).trans (ByteArray.toList_eq s)
        have N := Lib.hid (parse_yes HS.out hi)
        have SG : Hid (sgn (isNeg s.data.toList) v = -v) := by rw [HN.out]; rfl
        clear hi
        go_wp2_with fail
        go_ret2
        exact ⟨ret_two (SG.out.symm.trans N.out.1) N.out.2, hb⟩
      | false =>
        have hi : ¬ Lib.itoa (sgn (isNeg s.data.toList) v) = s.data.toList := by
          rw [HN.out]; intro h; exact absurd (h.trans (ByteArray.toList_eq s).symm) (by simpa [sgn] using he)
        have N := Lib.hid (parse_not HS.out hi)
        clear hi
        go_wp2_with fail
        go_ret2
        exact ⟨ret_two N.out.1 N.out.2, hb⟩

theorem digits_le (l : List UInt8) : (digits l).length ≤ l.length := by
  unfold digits Lib.trimPrefix; split <;> simp

/-- Parse: FOR EVERY STRING. -/
theorem parse_any (s : ByteArray) (w : World) (hs : s.size ≤ maxLen) (htab : Lib.TabIs Tryd.prog w "internal/strconv.uint64pow10" .u64 Lib.pow10Tab) :
    Calls Tryd.prog 96 #[.string s] w fun e w' => e = .returned (.tuple #[.int .i64 (parseV s.data.toList), .bool (parseB s.data.toList)]) ∧ Below w.heap.size w w' := by
  have hle := digits_le s.data.toList
  have hds : (⟨(digits s.data.toList).toArray⟩ : ByteArray).size ≤ maxLen := by
    refine Nat.le_trans ?_ hs
    show (digits s.data.toList).toArray.size ≤ s.data.size
    simpa using hle
  cases hn : isNeg s.data.toList with
  | false => exact parse_pos s ⟨(digits s.data.toList).toArray⟩ w hds (by simp) hn htab
  | true => exact parse_neg s ⟨(digits s.data.toList).toArray⟩ w hds (by simp) hn htab
end Go.Proofs.YtblakndpionmgaaDoor
