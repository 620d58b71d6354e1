/-
  Contract of the reference's Parse: for every string, with the program's answers.
-/
import Derived.Test.YthbendnhpjfenaaDoorTextB
namespace Go.Proofs.YthbendnhpjfenaaDoor
open Go.RowKit

/-! ### What the reference's Parse returns, way by way -/

theorem q_none {l : List UInt8} (h : runQ 0 (digits l) = none) : 0 = parseV l ∧ false = parseB l := by
  have e : parseO l = none := by rw [← parse_same]; unfold parseQ; rw [h]; rfl
  simp [parseV, parseB, e]
theorem q_out {l : List UInt8} {v : Int} (h : runQ 0 (digits l) = some v) (hi : inB (sgn (isNeg l) v) = false) : 0 = parseV l ∧ false = parseB l := by
  have e : parseO l = none := by rw [← parse_same]; unfold parseQ; rw [h]; simp [finQ, hi]
  simp [parseV, parseB, e]
theorem q_not {l : List UInt8} {v : Int} (h : runQ 0 (digits l) = some v) (hi : inB (sgn (isNeg l) v) = true) (ht : ¬ Lib.itoa (sgn (isNeg l) v) = l) : 0 = parseV l ∧ false = parseB l := by
  have e : parseO l = none := by rw [← parse_same]; unfold parseQ; rw [h]; simp only [Option.bind_some, finQ, if_pos hi, fin, if_neg ht]
  simp [parseV, parseB, e]
theorem q_yes {l : List UInt8} {v : Int} (h : runQ 0 (digits l) = some v) (hi : inB (sgn (isNeg l) v) = true) (ht : Lib.itoa (sgn (isNeg l) v) = l) : sgn (isNeg l) v = parseV l ∧ true = parseB l := by
  have e : parseO l = some (sgn (isNeg l) v) := by rw [← parse_same]; unfold parseQ; rw [h]; simp only [Option.bind_some, finQ, if_pos hi, fin, if_pos ht]
  simp [parseV, parseB, e]
theorem runQ_bad {c : UInt8} {cs : List UInt8} {v : Int} {o : Option Int} (h : runQ v (c :: cs) = o) (hc : (c.toNat : Int) < 48 ∨ 57 < (c.toNat : Int) ∨ 1000000000000 < v) : o = none := by
  rw [← h]; unfold runQ
  rcases hc with hc | hc | hc <;> simp [noDig, hc]
theorem runQ_go {c : UInt8} {cs : List UInt8} {v : Int} {o : Option Int} (h : runQ v (c :: cs) = o) (h1 : 48 ≤ (c.toNat : Int)) (h2 : (c.toNat : Int) ≤ 57) (hi : v ≤ 1000000000000) : runQ (v * 10 + ((c.toNat : Int) - 48)) cs = o := by
  rw [← h]
  have e : runQ v (c :: cs) = if noDig c || decide (1000000000000 < v) then none else runQ (v * 10 + digV c) cs := rfl
  rw [e, if_neg (by simp [noDig]; omega)]; rfl

theorem neg_parts {l : List UInt8} (h : isNeg l = true) : l = 45 :: digits l := by
  unfold isNeg Lib.hasPrefix at h
  unfold digits Lib.trimPrefix Lib.hasPrefix
  rw [if_pos h]
  cases l with
  | nil => simp [List.isPrefixOf] at h
  | cons c cs => simp [List.isPrefixOf] at h; simp [h]
theorem pos_digits {l : List UInt8} (h : isNeg l = false) : digits l = l := by
  unfold isNeg at h
  unfold digits Lib.trimPrefix
  rw [h]; rfl
theorem pos_head {s : ByteArray} (h : isNeg s.data.toList = false) (h0 : 0 < s.size) : ((s[0].toNat : Int) == 45) = false := by
  have e := drop_at s 0 h0
  rw [List.drop_zero] at e
  rw [e] at h
  have : s[0] ≠ 45 := by
    intro hc; rw [hc] at h; simp [isNeg, Lib.hasPrefix, List.isPrefixOf] at h
  rw [beq_eq_false_iff_ne]
  intro hc
  apply this
  have : s[0].toNat = 45 := by omega
  exact UInt8.toNat_inj.1 (by rw [this]; rfl)
theorem neg_head {s : ByteArray} (h : isNeg s.data.toList = true) : 0 < s.size ∧ s.data.toList.drop 1 = digits s.data.toList := by
  have e := neg_parts h
  constructor
  · rw [Lib.size_eq, e]; simp
  · conv => lhs; rw [e]
    rfl
theorem neg_first {s : ByteArray} (h : isNeg s.data.toList = true) (h0 : 0 < s.size) : ((s[0].toNat : Int) == 45) = true := by
  have e := neg_parts h
  have e2 := drop_at s 0 h0
  rw [List.drop_zero] at e2
  have : s[0] = 45 := (List.cons.inj (e2.symm.trans e)).1
  rw [this]; rfl

set_option maxHeartbeats 1000000 in
theorem rparse_pos (s : ByteArray) (w : World) (hs : s.size ≤ maxLen) (hn : isNeg s.data.toList = false) :
    Calls Tryd.prog 25 #[.string s] w fun e w' => e = .returned (.tuple #[.int .i64 (parseV s.data.toList), .bool (parseB s.data.toList)]) ∧ Below w.heap.size w w' := by
  unfold maxLen at hs
  have HN := Lib.hid hn
  clear hn
  go_enter Tryd.func25, Tryd.ntmps25
  go_wp2_with fail
  go_loop [4, 5] (fun n i => ∃ (k : Nat) (v : Int), k ≤ s.size ∧ i = .int .i64 k ∧ n = .int .i64 v ∧ 0 ≤ v ∧ v ≤ 10000000000009 ∧ runQ v (s.data.toList.drop k) = runQ 0 (digits s.data.toList)) (fun _ i => s.size - (intOf i).toNat)
  case atStart => exact ⟨0, 0, Nat.zero_le _, rfl, rfl, by omega, by omega, by rw [List.drop_zero, pos_digits HN.out]⟩
  case round =>
    obtain ⟨k, v, hk, rfl, rfl, hv1, hv2, hr⟩ := hrel
    have HR := Lib.hid hr
    clear hr
    by_cases hlt : k < s.size
    · skip
      have HR1 := Lib.hid ((congrArg (runQ v) (drop_at s k hlt)).symm.trans HR.out)
      clear HR
      by_cases c1 : (s[k].toNat : Int) < 48
      · have N := Lib.hid (q_none (l := s.data.toList) (runQ_bad HR1.out (.inl c1)))
        cases c3 : ((s[k].toNat : Int) == 45) with
        | true =>
          have hk0 : ((k : Int) == 0) = false := by
            rw [beq_eq_false_iff_ne]; intro h0
            obtain rfl : k = 0 := by omega
            have := pos_head HN.out hlt
            rw [c3] at this; cases this
          go_wp2_with fail
          go_ret2
          exact ⟨ret_two N.out.1 N.out.2, Below.refl _ _⟩
        | false =>
          go_wp2_with fail
          go_ret2
          exact ⟨ret_two N.out.1 N.out.2, Below.refl _ _⟩
      · by_cases c2 : 57 < (s[k].toNat : Int)
        · have N := Lib.hid (q_none (l := s.data.toList) (runQ_bad HR1.out (.inr (.inl c2))))
          have c3 : ((s[k].toNat : Int) == 45) = false := by rw [beq_eq_false_iff_ne]; omega
          go_wp2_with fail
          go_ret2
          exact ⟨ret_two N.out.1 N.out.2, Below.refl _ _⟩
        · have c3 : ((s[k].toNat : Int) == 45) = false := by rw [beq_eq_false_iff_ne]; omega
          have c4 : decide (57 < (s[k].toNat : Int)) = false := decide_eq_false c2
          by_cases c5 : 1000000000000 < v
          · have N := Lib.hid (q_none (l := s.data.toList) (runQ_bad HR1.out (.inr (.inr c5))))
            have c6 : decide (1000000000000 < v) = true := decide_eq_true c5
            go_wp2_with fail
            go_ret2
            exact ⟨ret_two N.out.1 N.out.2, Below.refl _ _⟩
          · have c6 : decide (1000000000000 < v) = false := decide_eq_false c5
            have HR2 := Lib.hid (runQ_go HR1.out (by omega) (by omega) (by omega))
            have c7 : 48 ≤ (s[k].toNat : Int) := by omega
            have c8 : (s[k].toNat : Int) ≤ 57 := by omega
            have c9 : v ≤ 1000000000000 := by omega
            clear c1 c2 c5
            go_wp2_with fail
            go_round
            case rel => exact ⟨k + 1, _, by omega, by go_num, rfl, by omega, by omega, HR2.out⟩
            case measure => simp [intOf]; omega
    · have hr : runQ 0 (digits s.data.toList) = some v := by
        rw [← HR.out, drop_end s k (by omega)]; rfl
      have HS := Lib.hid hr
      clear HR hr
      have hb1 : -9223372036854775808 ≤ v := by omega
      have hb2 : v ≤ 9223372036854775807 := by omega
      by_cases h0 : 0 < s.size
      · have hf := pos_head HN.out h0
        have h00 : decide ((0 : Int) < (s.size : Int)) = true := decide_eq_true (by omega)
        cases hi : inB v with
        | false =>
          have N := Lib.hid (q_out HS.out (by rw [HN.out]; exact hi))
          go_wp2_with (go_at_call 16; refine (rin_any _ _).mono ?_; rintro e w' ⟨rfl, rfl⟩)
          go_ret2
          exact ⟨ret_two N.out.1 N.out.2, Below.refl _ _⟩
        | true =>
          cases he : (Lib.itoa v == s.toList) with
          | true =>
            have ht : Lib.itoa (sgn (isNeg s.data.toList) v) = s.data.toList := by
              rw [HN.out]; exact (beq_iff_eq.1 he).trans (ByteArray.toList_eq s)
            have N := Lib.hid (q_yes HS.out (by rw [HN.out]; exact hi) ht)
            have SG : Hid (sgn (isNeg s.data.toList) v = v) := by rw [HN.out]; rfl
            clear ht
            go_wp2_with (go_at_call 16; refine (rin_any _ _).mono ?_; rintro e w' ⟨rfl, rfl⟩)
            refine (rtext_any v _ hb1 hb2).mono ?_
            rintro e w1 ⟨rfl, hb⟩
            go_wp2_with fail
            go_ret2
            exact ⟨ret_two (SG.out.symm.trans N.out.1) N.out.2, hb⟩
          | false =>
            have ht : ¬ Lib.itoa (sgn (isNeg s.data.toList) v) = s.data.toList := by
              rw [HN.out]; intro h; exact absurd (h.trans (ByteArray.toList_eq s).symm) (by simpa [sgn] using he)
            have N := Lib.hid (q_not HS.out (by rw [HN.out]; exact hi) ht)
            clear ht
            go_wp2_with (go_at_call 16; refine (rin_any _ _).mono ?_; rintro e w' ⟨rfl, rfl⟩)
            refine (rtext_any v _ hb1 hb2).mono ?_
            rintro e w1 ⟨rfl, hb⟩
            go_wp2_with fail
            go_ret2
            exact ⟨ret_two N.out.1 N.out.2, hb⟩
      · have h00 : decide ((0 : Int) < (s.size : Int)) = false := decide_eq_false (by omega)
        cases hi : inB v with
        | false =>
          have N := Lib.hid (q_out HS.out (by rw [HN.out]; exact hi))
          go_wp2_with (go_at_call 16; refine (rin_any _ _).mono ?_; rintro e w' ⟨rfl, rfl⟩)
          go_ret2
          exact ⟨ret_two N.out.1 N.out.2, Below.refl _ _⟩
        | true =>
          cases he : (Lib.itoa v == s.toList) with
          | true =>
            have ht : Lib.itoa (sgn (isNeg s.data.toList) v) = s.data.toList := by
              rw [HN.out]; exact (beq_iff_eq.1 he).trans (ByteArray.toList_eq s)
            have N := Lib.hid (q_yes HS.out (by rw [HN.out]; exact hi) ht)
            have SG : Hid (sgn (isNeg s.data.toList) v = v) := by rw [HN.out]; rfl
            clear ht
            go_wp2_with (go_at_call 16; refine (rin_any _ _).mono ?_; rintro e w' ⟨rfl, rfl⟩)
            refine (rtext_any v _ hb1 hb2).mono ?_
            rintro e w1 ⟨rfl, hb⟩
            go_wp2_with fail
            go_ret2
            exact ⟨ret_two (SG.out.symm.trans N.out.1) N.out.2, hb⟩
          | false =>
            have ht : ¬ Lib.itoa (sgn (isNeg s.data.toList) v) = s.data.toList := by
              rw [HN.out]; intro h; exact absurd (h.trans (ByteArray.toList_eq s).symm) (by simpa [sgn] using he)
            have N := Lib.hid (q_not HS.out (by rw [HN.out]; exact hi) ht)
            clear ht
            go_wp2_with (go_at_call 16; refine (rin_any _ _).mono ?_; rintro e w' ⟨rfl, rfl⟩)
            refine (rtext_any v _ hb1 hb2).mono ?_
            rintro e w1 ⟨rfl, hb⟩
            go_wp2_with fail
            go_ret2
            exact ⟨ret_two N.out.1 N.out.2, hb⟩

set_option maxHeartbeats 1000000 in
theorem rparse_neg (s : ByteArray) (w : World) (hs : s.size ≤ maxLen) (hn : isNeg s.data.toList = true) :
    Calls Tryd.prog 25 #[.string s] w fun e w' => e = .returned (.tuple #[.int .i64 (parseV s.data.toList), .bool (parseB s.data.toList)]) ∧ Below w.heap.size w w' := by
  unfold maxLen at hs
  have HN := Lib.hid hn
  clear hn
  go_enter Tryd.func25, Tryd.ntmps25
  go_wp2_with fail
  go_loop [4, 5] (fun n i => ∃ (k : Nat) (v : Int), k ≤ s.size ∧ i = .int .i64 k ∧ n = .int .i64 v ∧ 0 ≤ v ∧ v ≤ 10000000000009 ∧ (k = 0 ∧ v = 0 ∨ 1 ≤ k ∧ runQ v (s.data.toList.drop k) = runQ 0 (digits s.data.toList))) (fun _ i => s.size - (intOf i).toNat)
  case atStart => exact ⟨0, 0, Nat.zero_le _, rfl, rfl, by omega, by omega, .inl ⟨rfl, rfl⟩⟩
  case round =>
    obtain ⟨k, v, hk, rfl, rfl, hv1, hv2, hr⟩ := hrel
    by_cases hz : k = 0
    · obtain rfl : v = 0 := by omega
      subst hz
      have h0 := (neg_head HN.out).1
      have hf := neg_first HN.out h0
      have HD := Lib.hid (neg_head HN.out).2
      clear hr
      go_wp2_with fail
      go_round
      case rel => exact ⟨1, 0, by omega, by go_num, rfl, by omega, by omega, .inr ⟨by omega, by rw [HD.out]⟩⟩
      case measure => simp [intOf]; omega
    have HR := Lib.hid (show runQ v (s.data.toList.drop k) = runQ 0 (digits s.data.toList) by rcases hr with ⟨h, _⟩ | ⟨_, h⟩; exact absurd h hz; exact h)
    clear hr
    by_cases hlt : k < s.size
    · skip
      have HR1 := Lib.hid ((congrArg (runQ v) (drop_at s k hlt)).symm.trans HR.out)
      clear HR
      by_cases c1 : (s[k].toNat : Int) < 48
      · have N := Lib.hid (q_none (l := s.data.toList) (runQ_bad HR1.out (.inl c1)))
        have hk0 : ((k : Int) == 0) = false := by rw [beq_eq_false_iff_ne]; omega
        cases c3 : ((s[k].toNat : Int) == 45) with
        | true =>
          go_wp2_with fail
          go_ret2
          exact ⟨ret_two N.out.1 N.out.2, Below.refl _ _⟩
        | false =>
          go_wp2_with fail
          go_ret2
          exact ⟨ret_two N.out.1 N.out.2, Below.refl _ _⟩
      · by_cases c2 : 57 < (s[k].toNat : Int)
        · have N := Lib.hid (q_none (l := s.data.toList) (runQ_bad HR1.out (.inr (.inl c2))))
          have c3 : ((s[k].toNat : Int) == 45) = false := by rw [beq_eq_false_iff_ne]; omega
          go_wp2_with fail
          go_ret2
          exact ⟨ret_two N.out.1 N.out.2, Below.refl _ _⟩
        · have c3 : ((s[k].toNat : Int) == 45) = false := by rw [beq_eq_false_iff_ne]; omega
          have c4 : decide (57 < (s[k].toNat : Int)) = false := decide_eq_false c2
          by_cases c5 : 1000000000000 < v
          · have N := Lib.hid (q_none (l := s.data.toList) (runQ_bad HR1.out (.inr (.inr c5))))
            have c6 : decide (1000000000000 < v) = true := decide_eq_true c5
            go_wp2_with fail
            go_ret2
            exact ⟨ret_two N.out.1 N.out.2, Below.refl _ _⟩
          · have c6 : decide (1000000000000 < v) = false := decide_eq_false c5
            have HR2 := Lib.hid (runQ_go HR1.out (by omega) (by omega) (by omega))
            have c7 : 48 ≤ (s[k].toNat : Int) := by omega
            have c8 : (s[k].toNat : Int) ≤ 57 := by omega
            have c9 : v ≤ 1000000000000 := by omega
            clear c1 c2 c5
            go_wp2_with fail
            go_round
            case rel => exact ⟨k + 1, _, by omega, by go_num, rfl, by omega, by omega, .inr ⟨by omega, HR2.out⟩⟩
            case measure => simp [intOf]; omega
    · have hr : runQ 0 (digits s.data.toList) = some v := by
        rw [← HR.out, drop_end s k (by omega)]; rfl
      have HS := Lib.hid hr
      clear HR hr
      have hb1 : -9223372036854775808 ≤ -v := by omega
      have hb2 : -v ≤ 9223372036854775807 := by omega
      have h0 := (neg_head HN.out).1
      have hf := neg_first HN.out h0
      have h00 : decide ((0 : Int) < (s.size : Int)) = true := decide_eq_true (by omega)
      cases hi : inB (-v) with
      | false =>
        have N := Lib.hid (q_out HS.out (by rw [HN.out]; exact hi))
        go_wp2_with (go_at_call 16; refine (rin_any _ _).mono ?_; rintro e w' ⟨rfl, rfl⟩)
        go_ret2
        exact ⟨ret_two N.out.1 N.out.2, Below.refl _ _⟩
      | true =>
        cases he : (Lib.itoa (-v) == s.toList) with
        | true =>
          have ht : Lib.itoa (sgn (isNeg s.data.toList) v) = s.data.toList := by
            rw [HN.out]; exact (beq_iff_eq.1 he).trans (ByteArray.toList_eq s)
          have N := Lib.hid (q_yes HS.out (by rw [HN.out]; exact hi) ht)
          have SG : Hid (sgn (isNeg s.data.toList) v = (-v)) := by rw [HN.out]; rfl
          clear ht
          go_wp2_with (go_at_call 16; refine (rin_any _ _).mono ?_; rintro e w' ⟨rfl, rfl⟩)
          refine (rtext_any (-v) _ hb1 hb2).mono ?_
          rintro e w1 ⟨rfl, hb⟩
          go_wp2_with fail
          go_ret2
          exact ⟨ret_two (SG.out.symm.trans N.out.1) N.out.2, hb⟩
        | false =>
          have ht : ¬ Lib.itoa (sgn (isNeg s.data.toList) v) = s.data.toList := by
            rw [HN.out]; intro h; exact absurd (h.trans (ByteArray.toList_eq s).symm) (by simpa [sgn] using he)
          have N := Lib.hid (q_not HS.out (by rw [HN.out]; exact hi) ht)
          clear ht
          go_wp2_with (go_at_call 16; refine (rin_any _ _).mono ?_; rintro e w' ⟨rfl, rfl⟩)
          refine (rtext_any (-v) _ hb1 hb2).mono ?_
          rintro e w1 ⟨rfl, hb⟩
          go_wp2_with fail
          go_ret2
          exact ⟨ret_two N.out.1 N.out.2, hb⟩

/-- The reference's Parse: FOR EVERY STRING, the program's answers. -/
theorem rparse_any (s : ByteArray) (w : World) (hs : s.size ≤ maxLen) :
    Calls Tryd.prog 25 #[.string s] w fun e w' => e = .returned (.tuple #[.int .i64 (parseV s.data.toList), .bool (parseB s.data.toList)]) ∧ Below w.heap.size w w' := by
  cases hn : isNeg s.data.toList with
  | false => exact rparse_pos s w hs hn
  | true => exact rparse_neg s w hs hn
end Go.Proofs.YthbendnhpjfenaaDoor
