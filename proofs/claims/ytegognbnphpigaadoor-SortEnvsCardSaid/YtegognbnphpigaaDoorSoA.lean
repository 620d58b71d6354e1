/-
  isData, Check and isVar; the reference's Check.
-/
import Derived.Test.YtegognbnphpigaaDoorSoW
import Derived.Test.YtegognbnphpigaaDoorSbKC
namespace Go.Proofs.YtegognbnphpigaaDoor
open Go.RowKit

set_option maxHeartbeats 1000000 in
theorem isdata_any (s : ByteArray) (w : World) (henv : Env w) : Calls Tryd.prog 35 #[.string s] w fun e w' => e = .returned (.bool (dataB s.data.toList)) ∧ Below w.heap.size w w' := by
  cases hc : coreB s.data.toList with
  | false =>
    have HC := Lib.hid hc
    have HR : Hid (dataB s.data.toList = false) := by show dataB _ = false; unfold dataB; rw [hc]; rfl
    clear hc
    go_enter Tryd.func35, Tryd.ntmps35
    go_wp2_with fail
    (refine (core_any s _ henv).mono ?_); rintro e w1 ⟨rfl, hb⟩
    rw [HC.out, show errI false = 3 from rfl]
    go_wp2_with fail
    go_ret
    exact ⟨nret_bool (by first | exact HR.out.symm | (rw [HR.out]; exact decide_eq_false (by omega))), hb⟩
  | true =>
    have HC := Lib.hid hc
    have hp : 0 < s.size := by rw [size_list]; exact core_pos hc
    have HH := Lib.hid (head_at hp cpB)
    by_cases h1 : 65 ≤ s[0].toNat
    · have p1 : (65 : Int) ≤ (s[0].toNat : Int) := by omega
      by_cases h2 : s[0].toNat ≤ 90
      · have p2 : (s[0].toNat : Int) ≤ 90 := by omega
        have HR : Hid (dataB s.data.toList = true) := by show dataB _ = true; unfold dataB; rw [hc, HH.out]; unfold cpB; rw [decide_eq_true h1, decide_eq_true h2]; rfl
        clear hc h1 h2
        go_enter Tryd.func35, Tryd.ntmps35
        go_wp2_with fail
        (refine (core_any s _ henv).mono ?_); rintro e w1 ⟨rfl, hb⟩
        rw [HC.out, show errI true = 0 from rfl]
        go_wp2_with fail
        go_ret
        exact ⟨nret_bool (by first | exact HR.out.symm | (rw [HR.out]; exact decide_eq_false (by omega))), hb⟩
      · have p2 : ¬ (s[0].toNat : Int) ≤ 90 := by omega
        have HR : Hid (dataB s.data.toList = false) := by show dataB _ = false; unfold dataB; rw [hc, HH.out]; unfold cpB; rw [decide_eq_true h1, decide_eq_false h2]; rfl
        clear hc h1 h2
        go_enter Tryd.func35, Tryd.ntmps35
        go_wp2_with fail
        (refine (core_any s _ henv).mono ?_); rintro e w1 ⟨rfl, hb⟩
        rw [HC.out, show errI true = 0 from rfl]
        go_wp2_with fail
        go_ret
        exact ⟨nret_bool (by first | exact HR.out.symm | (rw [HR.out]; exact decide_eq_false (by omega))), hb⟩
    · have p1 : ¬ (65 : Int) ≤ (s[0].toNat : Int) := by omega
      have HR : Hid (dataB s.data.toList = false) := by show dataB _ = false; unfold dataB; rw [hc, HH.out]; unfold cpB; rw [decide_eq_false h1]; rfl
      clear hc h1
      go_enter Tryd.func35, Tryd.ntmps35
      go_wp2_with fail
      (refine (core_any s _ henv).mono ?_); rintro e w1 ⟨rfl, hb⟩
      rw [HC.out, show errI true = 0 from rfl]
      go_wp2_with fail
      go_ret
      exact ⟨nret_bool (by first | exact HR.out.symm | (rw [HR.out]; exact decide_eq_false (by omega))), hb⟩
theorem sort_plain {l : Txt} (h : l = tInt ∨ l = tBool ∨ l = tCell) : sortB l = true := by
  unfold sortB
  rcases h with rfl | rfl | rfl <;> rfl
theorem sort_data {l : Txt} (h1 : l ≠ tInt) (h2 : l ≠ tBool) (h3 : l ≠ tCell) : sortB l = dataB l := by
  unfold sortB
  rw [beq_eq_false_iff_ne.2 h1, beq_eq_false_iff_ne.2 h2, beq_eq_false_iff_ne.2 h3]; rfl
set_option maxHeartbeats 1000000 in
theorem check_any (s : ByteArray) (w : World) (henv : Env w) : Calls Tryd.prog 12 #[.string s] w fun e w' => e = .returned (.int .i64 (sortI s.data.toList)) ∧ Below w.heap.size w w' := by
  cases h0 : decide (s.data.toList = tInt) with
  | true =>
    have TB0 : (s.toList == [73, 110, 116]) = true := txt_eq_lit h0
    have HR : Hid (sortI s.data.toList = 0) := by show (if _ then _ else _) = _; rw [sort_plain (.inl (of_decide_eq_true h0))]; rfl
    clear h0
    go_enter Tryd.func12, Tryd.ntmps12
    go_wp2_with fail
    go_ret
    exact ⟨nret_int HR.out.symm, Below.refl _ _⟩
  | false =>
    cases h1 : decide (s.data.toList = tBool) with
    | true =>
      have TB1 : (s.toList == [66, 111, 111, 108]) = true := txt_eq_lit h1
      have TB0 : (s.toList == [73, 110, 116]) = false := txt_eq_lit h0
      have HR : Hid (sortI s.data.toList = 0) := by show (if _ then _ else _) = _; rw [sort_plain (.inr (.inl (of_decide_eq_true h1)))]; rfl
      clear h0 h1
      go_enter Tryd.func12, Tryd.ntmps12
      go_wp2_with fail
      go_ret
      exact ⟨nret_int HR.out.symm, Below.refl _ _⟩
    | false =>
      cases h2 : decide (s.data.toList = tCell) with
      | true =>
        have TB2 : (s.toList == [67, 101, 108, 108]) = true := txt_eq_lit h2
        have TB0 : (s.toList == [73, 110, 116]) = false := txt_eq_lit h0
        have TB1 : (s.toList == [66, 111, 111, 108]) = false := txt_eq_lit h1
        have HR : Hid (sortI s.data.toList = 0) := by show (if _ then _ else _) = _; rw [sort_plain (.inr (.inr (of_decide_eq_true h2)))]; rfl
        clear h0 h1 h2
        go_enter Tryd.func12, Tryd.ntmps12
        go_wp2_with fail
        go_ret
        exact ⟨nret_int HR.out.symm, Below.refl _ _⟩
      | false =>
        have TB0 : (s.toList == [73, 110, 116]) = false := txt_eq_lit h0
        have TB1 : (s.toList == [66, 111, 111, 108]) = false := txt_eq_lit h1
        have TB2 : (s.toList == [67, 101, 108, 108]) = false := txt_eq_lit h2
        have HS : Hid (sortB s.data.toList = dataB s.data.toList) := sort_data (of_decide_eq_false h0) (of_decide_eq_false h1) (of_decide_eq_false h2)
        clear h0 h1 h2
        cases hd : dataB s.data.toList with
        | true =>
          have HD := Lib.hid hd
          have HR : Hid (sortI s.data.toList = 0) := by show (if _ then _ else _) = _; rw [HS.out, hd]; rfl
          clear hd
          go_enter Tryd.func12, Tryd.ntmps12
          go_wp2_with fail
          (refine (isdata_any s _ henv).mono ?_); rintro e w1 ⟨rfl, hb⟩
          rw [HD.out]
          go_wp2_with fail
          go_ret
          exact ⟨nret_int HR.out.symm, hb⟩
        | false =>
          have HD := Lib.hid hd
          have HR : Hid (sortI s.data.toList = 11) := by show (if _ then _ else _) = _; rw [HS.out, hd]; rfl
          clear hd
          go_enter Tryd.func12, Tryd.ntmps12
          go_wp2_with fail
          (refine (isdata_any s _ henv).mono ?_); rintro e w1 ⟨rfl, hb⟩
          rw [HD.out]
          go_wp2_with fail
          go_ret
          exact ⟨nret_int HR.out.symm, hb⟩
theorem isvar_any (s : ByteArray) (w : World) (henv : Env w) : Calls Tryd.prog 59 #[.string s] w fun e w' => e = .returned (.bool (nameV s.data.toList)) ∧ Below w.heap.size w w' := by
  cases h : decide (s.data.toList = [118]) with
  | true =>
    have TB : (s.toList == [118]) = true := txt_eq_lit h
    have HR : Hid (nameV s.data.toList = true) := by show nameV _ = true; unfold nameV; rw [of_decide_eq_true h]; rfl
    clear h
    go_enter Tryd.func59, Tryd.ntmps59
    go_wp2_with fail
    go_ret
    exact ⟨nret_bool HR.out.symm, Below.refl _ _⟩
  | false =>
    have TB : (s.toList == [118]) = false := txt_eq_lit h
    have HR : Hid (nameV s.data.toList = coreB s.data.toList) := by show nameV _ = _; unfold nameV; rw [beq_eq_false_iff_ne.2 (of_decide_eq_false h)]; rfl
    clear h
    cases hc : coreB s.data.toList with
    | true =>
      have HC := Lib.hid hc
      clear hc
      go_enter Tryd.func59, Tryd.ntmps59
      go_wp2_with fail
      (refine (core_any s _ henv).mono ?_); rintro e w1 ⟨rfl, hb⟩
      rw [HC.out, show errI true = 0 from rfl]
      go_wp2_with fail
      go_ret
      exact ⟨nret_bool (by rw [HR.out, HC.out]), hb⟩
    | false =>
      have HC := Lib.hid hc
      clear hc
      go_enter Tryd.func59, Tryd.ntmps59
      go_wp2_with fail
      (refine (core_any s _ henv).mono ?_); rintro e w1 ⟨rfl, hb⟩
      rw [HC.out, show errI false = 3 from rfl]
      go_wp2_with fail
      go_ret
      exact ⟨nret_bool (by rw [HR.out, HC.out]), hb⟩
set_option maxHeartbeats 2000000 in
theorem rscheck_any (s : ByteArray) (w : World) : Calls Tryd.prog 13 #[.string s] w fun e w' => e = .returned (.int .i64 (sortI s.data.toList)) ∧ Below w.heap.size w w' := by
  cases h0 : decide (s.data.toList = tInt) with
  | true =>
    have TB0 : (s.toList == [73, 110, 116]) = true := txt_eq_lit h0
    have HR : Hid (sortI s.data.toList = 0) := by show (if _ then _ else _) = _; rw [sort_plain (.inl (of_decide_eq_true h0))]; rfl
    clear h0
    go_enter Tryd.func13, Tryd.ntmps13
    go_wp2_with fail
    go_ret
    exact ⟨nret_int HR.out.symm, Below.refl _ _⟩
  | false =>
    cases h1 : decide (s.data.toList = tBool) with
    | true =>
      have TB1 : (s.toList == [66, 111, 111, 108]) = true := txt_eq_lit h1
      have TB0 : (s.toList == [73, 110, 116]) = false := txt_eq_lit h0
      have HR : Hid (sortI s.data.toList = 0) := by show (if _ then _ else _) = _; rw [sort_plain (.inr (.inl (of_decide_eq_true h1)))]; rfl
      clear h0 h1
      go_enter Tryd.func13, Tryd.ntmps13
      go_wp2_with fail
      go_ret
      exact ⟨nret_int HR.out.symm, Below.refl _ _⟩
    | false =>
      cases h2 : decide (s.data.toList = tCell) with
      | true =>
        have TB2 : (s.toList == [67, 101, 108, 108]) = true := txt_eq_lit h2
        have TB0 : (s.toList == [73, 110, 116]) = false := txt_eq_lit h0
        have TB1 : (s.toList == [66, 111, 111, 108]) = false := txt_eq_lit h1
        have HR : Hid (sortI s.data.toList = 0) := by show (if _ then _ else _) = _; rw [sort_plain (.inr (.inr (of_decide_eq_true h2)))]; rfl
        clear h0 h1 h2
        go_enter Tryd.func13, Tryd.ntmps13
        go_wp2_with fail
        go_ret
        exact ⟨nret_int HR.out.symm, Below.refl _ _⟩
      | false =>
        have TB0 : (s.toList == [73, 110, 116]) = false := txt_eq_lit h0
        have TB1 : (s.toList == [66, 111, 111, 108]) = false := txt_eq_lit h1
        have TB2 : (s.toList == [67, 101, 108, 108]) = false := txt_eq_lit h2
        have HS : Hid (sortB s.data.toList = dataB s.data.toList) := sort_data (of_decide_eq_false h0) (of_decide_eq_false h1) (of_decide_eq_false h2)
        clear h0 h1 h2
        by_cases hp : 0 < s.size
        · have q0 : (0 : Int) < (s.size : Int) := by omega
          have HH := Lib.hid (head_at hp cpB)
          by_cases h1 : 65 ≤ s[0].toNat
          · have p1 : (65 : Int) ≤ (s[0].toNat : Int) := by omega
            by_cases h2 : s[0].toNat ≤ 90
            · have p2 : (s[0].toNat : Int) ≤ 90 := by omega
              have HC0 : Hid (headB cpB s.data.toList = true) := by show _ = true; rw [HH.out]; unfold cpB; rw [decide_eq_true h1, decide_eq_true h2]; rfl
              clear h1 h2
              cases hc : coreB s.data.toList with
              | true =>
                have HC := Lib.hid hc
                have HR : Hid (sortI s.data.toList = 0) := by show (if _ then _ else _) = _; rw [HS.out]; unfold dataB; rw [hc, HC0.out]; rfl
                clear hc
                go_enter Tryd.func13, Tryd.ntmps13
                go_wp2_with fail
                (refine (rcore_any s _).mono ?_); rintro e w1 ⟨rfl, hb⟩
                rw [HC.out, show errI true = 0 from rfl]
                go_wp2_with fail
                go_ret
                exact ⟨nret_int HR.out.symm, hb⟩
              | false =>
                have HC := Lib.hid hc
                have HR : Hid (sortI s.data.toList = 11) := by show (if _ then _ else _) = _; rw [HS.out]; unfold dataB; rw [hc, HC0.out]; rfl
                clear hc
                go_enter Tryd.func13, Tryd.ntmps13
                go_wp2_with fail
                (refine (rcore_any s _).mono ?_); rintro e w1 ⟨rfl, hb⟩
                rw [HC.out, show errI false = 3 from rfl]
                go_wp2_with fail
                go_ret
                exact ⟨nret_int HR.out.symm, hb⟩
            · have p2 : ¬ (s[0].toNat : Int) ≤ 90 := by omega
              have HR : Hid (sortI s.data.toList = 11) := by show (if _ then _ else _) = _; rw [HS.out]; unfold dataB; rw [HH.out]; unfold cpB; rw [decide_eq_true h1, decide_eq_false h2, Bool.and_false, Bool.and_false]; rfl
              clear h1 h2
              go_enter Tryd.func13, Tryd.ntmps13
              go_wp2_with fail
              go_ret
              exact ⟨nret_int HR.out.symm, Below.refl _ _⟩
          · have p1 : ¬ (65 : Int) ≤ (s[0].toNat : Int) := by omega
            have HR : Hid (sortI s.data.toList = 11) := by show (if _ then _ else _) = _; rw [HS.out]; unfold dataB; rw [HH.out]; unfold cpB; rw [decide_eq_false h1, Bool.false_and, Bool.and_false]; rfl
            clear h1
            go_enter Tryd.func13, Tryd.ntmps13
            go_wp2_with fail
            go_ret
            exact ⟨nret_int HR.out.symm, Below.refl _ _⟩
        · have q0 : ¬ (0 : Int) < (s.size : Int) := by omega
          have HR : Hid (sortI s.data.toList = 11) := by
            show (if _ then _ else _) = _; rw [HS.out]; unfold dataB
            have he : s.data.toList = [] := List.eq_nil_of_length_eq_zero (by rw [← size_list]; omega)
            rw [he]; rfl
          clear hp
          go_enter Tryd.func13, Tryd.ntmps13
          go_wp2_with fail
          go_ret
          exact ⟨nret_int HR.out.symm, Below.refl _ _⟩
theorem known_any (A : Option Addr) (n c : Nat) (ss : List Txt) (s : ByteArray) (w : World) (hs : Ss w A n c ss) : Calls Tryd.prog 60 #[.slice A n c, .string s] w fun e w' => e = .returned (.bool (decide (s.data.toList ∈ ss))) ∧ w = w' := by
  have HS := Lib.hid hs
  have h47 : n ≤ 9223372036854775807 := Nat.le_trans hs.cap hs.top
  clear hs
  go_enter Tryd.func60, Tryd.ntmps60
  go_wp2_with fail
  go_loop [5] (fun i => ∃ k : Nat, k ≤ n ∧ i = .int .i64 (k : Int) ∧ s.data.toList ∉ ss.take k) (fun i => n - (intOf i).toNat)
  case atStart => exact ⟨0, Nat.zero_le _, rfl, by simp⟩
  case round =>
    obtain ⟨k, hk, rfl, ha⟩ := hrel
    have HA := Lib.hid ha
    clear ha
    by_cases hlt : k < n
    · obtain ⟨g, o, x, rfl, hg, hc, hx⟩ := HS.out.at_ hlt
      have HX := Lib.hid hx.out
      have HKL : Hid (k < ss.length) := by show k < _; rw [HS.out.len]; exact hlt
      have q1 : (k : Int) < n := by omega
      clear hx hg
      cases hd : decide (s.data.toList = ss.getD k []) with
      | true =>
        have HD := Lib.hid hd
        have TB := txt_beq2 HX.out hd
        clear hd
        go_wp2_with fail
        go_ret
        exact ⟨nret_bool (decide_eq_true (by rw [of_decide_eq_true HD.out]; exact getD_mem HKL.out)).symm, rfl⟩
      | false =>
        have HD := Lib.hid hd
        have TB := txt_beq2 HX.out hd
        clear hd
        go_wp2_with fail
        go_round
        case rel => exact ⟨k + 1, by omega, by go_num, not_mem_snoc HKL.out (fun e => of_decide_eq_false HD.out e.symm) HA.out⟩
        case measure => simp [intOf] <;> omega
    · have hke : k = n := by omega
      subst hke
      go_wp2_with fail
      go_ret
      exact ⟨nret_bool (decide_eq_false (by have := HA.out; rwa [List.take_of_length_le (by rw [HS.out.len]; exact Nat.le_refl _)] at this)).symm, rfl⟩
end Go.Proofs.YtegognbnphpigaaDoor
