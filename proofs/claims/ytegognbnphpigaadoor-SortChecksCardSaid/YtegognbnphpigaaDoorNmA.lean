/-
  Contracts of isLong, isWord and isAlphanumeric.
-/
import Derived.Test.YtegognbnphpigaaDoorNmW
namespace Go.Proofs.YtegognbnphpigaaDoor
open Go.RowKit

theorem islong_any (s : ByteArray) (w : World) : Calls Tryd.prog 80 #[.string s] w fun e w' => e = .returned (.bool (longB s.data.toList)) ∧ w = w' := by
  have hsz := size_list s
  by_cases h1 : 1 ≤ s.size
  · by_cases h2 : s.size ≤ 24
    · have HB : Hid (longB s.data.toList = true) := by show longB _ = true; unfold longB; rw [← hsz, decide_eq_true h1, decide_eq_true h2]; rfl
      have p1 : (1 : Int) ≤ (s.size : Int) := by omega
      have p2 : (s.size : Int) ≤ 24 := by omega
      clear h1 h2 hsz
      go_enter Tryd.func80, Tryd.ntmps80
      go_wp2_with fail
      go_ret
      exact ⟨nret_bool HB.out.symm, rfl⟩
    · have HB : Hid (longB s.data.toList = false) := by show longB _ = false; unfold longB; rw [← hsz, decide_eq_false h2, Bool.and_false]
      have p1 : (1 : Int) ≤ (s.size : Int) := by omega
      have p2 : ¬ (s.size : Int) ≤ 24 := by omega
      clear h1 h2 hsz
      go_enter Tryd.func80, Tryd.ntmps80
      go_wp2_with fail
      go_ret
      exact ⟨nret_bool HB.out.symm, rfl⟩
  · have HB : Hid (longB s.data.toList = false) := by show longB _ = false; unfold longB; rw [← hsz, decide_eq_false h1]; rfl
    have p1 : ¬ (1 : Int) ≤ (s.size : Int) := by omega
    clear h1 hsz
    go_enter Tryd.func80, Tryd.ntmps80
    go_wp2_with fail
    go_ret
    exact ⟨nret_bool HB.out.symm, rfl⟩
theorem long_yes {s : ByteArray} (h : longB s.data.toList = true) : 1 ≤ s.size ∧ s.size ≤ 24 := by
  unfold longB at h
  rw [size_list]
  simpa using h
theorem head_at {s : ByteArray} (h : 0 < s.size) (p : UInt8 → Bool) : headB p s.data.toList = p s[0] := by
  cases hc : s.data.toList with
  | nil => rw [size_list, hc] at h; simp at h
  | cons c cs => rw [byte0 hc h]; rfl
theorem all_snoc {s : ByteArray} {k : Nat} (h : k < s.size) (p : UInt8 → Bool) : (s.data.toList.take (k + 1)).all p = ((s.data.toList.take k).all p && p s[k]) := by
  rw [take_one h, List.all_append]; simp
theorem all_bad {s : ByteArray} {k : Nat} (h : k < s.size) {p : UInt8 → Bool} (hp : p s[k] = false) : s.data.toList.all p = false := by
  rw [List.all_eq_false]
  exact ⟨s[k], mem_byte h, by rw [hp]; simp⟩
theorem beq_u8 {c : UInt8} {n : Nat} (hn : n < 256) {b : Bool} (h : (c == UInt8.ofNat n) = b) : ((c.toNat : Int) == (n : Int)) = b := by rw [u8_beq c n hn]; exact h

set_option maxHeartbeats 1000000 in
theorem isalnum_any (s : ByteArray) (w : World) (hs : s.size ≤ 24) : Calls Tryd.prog 82 #[.string s] w fun e w' => e = .returned (.bool (alnumB s.data.toList)) ∧ w = w' := by
  go_enter Tryd.func82, Tryd.ntmps82
  go_wp2_with fail
  go_loop [7] (fun i => ∃ k : Nat, k ≤ s.size ∧ i = .int .i64 (k : Int) ∧ (s.data.toList.take k).all anB = true) (fun i => s.size - (intOf i).toNat)
  case atStart => exact ⟨0, Nat.zero_le _, rfl, rfl⟩
  case round =>
    obtain ⟨k, hk, rfl, ha⟩ := hrel
    have HA := Lib.hid ha
    clear ha
    by_cases hlt : k < s.size
    · skip
      cases hb0 : smB s[k] with
      | true =>
        have HB0 := Lib.hid hb0
        have HP : Hid ((s.data.toList.take (k + 1)).all anB = true) := by
          show _ = true
          rw [all_snoc hlt, HA.out]
          unfold anB
          rw [hb0]; simp
        clear hb0
        go_wp2_with fail
        ((with_reducible refine (small_any s[k] _).mono ?_); rintro e wx ⟨rfl, rfl⟩)
        rw [HB0.out]
        go_wp2_with fail
        go_round
        case rel => exact ⟨k + 1, by omega, by go_num, HP.out⟩
        case measure => simp [intOf] <;> omega
      | false =>
        have HB0 := Lib.hid hb0
        cases hb1 : cpB s[k] with
        | true =>
          have HB1 := Lib.hid hb1
          have HP : Hid ((s.data.toList.take (k + 1)).all anB = true) := by
            show _ = true
            rw [all_snoc hlt, HA.out]
            unfold anB
            rw [hb0, hb1]; simp
          clear hb0 hb1
          go_wp2_with fail
          ((with_reducible refine (small_any s[k] _).mono ?_); rintro e wx ⟨rfl, rfl⟩)
          rw [HB0.out]
          go_wp2_with fail
          ((with_reducible refine (cap_any s[k] _).mono ?_); rintro e wx ⟨rfl, rfl⟩)
          rw [HB1.out]
          go_wp2_with fail
          go_round
          case rel => exact ⟨k + 1, by omega, by go_num, HP.out⟩
          case measure => simp [intOf] <;> omega
        | false =>
          have HB1 := Lib.hid hb1
          cases hb2 : dgB s[k] with
          | true =>
            have HB2 := Lib.hid hb2
            have HP : Hid ((s.data.toList.take (k + 1)).all anB = true) := by
              show _ = true
              rw [all_snoc hlt, HA.out]
              unfold anB
              rw [hb0, hb1, hb2]; simp
            clear hb0 hb1 hb2
            go_wp2_with fail
            ((with_reducible refine (small_any s[k] _).mono ?_); rintro e wx ⟨rfl, rfl⟩)
            rw [HB0.out]
            go_wp2_with fail
            ((with_reducible refine (cap_any s[k] _).mono ?_); rintro e wx ⟨rfl, rfl⟩)
            rw [HB1.out]
            go_wp2_with fail
            ((with_reducible refine (dig_any s[k] _).mono ?_); rintro e wx ⟨rfl, rfl⟩)
            rw [HB2.out]
            go_wp2_with fail
            go_round
            case rel => exact ⟨k + 1, by omega, by go_num, HP.out⟩
            case measure => simp [intOf] <;> omega
          | false =>
            have HB2 := Lib.hid hb2
            have HP := Lib.hid (all_bad hlt (p := anB) (by unfold anB; rw [hb0, hb1, hb2]; rfl))
            clear hb0 hb1 hb2
            go_wp2_with fail
            ((with_reducible refine (small_any s[k] _).mono ?_); rintro e wx ⟨rfl, rfl⟩)
            rw [HB0.out]
            go_wp2_with fail
            ((with_reducible refine (cap_any s[k] _).mono ?_); rintro e wx ⟨rfl, rfl⟩)
            rw [HB1.out]
            go_wp2_with fail
            ((with_reducible refine (dig_any s[k] _).mono ?_); rintro e wx ⟨rfl, rfl⟩)
            rw [HB2.out]
            go_wp2_with fail
            go_ret
            exact ⟨nret_bool (by unfold alnumB; rw [HP.out]), rfl⟩
    · have HP : Hid (s.data.toList.all anB = true) := by
        have := HA.out
        rwa [List.take_of_length_le (by rw [← size_list]; omega)] at this
      go_wp2_with fail
      go_ret
      exact ⟨nret_bool (by unfold alnumB; rw [HP.out]), rfl⟩

set_option maxHeartbeats 1000000 in
theorem isword_any (s : ByteArray) (w : World) : Calls Tryd.prog 78 #[.string s] w fun e w' => e = .returned (.bool (wordB s.data.toList)) ∧ w = w' := by
  cases hl : longB s.data.toList with
  | false =>
    have HL := Lib.hid hl
    clear hl
    go_enter Tryd.func78, Tryd.ntmps78
    go_wp2_with fail
    ((with_reducible refine (islong_any s _).mono ?_); rintro e wx ⟨rfl, rfl⟩)
    rw [HL.out]
    go_wp2_with fail
    go_ret
    exact ⟨nret_bool (by unfold wordB; rw [HL.out]; rfl), rfl⟩
  | true =>
    have HL := Lib.hid hl
    obtain ⟨h1, h24⟩ := long_yes hl
    have hp : 0 < s.size := by omega
    have HH := Lib.hid (head_at hp smB)
    clear hl
    cases h0 : smB s[0] with
    | false =>
      have H0 := Lib.hid h0
      clear h0
      go_enter Tryd.func78, Tryd.ntmps78
      go_wp2_with fail
      ((with_reducible refine (islong_any s _).mono ?_); rintro e wx ⟨rfl, rfl⟩)
      rw [HL.out]
      go_wp2_with fail
      ((with_reducible refine (small_any s[0] _).mono ?_); rintro e wx ⟨rfl, rfl⟩)
      rw [H0.out]
      go_wp2_with fail
      go_ret
      exact ⟨nret_bool (by unfold wordB; rw [HL.out, HH.out, H0.out]; rfl), rfl⟩
    | true =>
      have H0 := Lib.hid h0
      clear h0
      go_enter Tryd.func78, Tryd.ntmps78
      go_wp2_with fail
      ((with_reducible refine (islong_any s _).mono ?_); rintro e wx ⟨rfl, rfl⟩)
      rw [HL.out]
      go_wp2_with fail
      ((with_reducible refine (small_any s[0] _).mono ?_); rintro e wx ⟨rfl, rfl⟩)
      rw [H0.out]
      go_wp2_with fail
      go_loop [16] (fun i => ∃ k : Nat, k ≤ s.size ∧ i = .int .i64 (k : Int) ∧ (s.data.toList.take k).all wcB = true) (fun i => s.size - (intOf i).toNat)
      case atStart => exact ⟨0, Nat.zero_le _, rfl, rfl⟩
      case round =>
        obtain ⟨k, hk, rfl, ha⟩ := hrel
        have HA := Lib.hid ha
        clear ha
        by_cases hlt : k < s.size
        · skip
          cases hb0 : smB s[k] with
          | true =>
            have HB0 := Lib.hid hb0
            have HP : Hid ((s.data.toList.take (k + 1)).all wcB = true) := by
              show _ = true
              rw [all_snoc hlt, HA.out]
              unfold wcB
              rw [hb0]; simp
            clear hb0
            go_wp2_with fail
            ((with_reducible refine (small_any s[k] _).mono ?_); rintro e wx ⟨rfl, rfl⟩)
            rw [HB0.out]
            go_wp2_with fail
            go_round
            case rel => exact ⟨k + 1, by omega, by go_num, HP.out⟩
            case measure => simp [intOf] <;> omega
          | false =>
            have HB0 := Lib.hid hb0
            cases hb1 : dgB s[k] with
            | true =>
              have HB1 := Lib.hid hb1
              have HP : Hid ((s.data.toList.take (k + 1)).all wcB = true) := by
                show _ = true
                rw [all_snoc hlt, HA.out]
                unfold wcB
                rw [hb0, hb1]; simp
              clear hb0 hb1
              go_wp2_with fail
              ((with_reducible refine (small_any s[k] _).mono ?_); rintro e wx ⟨rfl, rfl⟩)
              rw [HB0.out]
              go_wp2_with fail
              ((with_reducible refine (dig_any s[k] _).mono ?_); rintro e wx ⟨rfl, rfl⟩)
              rw [HB1.out]
              go_wp2_with fail
              go_round
              case rel => exact ⟨k + 1, by omega, by go_num, HP.out⟩
              case measure => simp [intOf] <;> omega
            | false =>
              have HB1 := Lib.hid hb1
              cases h95 : (s[k] == (95 : UInt8)) with
              | true =>
                have q95 : ((s[k].toNat : Int) == 95) = true := beq_u8 (n := 95) (by omega) h95
                have HP : Hid ((s.data.toList.take (k + 1)).all wcB = true) := by
                  show _ = true
                  rw [all_snoc hlt, HA.out]
                  unfold wcB
                  rw [hb0, hb1, h95]; simp
                clear hb0 hb1 h95
                go_wp2_with fail
                ((with_reducible refine (small_any s[k] _).mono ?_); rintro e wx ⟨rfl, rfl⟩)
                rw [HB0.out]
                go_wp2_with fail
                ((with_reducible refine (dig_any s[k] _).mono ?_); rintro e wx ⟨rfl, rfl⟩)
                rw [HB1.out]
                go_wp2_with fail
                go_round
                case rel => exact ⟨k + 1, by omega, by go_num, HP.out⟩
                case measure => simp [intOf] <;> omega
              | false =>
                have q95 : ((s[k].toNat : Int) == 95) = false := beq_u8 (n := 95) (by omega) h95
                have HP := Lib.hid (all_bad hlt (p := wcB) (by unfold wcB; rw [hb0, hb1, h95]; rfl))
                clear hb0 hb1 h95
                go_wp2_with fail
                ((with_reducible refine (small_any s[k] _).mono ?_); rintro e wx ⟨rfl, rfl⟩)
                rw [HB0.out]
                go_wp2_with fail
                ((with_reducible refine (dig_any s[k] _).mono ?_); rintro e wx ⟨rfl, rfl⟩)
                rw [HB1.out]
                go_wp2_with fail
                go_ret
                exact ⟨nret_bool (by unfold wordB; rw [HL.out, HH.out, H0.out, HP.out]; rfl), rfl⟩
        · have HP : Hid (s.data.toList.all wcB = true) := by
            have := HA.out
            rwa [List.take_of_length_le (by rw [← size_list]; omega)] at this
          go_wp2_with fail
          go_ret
          exact ⟨nret_bool (by unfold wordB; rw [HL.out, HH.out, H0.out, HP.out]; rfl), rfl⟩
end Go.Proofs.YtegognbnphpigaaDoor
