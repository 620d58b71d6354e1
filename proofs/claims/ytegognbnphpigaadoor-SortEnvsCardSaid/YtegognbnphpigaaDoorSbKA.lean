/-
  The reference's keywords, Keyword, Check and Title.
-/
import Derived.Test.YtegognbnphpigaaDoorSbRA
import Derived.Test.YtegognbnphpigaaDoorSbK
namespace Go.Proofs.YtegognbnphpigaaDoor
open Go.RowKit

theorem keywords_any (w : World) : Calls Tryd.prog 76 #[] w fun e w' => ∃ A, e = .returned (.slice A 42 42) ∧ Ss w' A 42 42 kws ∧ Below w.heap.size w w' := by
  go_enter Tryd.func76, Tryd.ntmps76
  go_wp2_with fail
  go_ret
  exact ⟨_, rfl, ss_lit _ rfl rfl (by omega), below_alloc _⟩
theorem kw_find {l : Txt} : (0 ≤ findI kws l) ↔ kwB l = true := by
  unfold kwB
  rw [List.contains_iff_mem]
  have := @findI_neg kws l
  constructor
  · intro h; by_cases hm : l ∈ kws
    · exact hm
    · have := this.2 hm; omega
  · intro h; by_cases hm : findI kws l < 0
    · exact absurd h (this.1 hm)
    · omega
theorem rkeyword_any (s : ByteArray) (w : World) : Calls Tryd.prog 67 #[.string s] w fun e w' => e = .returned (.bool (kwB s.data.toList)) ∧ Below w.heap.size w w' := by
  cases hk : kwB s.data.toList with
  | true =>
    have HK := Lib.hid hk
    have hz : 0 ≤ findI kws s.data.toList := kw_find.2 hk
    have HZ := Lib.hid hz
    clear hk hz
    go_enter Tryd.func67, Tryd.ntmps67
    go_wp2_with fail
    (refine (keywords_any w).mono ?_); rintro e w1 ⟨A, rfl, hss, hb⟩
    have HB := Lib.hid hb
    have CF := rfind_any A 42 42 kws s w1 hss
    have hz := HZ.out
    generalize findI kws s.data.toList = z at CF hz
    clear hb hss HZ
    go_wp2_with fail
    ((with_reducible refine CF.mono ?_); rintro e wx ⟨rfl, rfl⟩)
    go_wp2_with fail
    go_ret
    exact ⟨nret_bool (by first | rfl | simpa using hz), HB.out⟩
  | false =>
    have HK := Lib.hid hk
    have hz : ¬ 0 ≤ findI kws s.data.toList := (fun h => by have := kw_find.1 h; rw [hk] at this; cases this)
    have HZ := Lib.hid hz
    clear hk hz
    go_enter Tryd.func67, Tryd.ntmps67
    go_wp2_with fail
    (refine (keywords_any w).mono ?_); rintro e w1 ⟨A, rfl, hss, hb⟩
    have HB := Lib.hid hb
    have CF := rfind_any A 42 42 kws s w1 hss
    have hz := HZ.out
    generalize findI kws s.data.toList = z at CF hz
    clear hb hss HZ
    go_wp2_with fail
    ((with_reducible refine CF.mono ?_); rintro e wx ⟨rfl, rfl⟩)
    go_wp2_with fail
    go_ret
    exact ⟨nret_bool (by first | rfl | simpa using hz), HB.out⟩

set_option maxRecDepth 100000 in
set_option maxHeartbeats 2000000 in
theorem rcheck_any (s : ByteArray) (w : World) : Calls Tryd.prog 54 #[.string s] w fun e w' => e = .returned (.int .i64 (errI (nameB s.data.toList))) ∧ Below w.heap.size w w' := by
  by_cases h1 : 1 ≤ s.size
  · by_cases h2 : s.size ≤ 24
    · have HL : Hid (longB s.data.toList = true) := by show longB _ = true; unfold longB; rw [← size_list, decide_eq_true h1, decide_eq_true h2]; rfl
      have p1 : ¬ (s.size : Int) < 1 := by omega
      have p2 : ¬ (24 : Int) < (s.size : Int) := by omega
      have hp : 0 < s.size := by omega
      have HH := Lib.hid (head_at hp smB)
      cases hc : smB s[0] with
      | false =>
        have HC := Lib.hid hc
        clear hc
        go_enter Tryd.func54, Tryd.ntmps54
        go_wp2_with fail
        ((with_reducible refine (rsmall_any s[0] _).mono ?_); rintro e wx ⟨rfl, rfl⟩)
        rw [HC.out]
        go_wp2_with fail
        go_ret
        exact ⟨nret_int (by unfold nameB wordB; rw [HL.out, HH.out, HC.out]; rfl), Below.refl _ _⟩
      | true =>
        have HC := Lib.hid hc
        clear hc
        cases hk : kwB s.data.toList with
        | true =>
          have HK := Lib.hid hk
          clear hk
          go_enter Tryd.func54, Tryd.ntmps54
          go_wp2_with fail
          ((with_reducible refine (rsmall_any s[0] _).mono ?_); rintro e wx ⟨rfl, rfl⟩)
          rw [HC.out]
          go_wp2_with fail
          (refine (rkeyword_any s _).mono ?_); rintro e w1 ⟨rfl, hb⟩
          rw [HK.out]
          have HB := Lib.hid hb
          clear hb
          go_wp2_with fail
          go_ret
          exact ⟨nret_int (by unfold nameB wordB; rw [HL.out, HH.out, HC.out, HK.out]; first | rfl | simp [errI]), HB.out⟩
        | false =>
          have HK := Lib.hid hk
          clear hk
          go_enter Tryd.func54, Tryd.ntmps54
          go_wp2_with fail
          ((with_reducible refine (rsmall_any s[0] _).mono ?_); rintro e wx ⟨rfl, rfl⟩)
          rw [HC.out]
          go_wp2_with fail
          (refine (rkeyword_any s _).mono ?_); rintro e w1 ⟨rfl, hb⟩
          rw [HK.out]
          have HB := Lib.hid hb
          clear hb
          go_wp2_with fail
          go_loop [24] (fun i => ∃ k : Nat, k ≤ s.size ∧ i = .int .i64 (k : Int) ∧ (s.data.toList.take k).all wcB = true) (fun i => s.size - (intOf i).toNat)
          case atStart => exact ⟨0, Nat.zero_le _, rfl, rfl⟩
          case round =>
            obtain ⟨k, hk, rfl, ha⟩ := hrel
            have HA := Lib.hid ha
            clear ha
            by_cases hlt : k < s.size
            · skip
              cases hb0 : smB s[k] with
              | true =>
                have HB0 := Lib.hid hb0
                have HP : Hid ((s.data.toList.take (k + 1)).all wcB = true) := by
                  show _ = true
                  rw [all_snoc hlt, HA.out]
                  unfold wcB
                  rw [hb0]; simp
                clear hb0
                go_wp2_with fail
                ((with_reducible refine (rsmall_any s[k] _).mono ?_); rintro e wx ⟨rfl, rfl⟩)
                rw [HB0.out]
                go_wp2_with fail
                go_round
                case rel => exact ⟨k + 1, by omega, by go_num, HP.out⟩
                case measure => simp [intOf] <;> omega
              | false =>
                have HB0 := Lib.hid hb0
                cases hb1 : dgB s[k] with
                | true =>
                  have HB1 := Lib.hid hb1
                  have HP : Hid ((s.data.toList.take (k + 1)).all wcB = true) := by
                    show _ = true
                    rw [all_snoc hlt, HA.out]
                    unfold wcB
                    rw [hb0, hb1]; simp
                  clear hb0 hb1
                  go_wp2_with fail
                  ((with_reducible refine (rsmall_any s[k] _).mono ?_); rintro e wx ⟨rfl, rfl⟩)
                  rw [HB0.out]
                  go_wp2_with fail
                  ((with_reducible refine (rdig_any s[k] _).mono ?_); rintro e wx ⟨rfl, rfl⟩)
                  rw [HB1.out]
                  go_wp2_with fail
                  go_round
                  case rel => exact ⟨k + 1, by omega, by go_num, HP.out⟩
                  case measure => simp [intOf] <;> omega
                | false =>
                  have HB1 := Lib.hid hb1
                  cases h95 : (s[k] == (95 : UInt8)) with
                  | true =>
                    have q95 : ((s[k].toNat : Int) == 95) = true := beq_u8 (n := 95) (by omega) h95
                    have HP : Hid ((s.data.toList.take (k + 1)).all wcB = true) := by
                      show _ = true
                      rw [all_snoc hlt, HA.out]
                      unfold wcB
                      rw [hb0, hb1, h95]; simp
                    clear hb0 hb1 h95
                    go_wp2_with fail
                    ((with_reducible refine (rsmall_any s[k] _).mono ?_); rintro e wx ⟨rfl, rfl⟩)
                    rw [HB0.out]
                    go_wp2_with fail
                    ((with_reducible refine (rdig_any s[k] _).mono ?_); rintro e wx ⟨rfl, rfl⟩)
                    rw [HB1.out]
                    go_wp2_with fail
                    go_round
                    case rel => exact ⟨k + 1, by omega, by go_num, HP.out⟩
                    case measure => simp [intOf] <;> omega
                  | false =>
                    have q95 : ((s[k].toNat : Int) == 95) = false := beq_u8 (n := 95) (by omega) h95
                    have HP := Lib.hid (all_bad hlt (p := wcB) (by unfold wcB; rw [hb0, hb1, h95]; rfl))
                    clear hb0 hb1 h95
                    go_wp2_with fail
                    ((with_reducible refine (rsmall_any s[k] _).mono ?_); rintro e wx ⟨rfl, rfl⟩)
                    rw [HB0.out]
                    go_wp2_with fail
                    ((with_reducible refine (rdig_any s[k] _).mono ?_); rintro e wx ⟨rfl, rfl⟩)
                    rw [HB1.out]
                    go_wp2_with fail
                    go_ret
                    exact ⟨nret_int (by unfold nameB wordB; rw [HL.out, HH.out, HC.out, HP.out]; rfl), HB.out⟩
            · have HP : Hid (s.data.toList.all wcB = true) := by
                have := HA.out
                rwa [List.take_of_length_le (by rw [← size_list]; omega)] at this
              go_wp2_with fail
              go_ret
              exact ⟨nret_int (by unfold nameB wordB; rw [HL.out, HH.out, HC.out, HP.out, HK.out]; rfl), HB.out⟩
    · have HL : Hid (longB s.data.toList = false) := by show longB _ = false; unfold longB; rw [decide_eq_false (p := _ ≤ 24) (by rw [← size_list]; exact h2), Bool.and_false]
      have p1 : ¬ (s.size : Int) < 1 := by omega
      have p2 : (24 : Int) < (s.size : Int) := by omega
      go_enter Tryd.func54, Tryd.ntmps54
      go_wp2_with fail
      go_ret
      exact ⟨nret_int (by unfold nameB wordB; rw [HL.out]; rfl), Below.refl _ _⟩
  · have HL : Hid (longB s.data.toList = false) := by show longB _ = false; unfold longB; rw [decide_eq_false (by rw [← size_list]; exact h1)]; rfl
    have p1 : (s.size : Int) < 1 := by omega
    go_enter Tryd.func54, Tryd.ntmps54
    go_wp2_with fail
    go_ret
    exact ⟨nret_int (by unfold nameB wordB; rw [HL.out]; rfl), Below.refl _ _⟩
theorem bts_yes1 {s : ByteArray} (h : (s.toList == [73, 110, 116]) = true) : bts.contains s.data.toList = true := by
  rw [tolist_eq, beq_iff_eq] at h
  rw [h]; rfl
theorem bts_yes2 {s : ByteArray} (h : (s.toList == [66, 111, 111, 108]) = true) : bts.contains s.data.toList = true := by
  rw [tolist_eq, beq_iff_eq] at h
  rw [h]; rfl
theorem bts_yes3 {s : ByteArray} (h : (s.toList == [67, 101, 108, 108]) = true) : bts.contains s.data.toList = true := by
  rw [tolist_eq, beq_iff_eq] at h
  rw [h]; rfl
theorem bts_yes4 {s : ByteArray} (h : (s.toList == [70, 117, 110]) = true) : bts.contains s.data.toList = true := by
  rw [tolist_eq, beq_iff_eq] at h
  rw [h]; rfl
theorem bts_no {s : ByteArray} (h1 : (s.toList == [73, 110, 116]) = false) (h2 : (s.toList == [66, 111, 111, 108]) = false) (h3 : (s.toList == [67, 101, 108, 108]) = false) (h4 : (s.toList == [70, 117, 110]) = false) : bts.contains s.data.toList = false := by
  rw [tolist_eq, beq_eq_false_iff_ne] at h1 h2 h3 h4
  rw [← Bool.not_eq_true, List.contains_iff_mem]
  unfold bts
  simp [h1, h2, h3, h4]

set_option maxRecDepth 100000 in
set_option maxHeartbeats 2000000 in
theorem rtitle_any (s : ByteArray) (w : World) : Calls Tryd.prog 55 #[.string s] w fun e w' => e = .returned (.int .i64 (errI (titleB s.data.toList))) ∧ w = w' := by
  by_cases h1 : 1 ≤ s.size
  · by_cases h2 : s.size ≤ 24
    · have HL : Hid (longB s.data.toList = true) := by show longB _ = true; unfold longB; rw [← size_list, decide_eq_true h1, decide_eq_true h2]; rfl
      have p1 : ¬ (s.size : Int) < 1 := by omega
      have p2 : ¬ (24 : Int) < (s.size : Int) := by omega
      have hp : 0 < s.size := by omega
      have HH := Lib.hid (head_at hp cpB)
      cases hc : cpB s[0] with
      | false =>
        have HC := Lib.hid hc
        clear hc
        go_enter Tryd.func55, Tryd.ntmps55
        go_wp2_with fail
        ((with_reducible refine (rcap_any s[0] _).mono ?_); rintro e wx ⟨rfl, rfl⟩)
        rw [HC.out]
        go_wp2_with fail
        go_ret
        exact ⟨nret_int (by unfold titleB; rw [HL.out, HH.out, HC.out]; rfl), rfl⟩
      | true =>
        have HC := Lib.hid hc
        clear hc
        cases te1 : (s.toList == [73, 110, 116]) with
        | true =>
          have HY : Hid (bts.contains s.data.toList = true) := bts_yes1 te1
          go_enter Tryd.func55, Tryd.ntmps55
          go_wp2_with fail
          ((with_reducible refine (rcap_any s[0] _).mono ?_); rintro e wx ⟨rfl, rfl⟩)
          rw [HC.out]
          go_wp2_with fail
          go_ret
          exact ⟨nret_int (by unfold titleB; rw [HL.out, HH.out, HC.out, HY.out]; first | rfl | simp [errI]), rfl⟩
        | false =>
          cases te2 : (s.toList == [66, 111, 111, 108]) with
          | true =>
            have HY : Hid (bts.contains s.data.toList = true) := bts_yes2 te2
            go_enter Tryd.func55, Tryd.ntmps55
            go_wp2_with fail
            ((with_reducible refine (rcap_any s[0] _).mono ?_); rintro e wx ⟨rfl, rfl⟩)
            rw [HC.out]
            go_wp2_with fail
            go_ret
            exact ⟨nret_int (by unfold titleB; rw [HL.out, HH.out, HC.out, HY.out]; first | rfl | simp [errI]), rfl⟩
          | false =>
            cases te3 : (s.toList == [67, 101, 108, 108]) with
            | true =>
              have HY : Hid (bts.contains s.data.toList = true) := bts_yes3 te3
              go_enter Tryd.func55, Tryd.ntmps55
              go_wp2_with fail
              ((with_reducible refine (rcap_any s[0] _).mono ?_); rintro e wx ⟨rfl, rfl⟩)
              rw [HC.out]
              go_wp2_with fail
              go_ret
              exact ⟨nret_int (by unfold titleB; rw [HL.out, HH.out, HC.out, HY.out]; first | rfl | simp [errI]), rfl⟩
            | false =>
              cases te4 : (s.toList == [70, 117, 110]) with
              | true =>
                have HY : Hid (bts.contains s.data.toList = true) := bts_yes4 te4
                go_enter Tryd.func55, Tryd.ntmps55
                go_wp2_with fail
                ((with_reducible refine (rcap_any s[0] _).mono ?_); rintro e wx ⟨rfl, rfl⟩)
                rw [HC.out]
                go_wp2_with fail
                go_ret
                exact ⟨nret_int (by unfold titleB; rw [HL.out, HH.out, HC.out, HY.out]; first | rfl | simp [errI]), rfl⟩
              | false =>
                have TE1 := te1
                have TE2 := te2
                have TE3 := te3
                have TE4 := te4
                have HN : Hid (bts.contains s.data.toList = false) := bts_no TE1 TE2 TE3 TE4
                clear TE1 TE2 TE3 TE4
                go_enter Tryd.func55, Tryd.ntmps55
                go_wp2_with fail
                ((with_reducible refine (rcap_any s[0] _).mono ?_); rintro e wx ⟨rfl, rfl⟩)
                rw [HC.out]
                go_wp2_with fail
                go_loop [36] (fun i => ∃ k : Nat, k ≤ s.size ∧ i = .int .i64 (k : Int) ∧ (s.data.toList.take k).all anB = true) (fun i => s.size - (intOf i).toNat)
                case atStart => exact ⟨0, Nat.zero_le _, rfl, rfl⟩
                case round =>
                  obtain ⟨k, hk, rfl, ha⟩ := hrel
                  have HA := Lib.hid ha
                  clear ha
                  by_cases hlt : k < s.size
                  · skip
                    cases hb0 : smB s[k] with
                    | true =>
                      have HB0 := Lib.hid hb0
                      have HP : Hid ((s.data.toList.take (k + 1)).all anB = true) := by
                        show _ = true
                        rw [all_snoc hlt, HA.out]
                        unfold anB
                        rw [hb0]; simp
                      clear hb0
                      go_wp2_with fail
                      ((with_reducible refine (rsmall_any s[k] _).mono ?_); rintro e wx ⟨rfl, rfl⟩)
                      rw [HB0.out]
                      go_wp2_with fail
                      go_round
                      case rel => exact ⟨k + 1, by omega, by go_num, HP.out⟩
                      case measure => simp [intOf] <;> omega
                    | false =>
                      have HB0 := Lib.hid hb0
                      cases hb1 : cpB s[k] with
                      | true =>
                        have HB1 := Lib.hid hb1
                        have HP : Hid ((s.data.toList.take (k + 1)).all anB = true) := by
                          show _ = true
                          rw [all_snoc hlt, HA.out]
                          unfold anB
                          rw [hb0, hb1]; simp
                        clear hb0 hb1
                        go_wp2_with fail
                        ((with_reducible refine (rsmall_any s[k] _).mono ?_); rintro e wx ⟨rfl, rfl⟩)
                        rw [HB0.out]
                        go_wp2_with fail
                        ((with_reducible refine (rcap_any s[k] _).mono ?_); rintro e wx ⟨rfl, rfl⟩)
                        rw [HB1.out]
                        go_wp2_with fail
                        go_round
                        case rel => exact ⟨k + 1, by omega, by go_num, HP.out⟩
                        case measure => simp [intOf] <;> omega
                      | false =>
                        have HB1 := Lib.hid hb1
                        cases hb2 : dgB s[k] with
                        | true =>
                          have HB2 := Lib.hid hb2
                          have HP : Hid ((s.data.toList.take (k + 1)).all anB = true) := by
                            show _ = true
                            rw [all_snoc hlt, HA.out]
                            unfold anB
                            rw [hb0, hb1, hb2]; simp
                          clear hb0 hb1 hb2
                          go_wp2_with fail
                          ((with_reducible refine (rsmall_any s[k] _).mono ?_); rintro e wx ⟨rfl, rfl⟩)
                          rw [HB0.out]
                          go_wp2_with fail
                          ((with_reducible refine (rcap_any s[k] _).mono ?_); rintro e wx ⟨rfl, rfl⟩)
                          rw [HB1.out]
                          go_wp2_with fail
                          ((with_reducible refine (rdig_any s[k] _).mono ?_); rintro e wx ⟨rfl, rfl⟩)
                          rw [HB2.out]
                          go_wp2_with fail
                          go_round
                          case rel => exact ⟨k + 1, by omega, by go_num, HP.out⟩
                          case measure => simp [intOf] <;> omega
                        | false =>
                          have HB2 := Lib.hid hb2
                          have HP := Lib.hid (all_bad hlt (p := anB) (by unfold anB; rw [hb0, hb1, hb2]; rfl))
                          clear hb0 hb1 hb2
                          go_wp2_with fail
                          ((with_reducible refine (rsmall_any s[k] _).mono ?_); rintro e wx ⟨rfl, rfl⟩)
                          rw [HB0.out]
                          go_wp2_with fail
                          ((with_reducible refine (rcap_any s[k] _).mono ?_); rintro e wx ⟨rfl, rfl⟩)
                          rw [HB1.out]
                          go_wp2_with fail
                          ((with_reducible refine (rdig_any s[k] _).mono ?_); rintro e wx ⟨rfl, rfl⟩)
                          rw [HB2.out]
                          go_wp2_with fail
                          go_ret
                          exact ⟨nret_int (by unfold titleB alnumB; rw [HL.out, HH.out, HC.out, HP.out]; rfl), rfl⟩
                  · have HP : Hid (s.data.toList.all anB = true) := by
                      have := HA.out
                      rwa [List.take_of_length_le (by rw [← size_list]; omega)] at this
                    go_wp2_with fail
                    go_ret
                    exact ⟨nret_int (by unfold titleB alnumB; rw [HL.out, HH.out, HC.out, HP.out, HN.out]; rfl), rfl⟩
    · have HL : Hid (longB s.data.toList = false) := by show longB _ = false; unfold longB; rw [decide_eq_false (p := _ ≤ 24) (by rw [← size_list]; exact h2), Bool.and_false]
      have p1 : ¬ (s.size : Int) < 1 := by omega
      have p2 : (24 : Int) < (s.size : Int) := by omega
      go_enter Tryd.func55, Tryd.ntmps55
      go_wp2_with fail
      go_ret
      exact ⟨nret_int (by unfold titleB; rw [HL.out]; rfl), rfl⟩
  · have HL : Hid (longB s.data.toList = false) := by show longB _ = false; unfold longB; rw [decide_eq_false (by rw [← size_list]; exact h1)]; rfl
    have p1 : (s.size : Int) < 1 := by omega
    go_enter Tryd.func55, Tryd.ntmps55
    go_wp2_with fail
    go_ret
    exact ⟨nret_int (by unfold titleB; rw [HL.out]; rfl), rfl⟩
end Go.Proofs.YtegognbnphpigaaDoor
