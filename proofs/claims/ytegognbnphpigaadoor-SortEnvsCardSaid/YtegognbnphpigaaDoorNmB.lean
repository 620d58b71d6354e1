/-
  The tables of the package names, and the functions on words.
-/
import Derived.Test.YtegognbnphpigaaDoorNmA
namespace Go.Proofs.YtegognbnphpigaaDoor
open Go.RowKit

def strVal (l : Txt) : Value := .string ⟨l.toArray⟩
def kwVals : Array Value := (kws.map strVal).toArray
def btVals : Array Value := (bts.map strVal).toArray
theorem kw_len : kws.length = 42 := by decide
theorem bt_len : bts.length = 4 := by decide
/-- The two tables of the package. -/
structure Nt (w : World) : Prop where
  kw : ∃ t fr, w.heap[(1 : Nat)]? = some (.cells kwVals t fr)
  bt : ∃ t fr, w.heap[(0 : Nat)]? = some (.cells btVals t fr)
theorem Nt.below {w w' : World} (h : Nt w) (hb : Below w.heap.size w w') : Nt w' := by
  obtain ⟨⟨t, fr, h1⟩, ⟨t2, fr2, h2⟩⟩ := h
  have l1 := (Array.getElem?_eq_some_iff.1 h1).1
  have l2 := (Array.getElem?_eq_some_iff.1 h2).1
  exact ⟨⟨t, fr, by rw [hb.block _ l1]; exact h1⟩, ⟨t2, fr2, by rw [hb.block _ l2]; exact h2⟩⟩
theorem Nt.keep {w w' : World} (h : Nt w) (hb : ∀ k : Nat, k < w.heap.size → w'.heap[k]? = w.heap[k]?) : Nt w' := by
  obtain ⟨⟨t, fr, h1⟩, ⟨t2, fr2, h2⟩⟩ := h
  have l1 := (Array.getElem?_eq_some_iff.1 h1).1
  have l2 := (Array.getElem?_eq_some_iff.1 h2).1
  exact ⟨⟨t, fr, by rw [hb _ l1]; exact h1⟩, ⟨t2, fr2, by rw [hb _ l2]; exact h2⟩⟩
theorem run_kw {k : Nat} (hk : k < 42) (w : World) : (Instr.index 107 (.agg kwVals) (.int .i64 (k : Int))).run Tryd.prog w = .ok (.string ⟨(kws.getD k []).toArray⟩) w := by
  have hn : (0 : Int) ≤ (k : Int) ∧ (k : Int) < ((42 : Nat) : Int) := by omega
  have hl : k < kws.length := by rw [kw_len]; exact hk
  unfold kwVals
  simp [Instr.index, run_underlying Tryd.underlying107, asIntOf, hn, go_sem, hk, List.getElem?_eq_getElem hl, strVal]
theorem run_bt {k : Nat} (hk : k < 4) (w : World) : (Instr.index 104 (.agg btVals) (.int .i64 (k : Int))).run Tryd.prog w = .ok (.string ⟨(bts.getD k []).toArray⟩) w := by
  have hn : (0 : Int) ≤ (k : Int) ∧ (k : Int) < ((4 : Nat) : Int) := by omega
  have hl : k < bts.length := by rw [bt_len]; exact hk
  unfold btVals
  simp [Instr.index, run_underlying Tryd.underlying104, asIntOf, hn, go_sem, hk, List.getElem?_eq_getElem hl, strVal]
theorem txt_beq {s x : ByteArray} {l : Txt} {b : Bool} (hx : x.data.toList = l) (h : decide (s.data.toList = l) = b) : (s.toList == x.toList) = b := by
  rw [← h, tolist_eq, tolist_eq, Bool.eq_iff_iff, beq_iff_eq, decide_eq_true_iff, hx]
theorem info_kw : (Tryd.prog.info? 107).map (·.size) = some kwVals.size := by kernel_rfl
theorem info_bt : (Tryd.prog.info? 104).map (·.size) = some btVals.size := by kernel_rfl
theorem kw_at {l : Txt} {k : Nat} (hk : k < 42) (h : l = kws.getD k []) : kwB l = true := by
  unfold kwB
  rw [List.contains_iff_mem]
  have hl : k < kws.length := by rw [kw_len]; exact hk
  have he : kws.getD k [] = kws[k] := by simp [List.getD, hl]
  rw [h, he]
  exact List.getElem_mem _
theorem kw_no {l : Txt} (h : l ∉ kws.take 42) : kwB l = false := by
  unfold kwB
  rw [← Bool.not_eq_true, List.contains_iff_mem]
  rwa [List.take_of_length_le (by rw [kw_len]; omega)] at h
theorem bt_at {l : Txt} {k : Nat} (hk : k < 4) (h : l = bts.getD k []) : bts.contains l = true := by
  rw [List.contains_iff_mem]
  have hl : k < bts.length := by rw [bt_len]; exact hk
  have he : bts.getD k [] = bts[k] := by simp [List.getD, hl]
  rw [h, he]
  exact List.getElem_mem _
theorem bt_no {l : Txt} (h : l ∉ bts.take 4) : bts.contains l = false := by
  rw [← Bool.not_eq_true, List.contains_iff_mem]
  rwa [List.take_of_length_le (by rw [bt_len]; omega)] at h

set_option maxHeartbeats 1000000 in
theorem keyword_any (s : ByteArray) (w : World) (hT : Nt w) : Calls Tryd.prog 79 #[.string s] w fun e w' => e = .returned (.bool (kwB s.data.toList)) ∧ w = w' := by
  obtain ⟨⟨t, fr, hg⟩, -⟩ := hT
  go_enter Tryd.func79, Tryd.ntmps79
  have RX : ∀ k : Nat, k < 42 → ∃ x : ByteArray, x.data.toList = kws.getD k [] ∧ (Instr.index 107 (.agg kwVals) (.int .i64 (k : Int))).run Tryd.prog w = .ok (.string x) w := fun k hk => ⟨_, rfl, run_kw hk w⟩
  have HI := info_kw
  generalize kwVals = V at *
  go_wp2_with (refine wpList_load_row rfl 107 _ rfl 1 rfl t _ fr _ hg Tryd.underlying107 rfl HI ?_)
  go_loop [6] (fun i => ∃ k : Nat, k ≤ 42 ∧ i = .int .i64 (k : Int) ∧ s.data.toList ∉ kws.take k) (fun i => 42 - (intOf i).toNat)
  case atStart => exact ⟨0, Nat.zero_le _, rfl, by simp⟩
  case round =>
    obtain ⟨k, hk, rfl, ha⟩ := hrel
    have HA := Lib.hid ha
    clear ha
    by_cases hlt : k < 42
    · obtain ⟨x, hx, RI⟩ := RX k hlt
      have HX := Lib.hid hx
      clear hx RX
      have HLT := Lib.hid hlt
      have q1 : (k : Int) < 42 := by omega
      cases hd : decide (s.data.toList = kws.getD k []) with
      | true =>
        have HD := Lib.hid hd
        have TB := txt_beq HX.out hd
        clear hd
        go_wp2_with fail
        go_ret
        exact ⟨nret_bool (by have := kw_at HLT.out (of_decide_eq_true HD.out); rw [this]), rfl⟩
      | false =>
        have HD := Lib.hid hd
        have TB := txt_beq HX.out hd
        clear hd
        go_wp2_with fail
        go_round
        case rel => exact ⟨k + 1, by omega, by go_num, not_mem_snoc (by rw [kw_len]; exact HLT.out) (fun e => of_decide_eq_false HD.out e.symm) HA.out⟩
        case measure => simp [intOf] <;> omega
    · have hke : k = 42 := by omega
      subst hke
      go_wp2_with fail
      go_ret
      exact ⟨nret_bool (by have := kw_no HA.out; rw [this]), rfl⟩

def errI (b : Bool) : Int := if b then 0 else 3
theorem errless_any (b : Bool) (w : World) : Calls Tryd.prog 57 #[.bool b] w fun e w' => e = .returned (.int .i64 (errI b)) ∧ w = w' := by
  cases b
  · go_enter Tryd.func57, Tryd.ntmps57
    go_wp2_with fail
    go_ret
    exact ⟨rfl, rfl⟩
  · go_enter Tryd.func57, Tryd.ntmps57
    go_wp2_with fail
    go_ret
    exact ⟨rfl, rfl⟩

theorem isname_any (s : ByteArray) (w : World) (hT : Nt w) : Calls Tryd.prog 71 #[.string s] w fun e w' => e = .returned (.bool (nameB s.data.toList)) ∧ w = w' := by
  cases hw : wordB s.data.toList with
  | false =>
    have HW := Lib.hid hw
    clear hw
    go_enter Tryd.func71, Tryd.ntmps71
    go_wp2_with fail
    ((with_reducible refine (isword_any s _).mono ?_); rintro e wx ⟨rfl, rfl⟩)
    rw [HW.out]
    go_wp2_with fail
    go_ret
    exact ⟨nret_bool (by unfold nameB; rw [HW.out]; rfl), rfl⟩
  | true =>
    have HW := Lib.hid hw
    cases hk : kwB s.data.toList with
    | false =>
      have HK := Lib.hid hk
      clear hw hk
      go_enter Tryd.func71, Tryd.ntmps71
      go_wp2_with fail
      ((with_reducible refine (isword_any s _).mono ?_); rintro e wx ⟨rfl, rfl⟩)
      rw [HW.out]
      go_wp2_with fail
      ((with_reducible refine (keyword_any s _ hT).mono ?_); rintro e wx ⟨rfl, rfl⟩)
      rw [HK.out]
      go_wp2_with fail
      go_ret
      exact ⟨nret_bool (by unfold nameB; rw [HW.out, HK.out]; rfl), rfl⟩
    | true =>
      have HK := Lib.hid hk
      clear hw hk
      go_enter Tryd.func71, Tryd.ntmps71
      go_wp2_with fail
      ((with_reducible refine (isword_any s _).mono ?_); rintro e wx ⟨rfl, rfl⟩)
      rw [HW.out]
      go_wp2_with fail
      ((with_reducible refine (keyword_any s _ hT).mono ?_); rintro e wx ⟨rfl, rfl⟩)
      rw [HK.out]
      go_wp2_with fail
      go_ret
      exact ⟨nret_bool (by unfold nameB; rw [HW.out, HK.out]; rfl), rfl⟩

set_option maxHeartbeats 1000000 in
theorem istitle_any (s : ByteArray) (w : World) (hT : Nt w) : Calls Tryd.prog 72 #[.string s] w fun e w' => e = .returned (.bool (titleB s.data.toList)) ∧ w = w' := by
  obtain ⟨-, ⟨t, fr, hg⟩⟩ := hT
  cases hl : longB s.data.toList with
  | false =>
    have HL := Lib.hid hl
    clear hl
    go_enter Tryd.func72, Tryd.ntmps72
    go_wp2_with fail
    ((with_reducible refine (islong_any s _).mono ?_); rintro e wx ⟨rfl, rfl⟩)
    rw [HL.out]
    go_wp2_with fail
    go_ret
    exact ⟨nret_bool (by unfold titleB; rw [HL.out]; rfl), rfl⟩
  | true =>
    have HL := Lib.hid hl
    obtain ⟨h1, h24⟩ := long_yes hl
    have hp : 0 < s.size := by omega
    have HH := Lib.hid (head_at hp cpB)
    cases hc : cpB s[0] with
    | false =>
      have HC := Lib.hid hc
      clear hl hc
      go_enter Tryd.func72, Tryd.ntmps72
      go_wp2_with fail
      ((with_reducible refine (islong_any s _).mono ?_); rintro e wx ⟨rfl, rfl⟩)
      rw [HL.out]
      go_wp2_with fail
      ((with_reducible refine (cap_any s[0] _).mono ?_); rintro e wx ⟨rfl, rfl⟩)
      rw [HC.out]
      go_wp2_with fail
      go_ret
      exact ⟨nret_bool (by unfold titleB; rw [HL.out, HH.out, HC.out]; rfl), rfl⟩
    | true =>
      have HC := Lib.hid hc
      cases ha2 : alnumB s.data.toList with
      | false =>
        have HA2 := Lib.hid ha2
        clear hl hc ha2
        go_enter Tryd.func72, Tryd.ntmps72
        go_wp2_with fail
        ((with_reducible refine (islong_any s _).mono ?_); rintro e wx ⟨rfl, rfl⟩)
        rw [HL.out]
        go_wp2_with fail
        ((with_reducible refine (cap_any s[0] _).mono ?_); rintro e wx ⟨rfl, rfl⟩)
        rw [HC.out]
        go_wp2_with fail
        ((with_reducible refine (isalnum_any s _ h24).mono ?_); rintro e wx ⟨rfl, rfl⟩)
        rw [HA2.out]
        go_wp2_with fail
        go_ret
        exact ⟨nret_bool (by unfold titleB; rw [HL.out, HH.out, HC.out, HA2.out]; rfl), rfl⟩
      | true =>
        have HA2 := Lib.hid ha2
        clear hl hc ha2
        have RX : ∀ k : Nat, k < 4 → ∃ x : ByteArray, x.data.toList = bts.getD k [] ∧ (Instr.index 104 (.agg btVals) (.int .i64 (k : Int))).run Tryd.prog w = .ok (.string x) w := fun k hk => ⟨_, rfl, run_bt hk w⟩
        have HI := info_bt
        generalize btVals = V at *
        go_enter Tryd.func72, Tryd.ntmps72
        go_wp2_with fail
        ((with_reducible refine (islong_any s _).mono ?_); rintro e wx ⟨rfl, rfl⟩)
        rw [HL.out]
        go_wp2_with fail
        ((with_reducible refine (cap_any s[0] _).mono ?_); rintro e wx ⟨rfl, rfl⟩)
        rw [HC.out]
        go_wp2_with fail
        ((with_reducible refine (isalnum_any s _ h24).mono ?_); rintro e wx ⟨rfl, rfl⟩)
        rw [HA2.out]
        go_wp2_with (refine wpList_load_row rfl 104 _ rfl 0 rfl t _ fr _ hg Tryd.underlying104 rfl HI ?_)
        go_loop [20] (fun i => ∃ k : Nat, k ≤ 4 ∧ i = .int .i64 (k : Int) ∧ s.data.toList ∉ bts.take k) (fun i => 4 - (intOf i).toNat)
        case atStart => exact ⟨0, Nat.zero_le _, rfl, by simp⟩
        case round =>
          obtain ⟨k, hk, rfl, ha⟩ := hrel
          have HA := Lib.hid ha
          clear ha
          by_cases hlt : k < 4
          · obtain ⟨x, hx, RI⟩ := RX k hlt
            have HX := Lib.hid hx
            clear hx RX
            have HLT := Lib.hid hlt
            have q1 : (k : Int) < 4 := by omega
            cases hd : decide (s.data.toList = bts.getD k []) with
            | true =>
              have HD := Lib.hid hd
              have TB := txt_beq HX.out hd
              clear hd
              go_wp2_with fail
              go_ret
              exact ⟨nret_bool (by have := bt_at HLT.out (of_decide_eq_true HD.out); unfold titleB; rw [HL.out, HH.out, HC.out, HA2.out, this]; rfl), rfl⟩
            | false =>
              have HD := Lib.hid hd
              have TB := txt_beq HX.out hd
              clear hd
              go_wp2_with fail
              go_round
              case rel => exact ⟨k + 1, by omega, by go_num, not_mem_snoc (by rw [bt_len]; exact HLT.out) (fun e => of_decide_eq_false HD.out e.symm) HA.out⟩
              case measure => simp [intOf] <;> omega
          · have hke : k = 4 := by omega
            subst hke
            go_wp2_with fail
            go_ret
            exact ⟨nret_bool (by have := bt_no HA.out; unfold titleB; rw [HL.out, HH.out, HC.out, HA2.out, this]; rfl), rfl⟩

theorem ispart_any (s : ByteArray) (w : World) : Calls Tryd.prog 74 #[.string s] w fun e w' => e = .returned (.bool (partB s.data.toList)) ∧ w = w' := by
  cases hw : wordB s.data.toList with
  | false =>
    have HW := Lib.hid hw
    cases hl : longB s.data.toList with
    | false =>
      have HL := Lib.hid hl
      clear hw hl
      go_enter Tryd.func74, Tryd.ntmps74
      go_wp2_with fail
      ((with_reducible refine (isword_any s _).mono ?_); rintro e wx ⟨rfl, rfl⟩)
      rw [HW.out]
      go_wp2_with fail
      ((with_reducible refine (islong_any s _).mono ?_); rintro e wx ⟨rfl, rfl⟩)
      rw [HL.out]
      go_wp2_with fail
      go_ret
      exact ⟨nret_bool (by unfold partB; rw [HW.out, HL.out]; rfl), rfl⟩
    | true =>
      have HL := Lib.hid hl
      obtain ⟨h1, h24⟩ := long_yes hl
      cases ha2 : alnumB s.data.toList with
      | false =>
        have HA2 := Lib.hid ha2
        clear hw hl ha2
        go_enter Tryd.func74, Tryd.ntmps74
        go_wp2_with fail
        ((with_reducible refine (isword_any s _).mono ?_); rintro e wx ⟨rfl, rfl⟩)
        rw [HW.out]
        go_wp2_with fail
        ((with_reducible refine (islong_any s _).mono ?_); rintro e wx ⟨rfl, rfl⟩)
        rw [HL.out]
        go_wp2_with fail
        ((with_reducible refine (isalnum_any s _ h24).mono ?_); rintro e wx ⟨rfl, rfl⟩)
        rw [HA2.out]
        go_wp2_with fail
        go_ret
        exact ⟨nret_bool (by unfold partB; rw [HW.out, HL.out, HA2.out]; rfl), rfl⟩
      | true =>
        have HA2 := Lib.hid ha2
        clear hw hl ha2
        go_enter Tryd.func74, Tryd.ntmps74
        go_wp2_with fail
        ((with_reducible refine (isword_any s _).mono ?_); rintro e wx ⟨rfl, rfl⟩)
        rw [HW.out]
        go_wp2_with fail
        ((with_reducible refine (islong_any s _).mono ?_); rintro e wx ⟨rfl, rfl⟩)
        rw [HL.out]
        go_wp2_with fail
        ((with_reducible refine (isalnum_any s _ h24).mono ?_); rintro e wx ⟨rfl, rfl⟩)
        rw [HA2.out]
        go_wp2_with fail
        go_ret
        exact ⟨nret_bool (by unfold partB; rw [HW.out, HL.out, HA2.out]; rfl), rfl⟩
  | true =>
    have HW := Lib.hid hw
    clear hw
    go_enter Tryd.func74, Tryd.ntmps74
    go_wp2_with fail
    ((with_reducible refine (isword_any s _).mono ?_); rintro e wx ⟨rfl, rfl⟩)
    rw [HW.out]
    go_wp2_with fail
    go_ret
    exact ⟨nret_bool (by unfold partB; rw [HW.out]; rfl), rfl⟩

end Go.Proofs.YtegognbnphpigaaDoor
