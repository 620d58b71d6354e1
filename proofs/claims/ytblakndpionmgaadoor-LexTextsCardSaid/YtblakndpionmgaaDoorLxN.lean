/-
  Contract of number.
-/
import Derived.Test.YtblakndpionmgaaDoorLxB
import Derived.Test.YtblakndpionmgaaDoorLxNum
import Derived.Test.YtblakndpionmgaaDoorTextA
import Derived.Test.YtblakndpionmgaaDoorLxG
namespace Go.Proofs.YtblakndpionmgaaDoor
open Go.RowKit

abbrev Tabx (w : World) : Prop := Lib.TabIs Tryd.prog w "internal/strconv.uint64pow10" .u64 Lib.pow10Tab
theorem tabx_on {w w' : World} (h : Tabx w) (hb : Below w.heap.size w w') : Tabx w' := Lib.tabBelow_of_tabIs h w' hb
theorem nret {x y : Value} (h : x = y) : Ending.returned x = .returned y := by rw [h]
theorem num_yes {s : ByteArray} (h : valN s.data.toList ≤ 1000000000000) : (.tuple #[.agg #[.int .i64 3, .string s, .int .i64 ((valN s.data.toList : Nat) : Int), .int .i64 0], .bool true] : Value) = encT (numT s.data.toList) := by
  unfold numT encT tkVal
  rw [if_pos h]
theorem num_no {l : Txt} (h : ¬ valN l ≤ 1000000000000) : (.tuple #[.agg #[.int .i64 0, .string ⟨#[]⟩, .int .i64 0, .int .i64 0], .bool false] : Value) = encT (numT l) := by
  unfold numT encT tkVal
  rw [if_neg h]
  rfl
set_option maxRecDepth 100000 in
set_option maxHeartbeats 2000000 in
theorem number_any (s : ByteArray) (w : World) (hd : s.data.toList.all dgB = true) (hsz : s.size ≤ 1000000) (htab : Tabx w) : Calls Tryd.prog 74 #[.string s] w fun e w' => e = .returned (encT (numT s.data.toList)) ∧ Below w.heap.size w w' := by
  have HD := Lib.hid hd
  have HT := Lib.hid htab
  obtain ⟨x, hx⟩ : ∃ x : ByteArray, x = ⟨(Lib.trimLeftB s.data.toList 48).toArray⟩ := ⟨_, rfl⟩
  have CT := fun W => Tryd.strings_TrimLeft_one s 48 (by decide) W
  rw [← hx] at CT
  have hxl : x.data.toList = Lib.trimLeftB s.data.toList 48 := by rw [hx]
  have HX := Lib.hid hxl
  have hxs : x.size ≤ maxLen := by
    rw [size_list, hxl]
    have := trim_len s.data.toList
    rw [← size_list] at this
    unfold maxLen; omega
  have HXS := Lib.hid hxs
  clear hx hd htab hxs
  by_cases h0 : x.data.toList = []
  · have TB1 : (x.toList == []) = true := by rw [tolist_eq, h0]; rfl
    have TB2 : x.toList.isEmpty = true := by rw [tolist_eq, h0]; rfl
    have HV : Hid (valN s.data.toList = 0) := by show _ = _; rw [← valN_trim, ← hxl, h0]; rfl
    clear h0 hxl
    have BK := Lib.hid (Bk.new 36 w #[.int .i64 0, .string ⟨#[]⟩, .int .i64 0, .int .i64 0])
    have HB : Hid (Below w.heap.size w (w.alloc (.cells #[.int .i64 0, .string ⟨#[]⟩, .int .i64 0, .int .i64 0] 36))) := (Below.refl _ w).alloc (Nat.le_refl _) _
    go_enter Tryd.func74, Tryd.ntmps74
    go_upto_region 1 with fail
    generalize (w.alloc (.cells #[.int .i64 0, .string ⟨#[]⟩, .int .i64 0, .int .i64 0] 36)) = W0 at *
    go_wp2_with fail
    ((with_reducible refine (CT _).mono ?_); rintro e wx ⟨rfl, rfl⟩)
    have e0 := BK.out.c 0 (v := .int .i64 0) rfl
    have z0 := BK.out.fz 0
    have e1 := BK.out.c 1 (v := .string ⟨#[]⟩) rfl
    have z1 := BK.out.fz 1
    have e2 := BK.out.c 2 (v := .int .i64 0) rfl
    have z2 := BK.out.fz 2
    have e3 := BK.out.c 3 (v := .int .i64 0) rfl
    have z3 := BK.out.fz 3
    go_wp2_with fail
    clear e0 e1 e2 e3 z0 z1 z2 z3
    have BS := BK.out.set4 (.int .i64 3) (.string s) (.int .i64 0) (.int .i64 0)
    have HBS := below_set4 HB.out (Nat.le_refl _) (.int .i64 3) (.string s) (.int .i64 0) (.int .i64 0)
    have e0 := BS.c 0 (v := .int .i64 3) rfl
    have e1 := BS.c 1 (v := .string s) rfl
    have e2 := BS.c 2 (v := .int .i64 0) rfl
    have e3 := BS.c 3 (v := .int .i64 0) rfl
    refine bodyPost_ret (v := .tuple #[.agg #[.int .i64 3, .string s, .int .i64 0, .int .i64 0], .bool true]) (by simp [results, Tryd.results74, go_sem, *]) rfl ⟨nret (by have := num_yes (s := s) (by rw [HV.out]; omega); rw [HV.out] at this; exact this), HBS⟩
  · have TB1 : (x.toList == []) = false := by rw [tolist_eq]; exact beq_eq_false_iff_ne.2 h0
    have TB2 : x.toList.isEmpty = false := by rw [tolist_eq]; cases hq : x.data.toList with | nil => exact absurd hq h0 | cons a r => rfl
    have hpd := parse_dig (l := x.data.toList) (by rw [hxl]; exact trim_all HD.out) (by intro c r e; rw [hxl] at e; exact trim_head e) h0
    have hvx : valN x.data.toList = valN s.data.toList := by rw [hxl, valN_trim]
    rw [hvx] at hpd
    have CP := fun W h => parse_any x W HXS.out h
    clear h0 hxl hvx
    by_cases hv : valN s.data.toList ≤ 1000000000000
    · have HV := Lib.hid hv
      rw [hpd.1, hpd.2 hv, decide_eq_true hv] at CP
      clear hpd hv
      have BK := Lib.hid (Bk.new 36 w #[.int .i64 0, .string ⟨#[]⟩, .int .i64 0, .int .i64 0])
      have HB : Hid (Below w.heap.size w (w.alloc (.cells #[.int .i64 0, .string ⟨#[]⟩, .int .i64 0, .int .i64 0] 36))) := (Below.refl _ w).alloc (Nat.le_refl _) _
      go_enter Tryd.func74, Tryd.ntmps74
      go_upto_region 1 with fail
      generalize (w.alloc (.cells #[.int .i64 0, .string ⟨#[]⟩, .int .i64 0, .int .i64 0] 36)) = W0 at *
      go_wp2_with fail
      ((with_reducible refine (CT _).mono ?_); rintro e wx ⟨rfl, rfl⟩)
      go_wp2_with fail
      (refine (CP _ (tabx_on HT.out HB.out)).mono ?_); rintro e W1 ⟨rfl, hb⟩
      have BK1 := Lib.hid (BK.out.below hb)
      have HB1 := Lib.hid (nbelow_on HB.out hb)
      clear hb BK HB CT CP
      have e0 := BK1.out.c 0 (v := .int .i64 0) rfl
      have z0 := BK1.out.fz 0
      have e1 := BK1.out.c 1 (v := .string ⟨#[]⟩) rfl
      have z1 := BK1.out.fz 1
      have e2 := BK1.out.c 2 (v := .int .i64 0) rfl
      have z2 := BK1.out.fz 2
      have e3 := BK1.out.c 3 (v := .int .i64 0) rfl
      have z3 := BK1.out.fz 3
      go_wp2_with fail
      clear e0 e1 e2 e3 z0 z1 z2 z3
      have BS := BK1.out.set4 (.int .i64 3) (.string s) (.int .i64 ((valN s.data.toList : Nat) : Int)) (.int .i64 0)
      have HBS := below_set4 HB1.out (Nat.le_refl _) (.int .i64 3) (.string s) (.int .i64 ((valN s.data.toList : Nat) : Int)) (.int .i64 0)
      have e0 := BS.c 0 (v := .int .i64 3) rfl
      have e1 := BS.c 1 (v := .string s) rfl
      have e2 := BS.c 2 (v := .int .i64 ((valN s.data.toList : Nat) : Int)) rfl
      have e3 := BS.c 3 (v := .int .i64 0) rfl
      refine bodyPost_ret (v := .tuple #[.agg #[.int .i64 3, .string s, .int .i64 ((valN s.data.toList : Nat) : Int), .int .i64 0], .bool true]) (by simp [results, Tryd.results74, go_sem, *]) rfl ⟨nret (num_yes HV.out), HBS⟩
    · have HV := Lib.hid hv
      have hpb := hpd.1
      rw [decide_eq_false hv] at hpb
      rw [hpb] at CP
      clear hpd hv hpb
      have BK := Lib.hid (Bk.new 36 w #[.int .i64 0, .string ⟨#[]⟩, .int .i64 0, .int .i64 0])
      have HB : Hid (Below w.heap.size w (w.alloc (.cells #[.int .i64 0, .string ⟨#[]⟩, .int .i64 0, .int .i64 0] 36))) := (Below.refl _ w).alloc (Nat.le_refl _) _
      go_enter Tryd.func74, Tryd.ntmps74
      go_upto_region 1 with fail
      generalize (w.alloc (.cells #[.int .i64 0, .string ⟨#[]⟩, .int .i64 0, .int .i64 0] 36)) = W0 at *
      go_wp2_with fail
      ((with_reducible refine (CT _).mono ?_); rintro e wx ⟨rfl, rfl⟩)
      go_wp2_with fail
      (refine (CP _ (tabx_on HT.out HB.out)).mono ?_); rintro e W1 ⟨rfl, hb⟩
      have BK1 := Lib.hid (BK.out.below hb)
      have HB1 := Lib.hid (nbelow_on HB.out hb)
      clear hb BK HB CT CP
      have e0 := BK1.out.c 0 (v := .int .i64 0) rfl
      have z0 := BK1.out.fz 0
      have e1 := BK1.out.c 1 (v := .string ⟨#[]⟩) rfl
      have z1 := BK1.out.fz 1
      have e2 := BK1.out.c 2 (v := .int .i64 0) rfl
      have z2 := BK1.out.fz 2
      have e3 := BK1.out.c 3 (v := .int .i64 0) rfl
      have z3 := BK1.out.fz 3
      go_wp2_with fail
      clear e0 e1 e2 e3 z0 z1 z2 z3
      have BS := BK1.out.set4 (.int .i64 0) (.string ⟨#[]⟩) (.int .i64 0) (.int .i64 0)
      have HBS := below_set4 HB1.out (Nat.le_refl _) (.int .i64 0) (.string ⟨#[]⟩) (.int .i64 0) (.int .i64 0)
      have e0 := BS.c 0 (v := .int .i64 0) rfl
      have e1 := BS.c 1 (v := .string ⟨#[]⟩) rfl
      have e2 := BS.c 2 (v := .int .i64 0) rfl
      have e3 := BS.c 3 (v := .int .i64 0) rfl
      refine bodyPost_ret (v := .tuple #[.agg #[.int .i64 0, .string ⟨#[]⟩, .int .i64 0, .int .i64 0], .bool false]) (by simp [results, Tryd.results74, go_sem, *]) rfl ⟨nret (num_no HV.out), HBS⟩
end Go.Proofs.YtblakndpionmgaaDoor
