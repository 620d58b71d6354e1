/-
  The reference's first.
-/
import Derived.Test.YtblakndpionmgaaDoorLxR
namespace Go.Proofs.YtblakndpionmgaaDoor
open Go.RowKit

/-- What the reference's first hands back: the token, or false. -/
def XfP (o : Option Tk) (w : World) (e : Ending) (w' : World) : Prop := ∃ (k n : Int) (x : ByteArray) (b : Bool), e = .returned (.tuple #[.agg #[.int .i64 k, .string x, .int .i64 n, .int .i64 0], .bool b]) ∧ b = o.isSome ∧ (∀ t, o = some t → k = t.kind ∧ x.data.toList = t.text ∧ n = t.n) ∧ Below w.heap.size w w'
theorem xf_none {o : Option Tk} {w w' : World} {k n : Int} {x : ByteArray} (h : o = none) (hb : Below w.heap.size w w') : XfP o w (.returned (.tuple #[.agg #[.int .i64 k, .string x, .int .i64 n, .int .i64 0], .bool false])) w' := by
  subst h; exact ⟨k, n, x, false, rfl, rfl, fun t h => (by cases h), hb⟩
theorem xf_some {o : Option Tk} {w w' : World} {k n : Int} {x : ByteArray} {l : Txt} (h : o = some ⟨k, l, n, 0⟩) (hx : x.data.toList = l) (hb : Below w.heap.size w w') : XfP o w (.returned (.tuple #[.agg #[.int .i64 k, .string x, .int .i64 n, .int .i64 0], .bool true])) w' := by
  subst h; exact ⟨k, n, x, true, rfl, rfl, fun t h => (by cases h; exact ⟨rfl, hx, rfl⟩), hb⟩
theorem ext_k {s : ByteArray} {p : UInt8 → Bool} {k : Nat} (h : (s.data.toList.takeWhile p).length = k) : (s.extract 0 k).data.toList = s.data.toList.takeWhile p := by
  rw [← h, ext_tw]
set_option maxRecDepth 100000 in
set_option maxHeartbeats 8000000 in
theorem xfirst_any (s : ByteArray) (w : World) (h0 : 0 < s.size) (hsz : s.size ≤ 1000000) : Calls Tryd.prog 46 #[.string s] w fun e w' => XfP (firstT s.data.toList) w e w' := by
  have HSZ := Lib.hid hsz
  have HP0 : Hid (s.size ≠ 0) := Nat.pos_iff_ne_zero.1 h0
  have h00 : (0 : Int) < (s.size : Int) := by omega
  have HFE := Lib.hid (first_eq h0)
  cases hsm : smB s[0] with
  | true =>
    have HE : Hid (firstT s.data.toList = some ⟨1, s.data.toList.takeWhile idB, 0, 0⟩) := by show _ = _; rw [HFE.out, hsm]; rfl
    have HID : Hid (idB s[0] = true) := by show _ = _; unfold idB; rw [hsm]; rfl
    have H1 := Lib.hid hsm
    clear hsm
    have BK := Lib.hid (Bk.new 36 w #[.int .i64 0, .string ⟨#[]⟩, .int .i64 0, .int .i64 0])
    have HB : Hid (Below w.heap.size w (w.alloc (.cells #[.int .i64 0, .string ⟨#[]⟩, .int .i64 0, .int .i64 0] 36))) := (Below.refl _ w).alloc (Nat.le_refl _) _
    go_enter Tryd.func46, Tryd.ntmps46
    go_upto_region 1 with fail
    generalize (w.alloc (.cells #[.int .i64 0, .string ⟨#[]⟩, .int .i64 0, .int .i64 0] 36)) = W0 at *
    go_wp2_with fail
    ((with_reducible refine (xsm_any s[0] _).mono ?_); rintro e wx ⟨rfl, rfl⟩)
    rw [H1.out]
    go_wp2_with fail
    go_loop [4] (fun nv => ∃ k : Nat, 1 ≤ k ∧ k ≤ s.size ∧ nv = .int .i64 (k : Int) ∧ (s.data.toList.take k).all idB = true) (fun nv => s.size - (intOf nv).toNat)
    case atStart => exact ⟨1, Nat.le_refl _, (Nat.pos_iff_ne_zero.2 HP0.out), rfl, by rw [all_snoc (k := 0) (Nat.pos_iff_ne_zero.2 HP0.out), HID.out]; rfl⟩
    case round =>
      obtain ⟨k, hk1, hk, rfl, ha⟩ := hrel
      have HA := Lib.hid ha
      clear ha
      by_cases hlt : k < s.size
      · have q1 : (k : Int) < s.size := by omega
        have CI := xid_any s[k] W0
        cases hb : idB s[k] with
        | true =>
          have HSN : Hid ((s.data.toList.take (k + 1)).all idB = true) := by show _ = true; rw [all_snoc hlt, HA.out, hb]; rfl
          rw [hb] at CI
          clear hb
          go_wp2_with fail
          ((with_reducible refine CI.mono ?_); rintro e wx ⟨rfl, rfl⟩)
          go_wp2_with fail
          go_round
          case rel => exact ⟨k + 1, by omega, by omega, by go_num, HSN.out⟩
          case measure => simp [intOf] <;> omega
        | false =>
          have HTW := Lib.hid (tw_at hlt HA.out hb)
          have q2 : (0 : Int) ≤ (k : Int) ∧ (k : Int) ≤ (s.size : Int) := by omega
          rw [hb] at CI
          clear hb
          go_wp2_with fail
          ((with_reducible refine CI.mono ?_); rintro e wx ⟨rfl, rfl⟩)
          go_wp2_with fail
          ((with_reducible refine (xsm_any s[0] _).mono ?_); rintro e wx ⟨rfl, rfl⟩)
          rw [H1.out]
          have e0 := BK.out.c 0 (v := .int .i64 0) rfl
          have z0 := BK.out.fz 0
          have e1 := BK.out.c 1 (v := .string ⟨#[]⟩) rfl
          have z1 := BK.out.fz 1
          have e2 := BK.out.c 2 (v := .int .i64 0) rfl
          have z2 := BK.out.fz 2
          have e3 := BK.out.c 3 (v := .int .i64 0) rfl
          have z3 := BK.out.fz 3
          go_wp2_with fail
          clear e0 e1 e2 e3 z0 z1 z2 z3
          have BS := BK.out.set4 (.int .i64 1) (.string (s.extract 0 k)) (.int .i64 0) (.int .i64 0)
          have HBS := below_set4 HB.out (Nat.le_refl _) (.int .i64 1) (.string (s.extract 0 k)) (.int .i64 0) (.int .i64 0)
          have e0 := BS.c 0 (v := .int .i64 1) rfl
          have e1 := BS.c 1 (v := .string (s.extract 0 k)) rfl
          have e2 := BS.c 2 (v := .int .i64 0) rfl
          have e3 := BS.c 3 (v := .int .i64 0) rfl
          refine bodyPost_ret (v := .tuple #[.agg #[.int .i64 1, .string (s.extract 0 k), .int .i64 0, .int .i64 0], .bool true]) (by simp [results, Tryd.results46, go_sem, *]) rfl (xf_some HE.out (ext_k HTW.out) HBS)
      · have hke : k = s.size := by omega
        have HTW : Hid ((s.data.toList.takeWhile idB).length = k) := by
          have h1 := HA.out
          rw [hke, List.take_of_length_le (by rw [← size_list]; exact Nat.le_refl _)] at h1
          show _ = _
          rw [tw_all h1, hke, size_list]
        have q1 : ¬ (k : Int) < s.size := by omega
        have q2 : (0 : Int) ≤ (k : Int) ∧ (k : Int) ≤ (s.size : Int) := by omega
        clear hke
        go_wp2_with fail
        ((with_reducible refine (xsm_any s[0] _).mono ?_); rintro e wx ⟨rfl, rfl⟩)
        rw [H1.out]
        have e0 := BK.out.c 0 (v := .int .i64 0) rfl
        have z0 := BK.out.fz 0
        have e1 := BK.out.c 1 (v := .string ⟨#[]⟩) rfl
        have z1 := BK.out.fz 1
        have e2 := BK.out.c 2 (v := .int .i64 0) rfl
        have z2 := BK.out.fz 2
        have e3 := BK.out.c 3 (v := .int .i64 0) rfl
        have z3 := BK.out.fz 3
        go_wp2_with fail
        clear e0 e1 e2 e3 z0 z1 z2 z3
        have BS := BK.out.set4 (.int .i64 1) (.string (s.extract 0 k)) (.int .i64 0) (.int .i64 0)
        have HBS := below_set4 HB.out (Nat.le_refl _) (.int .i64 1) (.string (s.extract 0 k)) (.int .i64 0) (.int .i64 0)
        have e0 := BS.c 0 (v := .int .i64 1) rfl
        have e1 := BS.c 1 (v := .string (s.extract 0 k)) rfl
        have e2 := BS.c 2 (v := .int .i64 0) rfl
        have e3 := BS.c 3 (v := .int .i64 0) rfl
        refine bodyPost_ret (v := .tuple #[.agg #[.int .i64 1, .string (s.extract 0 k), .int .i64 0, .int .i64 0], .bool true]) (by simp [results, Tryd.results46, go_sem, *]) rfl (xf_some HE.out (ext_k HTW.out) HBS)
  | false =>
    have H1 := Lib.hid hsm
    cases hcp : cpB s[0] with
    | true =>
      have HE : Hid (firstT s.data.toList = some ⟨2, s.data.toList.takeWhile idB, 0, 0⟩) := by show _ = _; rw [HFE.out, hsm, hcp]; rfl
      have HID : Hid (idB s[0] = true) := by show _ = _; unfold idB; rw [hsm, hcp]; rfl
      have H2 := Lib.hid hcp
      clear hsm hcp
      have BK := Lib.hid (Bk.new 36 w #[.int .i64 0, .string ⟨#[]⟩, .int .i64 0, .int .i64 0])
      have HB : Hid (Below w.heap.size w (w.alloc (.cells #[.int .i64 0, .string ⟨#[]⟩, .int .i64 0, .int .i64 0] 36))) := (Below.refl _ w).alloc (Nat.le_refl _) _
      go_enter Tryd.func46, Tryd.ntmps46
      go_upto_region 1 with fail
      generalize (w.alloc (.cells #[.int .i64 0, .string ⟨#[]⟩, .int .i64 0, .int .i64 0] 36)) = W0 at *
      go_wp2_with fail
      ((with_reducible refine (xsm_any s[0] _).mono ?_); rintro e wx ⟨rfl, rfl⟩)
      rw [H1.out]
      go_wp2_with fail
      ((with_reducible refine (xcp_any s[0] _).mono ?_); rintro e wx ⟨rfl, rfl⟩)
      rw [H2.out]
      go_wp2_with fail
      go_loop [4] (fun nv => ∃ k : Nat, 1 ≤ k ∧ k ≤ s.size ∧ nv = .int .i64 (k : Int) ∧ (s.data.toList.take k).all idB = true) (fun nv => s.size - (intOf nv).toNat)
      case atStart => exact ⟨1, Nat.le_refl _, (Nat.pos_iff_ne_zero.2 HP0.out), rfl, by rw [all_snoc (k := 0) (Nat.pos_iff_ne_zero.2 HP0.out), HID.out]; rfl⟩
      case round =>
        obtain ⟨k, hk1, hk, rfl, ha⟩ := hrel
        have HA := Lib.hid ha
        clear ha
        by_cases hlt : k < s.size
        · have q1 : (k : Int) < s.size := by omega
          have CI := xid_any s[k] W0
          cases hb : idB s[k] with
          | true =>
            have HSN : Hid ((s.data.toList.take (k + 1)).all idB = true) := by show _ = true; rw [all_snoc hlt, HA.out, hb]; rfl
            rw [hb] at CI
            clear hb
            go_wp2_with fail
            ((with_reducible refine CI.mono ?_); rintro e wx ⟨rfl, rfl⟩)
            go_wp2_with fail
            go_round
            case rel => exact ⟨k + 1, by omega, by omega, by go_num, HSN.out⟩
            case measure => simp [intOf] <;> omega
          | false =>
            have HTW := Lib.hid (tw_at hlt HA.out hb)
            have q2 : (0 : Int) ≤ (k : Int) ∧ (k : Int) ≤ (s.size : Int) := by omega
            rw [hb] at CI
            clear hb
            go_wp2_with fail
            ((with_reducible refine CI.mono ?_); rintro e wx ⟨rfl, rfl⟩)
            go_wp2_with fail
            ((with_reducible refine (xsm_any s[0] _).mono ?_); rintro e wx ⟨rfl, rfl⟩)
            rw [H1.out]
            have e0 := BK.out.c 0 (v := .int .i64 0) rfl
            have z0 := BK.out.fz 0
            have e1 := BK.out.c 1 (v := .string ⟨#[]⟩) rfl
            have z1 := BK.out.fz 1
            have e2 := BK.out.c 2 (v := .int .i64 0) rfl
            have z2 := BK.out.fz 2
            have e3 := BK.out.c 3 (v := .int .i64 0) rfl
            have z3 := BK.out.fz 3
            go_wp2_with fail
            clear e0 e1 e2 e3 z0 z1 z2 z3
            have BS := BK.out.set4 (.int .i64 2) (.string (s.extract 0 k)) (.int .i64 0) (.int .i64 0)
            have HBS := below_set4 HB.out (Nat.le_refl _) (.int .i64 2) (.string (s.extract 0 k)) (.int .i64 0) (.int .i64 0)
            have e0 := BS.c 0 (v := .int .i64 2) rfl
            have e1 := BS.c 1 (v := .string (s.extract 0 k)) rfl
            have e2 := BS.c 2 (v := .int .i64 0) rfl
            have e3 := BS.c 3 (v := .int .i64 0) rfl
            refine bodyPost_ret (v := .tuple #[.agg #[.int .i64 2, .string (s.extract 0 k), .int .i64 0, .int .i64 0], .bool true]) (by simp [results, Tryd.results46, go_sem, *]) rfl (xf_some HE.out (ext_k HTW.out) HBS)
        · have hke : k = s.size := by omega
          have HTW : Hid ((s.data.toList.takeWhile idB).length = k) := by
            have h1 := HA.out
            rw [hke, List.take_of_length_le (by rw [← size_list]; exact Nat.le_refl _)] at h1
            show _ = _
            rw [tw_all h1, hke, size_list]
          have q1 : ¬ (k : Int) < s.size := by omega
          have q2 : (0 : Int) ≤ (k : Int) ∧ (k : Int) ≤ (s.size : Int) := by omega
          clear hke
          go_wp2_with fail
          ((with_reducible refine (xsm_any s[0] _).mono ?_); rintro e wx ⟨rfl, rfl⟩)
          rw [H1.out]
          have e0 := BK.out.c 0 (v := .int .i64 0) rfl
          have z0 := BK.out.fz 0
          have e1 := BK.out.c 1 (v := .string ⟨#[]⟩) rfl
          have z1 := BK.out.fz 1
          have e2 := BK.out.c 2 (v := .int .i64 0) rfl
          have z2 := BK.out.fz 2
          have e3 := BK.out.c 3 (v := .int .i64 0) rfl
          have z3 := BK.out.fz 3
          go_wp2_with fail
          clear e0 e1 e2 e3 z0 z1 z2 z3
          have BS := BK.out.set4 (.int .i64 2) (.string (s.extract 0 k)) (.int .i64 0) (.int .i64 0)
          have HBS := below_set4 HB.out (Nat.le_refl _) (.int .i64 2) (.string (s.extract 0 k)) (.int .i64 0) (.int .i64 0)
          have e0 := BS.c 0 (v := .int .i64 2) rfl
          have e1 := BS.c 1 (v := .string (s.extract 0 k)) rfl
          have e2 := BS.c 2 (v := .int .i64 0) rfl
          have e3 := BS.c 3 (v := .int .i64 0) rfl
          refine bodyPost_ret (v := .tuple #[.agg #[.int .i64 2, .string (s.extract 0 k), .int .i64 0, .int .i64 0], .bool true]) (by simp [results, Tryd.results46, go_sem, *]) rfl (xf_some HE.out (ext_k HTW.out) HBS)
    | false =>
      have H2 := Lib.hid hcp
      cases hdg : dgB s[0] with
      | true =>
        have HE : Hid (firstT s.data.toList = numT (s.data.toList.takeWhile dgB)) := by show _ = _; rw [HFE.out, hsm, hcp, hdg]; rfl
        have H3 := Lib.hid hdg
        clear hsm hcp hdg
        by_cases hv : valN (s.data.toList.takeWhile dgB) ≤ 1000000000000
        · have HR : Hid (firstT s.data.toList = some ⟨3, s.data.toList.takeWhile dgB, ((valN (s.data.toList.takeWhile dgB) : Nat) : Int), 0⟩) := by
            show _ = _
            rw [HE.out]
            unfold numT
            rw [if_pos hv]
          have HV1 : Hid (xvV (s.data.toList.takeWhile dgB) = ((valN (s.data.toList.takeWhile dgB) : Nat) : Int)) := if_pos hv
          have HV2 : Hid (xvB (s.data.toList.takeWhile dgB) = true) := decide_eq_true hv
          clear hv
          have BK := Lib.hid (Bk.new 36 w #[.int .i64 0, .string ⟨#[]⟩, .int .i64 0, .int .i64 0])
          have HB : Hid (Below w.heap.size w (w.alloc (.cells #[.int .i64 0, .string ⟨#[]⟩, .int .i64 0, .int .i64 0] 36))) := (Below.refl _ w).alloc (Nat.le_refl _) _
          go_enter Tryd.func46, Tryd.ntmps46
          go_upto_region 1 with fail
          generalize (w.alloc (.cells #[.int .i64 0, .string ⟨#[]⟩, .int .i64 0, .int .i64 0] 36)) = W0 at *
          go_wp2_with fail
          ((with_reducible refine (xsm_any s[0] _).mono ?_); rintro e wx ⟨rfl, rfl⟩)
          rw [H1.out]
          go_wp2_with fail
          ((with_reducible refine (xcp_any s[0] _).mono ?_); rintro e wx ⟨rfl, rfl⟩)
          rw [H2.out]
          go_wp2_with fail
          ((with_reducible refine (xdg_any s[0] _).mono ?_); rintro e wx ⟨rfl, rfl⟩)
          rw [H3.out]
          go_wp2_with fail
          go_loop [4] (fun nv => ∃ k : Nat, 1 ≤ k ∧ k ≤ s.size ∧ nv = .int .i64 (k : Int) ∧ (s.data.toList.take k).all dgB = true) (fun nv => s.size - (intOf nv).toNat)
          case atStart => exact ⟨1, Nat.le_refl _, (Nat.pos_iff_ne_zero.2 HP0.out), rfl, by rw [all_snoc (k := 0) (Nat.pos_iff_ne_zero.2 HP0.out), H3.out]; rfl⟩
          case round =>
            obtain ⟨k, hk1, hk, rfl, ha⟩ := hrel
            have HA := Lib.hid ha
            clear ha
            by_cases hlt : k < s.size
            · have q1 : (k : Int) < s.size := by omega
              have CI := xdg_any s[k] W0
              cases hb : dgB s[k] with
              | true =>
                have HSN : Hid ((s.data.toList.take (k + 1)).all dgB = true) := by show _ = true; rw [all_snoc hlt, HA.out, hb]; rfl
                rw [hb] at CI
                clear hb
                go_wp2_with fail
                ((with_reducible refine CI.mono ?_); rintro e wx ⟨rfl, rfl⟩)
                go_wp2_with fail
                go_round
                case rel => exact ⟨k + 1, by omega, by omega, by go_num, HSN.out⟩
                case measure => simp [intOf] <;> omega
              | false =>
                have HTW := Lib.hid (tw_at hlt HA.out hb)
                have q2 : (0 : Int) ≤ (k : Int) ∧ (k : Int) ≤ (s.size : Int) := by omega
                rw [hb] at CI
                clear hb
                go_wp2_with fail
                ((with_reducible refine CI.mono ?_); rintro e wx ⟨rfl, rfl⟩)
                have CV := xvalue_any (s.extract 0 k) W0 (by rw [size_list, ext_k HTW.out]; have := takeWhile_le dgB s.data.toList; rw [← size_list] at this; exact Nat.le_trans this HSZ.out) (by rw [ext_k HTW.out]; exact tw_dg _)
                rw [ext_k HTW.out, HV1.out, HV2.out] at CV
                go_wp2_with fail
                ((with_reducible refine CV.mono ?_); rintro e wx ⟨rfl, rfl⟩)
                have e0 := BK.out.c 0 (v := .int .i64 0) rfl
                have z0 := BK.out.fz 0
                have e1 := BK.out.c 1 (v := .string ⟨#[]⟩) rfl
                have z1 := BK.out.fz 1
                have e2 := BK.out.c 2 (v := .int .i64 0) rfl
                have z2 := BK.out.fz 2
                have e3 := BK.out.c 3 (v := .int .i64 0) rfl
                have z3 := BK.out.fz 3
                go_wp2_with fail
                clear e0 e1 e2 e3 z0 z1 z2 z3
                have BS := BK.out.set4 (.int .i64 3) (.string (s.extract 0 k)) (.int .i64 ((valN (s.data.toList.takeWhile dgB) : Nat) : Int)) (.int .i64 0)
                have HBS := below_set4 HB.out (Nat.le_refl _) (.int .i64 3) (.string (s.extract 0 k)) (.int .i64 ((valN (s.data.toList.takeWhile dgB) : Nat) : Int)) (.int .i64 0)
                have e0 := BS.c 0 (v := .int .i64 3) rfl
                have e1 := BS.c 1 (v := .string (s.extract 0 k)) rfl
                have e2 := BS.c 2 (v := .int .i64 ((valN (s.data.toList.takeWhile dgB) : Nat) : Int)) rfl
                have e3 := BS.c 3 (v := .int .i64 0) rfl
                refine bodyPost_ret (v := .tuple #[.agg #[.int .i64 3, .string (s.extract 0 k), .int .i64 ((valN (s.data.toList.takeWhile dgB) : Nat) : Int), .int .i64 0], .bool true]) (by simp [results, Tryd.results46, go_sem, *]) rfl (xf_some HR.out (ext_k HTW.out) HBS)
            · have hke : k = s.size := by omega
              have HTW : Hid ((s.data.toList.takeWhile dgB).length = k) := by
                have h1 := HA.out
                rw [hke, List.take_of_length_le (by rw [← size_list]; exact Nat.le_refl _)] at h1
                show _ = _
                rw [tw_all h1, hke, size_list]
              have q1 : ¬ (k : Int) < s.size := by omega
              have q2 : (0 : Int) ≤ (k : Int) ∧ (k : Int) ≤ (s.size : Int) := by omega
              clear hke
              have CV := xvalue_any (s.extract 0 k) W0 (by rw [size_list, ext_k HTW.out]; have := takeWhile_le dgB s.data.toList; rw [← size_list] at this; exact Nat.le_trans this HSZ.out) (by rw [ext_k HTW.out]; exact tw_dg _)
              rw [ext_k HTW.out, HV1.out, HV2.out] at CV
              go_wp2_with fail
              ((with_reducible refine CV.mono ?_); rintro e wx ⟨rfl, rfl⟩)
              have e0 := BK.out.c 0 (v := .int .i64 0) rfl
              have z0 := BK.out.fz 0
              have e1 := BK.out.c 1 (v := .string ⟨#[]⟩) rfl
              have z1 := BK.out.fz 1
              have e2 := BK.out.c 2 (v := .int .i64 0) rfl
              have z2 := BK.out.fz 2
              have e3 := BK.out.c 3 (v := .int .i64 0) rfl
              have z3 := BK.out.fz 3
              go_wp2_with fail
              clear e0 e1 e2 e3 z0 z1 z2 z3
              have BS := BK.out.set4 (.int .i64 3) (.string (s.extract 0 k)) (.int .i64 ((valN (s.data.toList.takeWhile dgB) : Nat) : Int)) (.int .i64 0)
              have HBS := below_set4 HB.out (Nat.le_refl _) (.int .i64 3) (.string (s.extract 0 k)) (.int .i64 ((valN (s.data.toList.takeWhile dgB) : Nat) : Int)) (.int .i64 0)
              have e0 := BS.c 0 (v := .int .i64 3) rfl
              have e1 := BS.c 1 (v := .string (s.extract 0 k)) rfl
              have e2 := BS.c 2 (v := .int .i64 ((valN (s.data.toList.takeWhile dgB) : Nat) : Int)) rfl
              have e3 := BS.c 3 (v := .int .i64 0) rfl
              refine bodyPost_ret (v := .tuple #[.agg #[.int .i64 3, .string (s.extract 0 k), .int .i64 ((valN (s.data.toList.takeWhile dgB) : Nat) : Int), .int .i64 0], .bool true]) (by simp [results, Tryd.results46, go_sem, *]) rfl (xf_some HR.out (ext_k HTW.out) HBS)
        · have HR : Hid (firstT s.data.toList = none) := by
            show _ = _
            rw [HE.out]
            unfold numT
            rw [if_neg hv]
          have HV1 : Hid (xvV (s.data.toList.takeWhile dgB) = 0) := if_neg hv
          have HV2 : Hid (xvB (s.data.toList.takeWhile dgB) = false) := decide_eq_false hv
          clear hv
          have BK := Lib.hid (Bk.new 36 w #[.int .i64 0, .string ⟨#[]⟩, .int .i64 0, .int .i64 0])
          have HB : Hid (Below w.heap.size w (w.alloc (.cells #[.int .i64 0, .string ⟨#[]⟩, .int .i64 0, .int .i64 0] 36))) := (Below.refl _ w).alloc (Nat.le_refl _) _
          go_enter Tryd.func46, Tryd.ntmps46
          go_upto_region 1 with fail
          generalize (w.alloc (.cells #[.int .i64 0, .string ⟨#[]⟩, .int .i64 0, .int .i64 0] 36)) = W0 at *
          go_wp2_with fail
          ((with_reducible refine (xsm_any s[0] _).mono ?_); rintro e wx ⟨rfl, rfl⟩)
          rw [H1.out]
          go_wp2_with fail
          ((with_reducible refine (xcp_any s[0] _).mono ?_); rintro e wx ⟨rfl, rfl⟩)
          rw [H2.out]
          go_wp2_with fail
          ((with_reducible refine (xdg_any s[0] _).mono ?_); rintro e wx ⟨rfl, rfl⟩)
          rw [H3.out]
          go_wp2_with fail
          go_loop [4] (fun nv => ∃ k : Nat, 1 ≤ k ∧ k ≤ s.size ∧ nv = .int .i64 (k : Int) ∧ (s.data.toList.take k).all dgB = true) (fun nv => s.size - (intOf nv).toNat)
          case atStart => exact ⟨1, Nat.le_refl _, (Nat.pos_iff_ne_zero.2 HP0.out), rfl, by rw [all_snoc (k := 0) (Nat.pos_iff_ne_zero.2 HP0.out), H3.out]; rfl⟩
          case round =>
            obtain ⟨k, hk1, hk, rfl, ha⟩ := hrel
            have HA := Lib.hid ha
            clear ha
            by_cases hlt : k < s.size
            · have q1 : (k : Int) < s.size := by omega
              have CI := xdg_any s[k] W0
              cases hb : dgB s[k] with
              | true =>
                have HSN : Hid ((s.data.toList.take (k + 1)).all dgB = true) := by show _ = true; rw [all_snoc hlt, HA.out, hb]; rfl
                rw [hb] at CI
                clear hb
                go_wp2_with fail
                ((with_reducible refine CI.mono ?_); rintro e wx ⟨rfl, rfl⟩)
                go_wp2_with fail
                go_round
                case rel => exact ⟨k + 1, by omega, by omega, by go_num, HSN.out⟩
                case measure => simp [intOf] <;> omega
              | false =>
                have HTW := Lib.hid (tw_at hlt HA.out hb)
                have q2 : (0 : Int) ≤ (k : Int) ∧ (k : Int) ≤ (s.size : Int) := by omega
                rw [hb] at CI
                clear hb
                go_wp2_with fail
                ((with_reducible refine CI.mono ?_); rintro e wx ⟨rfl, rfl⟩)
                have CV := xvalue_any (s.extract 0 k) W0 (by rw [size_list, ext_k HTW.out]; have := takeWhile_le dgB s.data.toList; rw [← size_list] at this; exact Nat.le_trans this HSZ.out) (by rw [ext_k HTW.out]; exact tw_dg _)
                rw [ext_k HTW.out, HV1.out, HV2.out] at CV
                go_wp2_with fail
                ((with_reducible refine CV.mono ?_); rintro e wx ⟨rfl, rfl⟩)
                have e0 := BK.out.c 0 (v := .int .i64 0) rfl
                have z0 := BK.out.fz 0
                have e1 := BK.out.c 1 (v := .string ⟨#[]⟩) rfl
                have z1 := BK.out.fz 1
                have e2 := BK.out.c 2 (v := .int .i64 0) rfl
                have z2 := BK.out.fz 2
                have e3 := BK.out.c 3 (v := .int .i64 0) rfl
                have z3 := BK.out.fz 3
                go_wp2_with fail
                clear e0 e1 e2 e3 z0 z1 z2 z3
                have BS := BK.out.set4 (.int .i64 3) (.string (s.extract 0 k)) (.int .i64 0) (.int .i64 0)
                have HBS := below_set4 HB.out (Nat.le_refl _) (.int .i64 3) (.string (s.extract 0 k)) (.int .i64 0) (.int .i64 0)
                have e0 := BS.c 0 (v := .int .i64 3) rfl
                have e1 := BS.c 1 (v := .string (s.extract 0 k)) rfl
                have e2 := BS.c 2 (v := .int .i64 0) rfl
                have e3 := BS.c 3 (v := .int .i64 0) rfl
                refine bodyPost_ret (v := .tuple #[.agg #[.int .i64 3, .string (s.extract 0 k), .int .i64 0, .int .i64 0], .bool false]) (by simp [results, Tryd.results46, go_sem, *]) rfl (xf_none HR.out HBS)
            · have hke : k = s.size := by omega
              have HTW : Hid ((s.data.toList.takeWhile dgB).length = k) := by
                have h1 := HA.out
                rw [hke, List.take_of_length_le (by rw [← size_list]; exact Nat.le_refl _)] at h1
                show _ = _
                rw [tw_all h1, hke, size_list]
              have q1 : ¬ (k : Int) < s.size := by omega
              have q2 : (0 : Int) ≤ (k : Int) ∧ (k : Int) ≤ (s.size : Int) := by omega
              clear hke
              have CV := xvalue_any (s.extract 0 k) W0 (by rw [size_list, ext_k HTW.out]; have := takeWhile_le dgB s.data.toList; rw [← size_list] at this; exact Nat.le_trans this HSZ.out) (by rw [ext_k HTW.out]; exact tw_dg _)
              rw [ext_k HTW.out, HV1.out, HV2.out] at CV
              go_wp2_with fail
              ((with_reducible refine CV.mono ?_); rintro e wx ⟨rfl, rfl⟩)
              have e0 := BK.out.c 0 (v := .int .i64 0) rfl
              have z0 := BK.out.fz 0
              have e1 := BK.out.c 1 (v := .string ⟨#[]⟩) rfl
              have z1 := BK.out.fz 1
              have e2 := BK.out.c 2 (v := .int .i64 0) rfl
              have z2 := BK.out.fz 2
              have e3 := BK.out.c 3 (v := .int .i64 0) rfl
              have z3 := BK.out.fz 3
              go_wp2_with fail
              clear e0 e1 e2 e3 z0 z1 z2 z3
              have BS := BK.out.set4 (.int .i64 3) (.string (s.extract 0 k)) (.int .i64 0) (.int .i64 0)
              have HBS := below_set4 HB.out (Nat.le_refl _) (.int .i64 3) (.string (s.extract 0 k)) (.int .i64 0) (.int .i64 0)
              have e0 := BS.c 0 (v := .int .i64 3) rfl
              have e1 := BS.c 1 (v := .string (s.extract 0 k)) rfl
              have e2 := BS.c 2 (v := .int .i64 0) rfl
              have e3 := BS.c 3 (v := .int .i64 0) rfl
              refine bodyPost_ret (v := .tuple #[.agg #[.int .i64 3, .string (s.extract 0 k), .int .i64 0, .int .i64 0], .bool false]) (by simp [results, Tryd.results46, go_sem, *]) rfl (xf_none HR.out HBS)
      | false =>
        have HE : Hid (firstT s.data.toList = (signO s.data.toList).map fun x => ⟨4, x, 0, 0⟩) := by show _ = _; rw [HFE.out, hsm, hcp, hdg]; rfl
        have H3 := Lib.hid hdg
        have CS := fun W => xsign_any s W
        clear hsm hcp hdg
        cases hso : signO s.data.toList with
        | none =>
          have HR : Hid (firstT s.data.toList = none) := by show _ = _; rw [HE.out, hso]; rfl
          rw [hso] at CS
          clear hso
          have BK := Lib.hid (Bk.new 36 w #[.int .i64 0, .string ⟨#[]⟩, .int .i64 0, .int .i64 0])
          have HB : Hid (Below w.heap.size w (w.alloc (.cells #[.int .i64 0, .string ⟨#[]⟩, .int .i64 0, .int .i64 0] 36))) := (Below.refl _ w).alloc (Nat.le_refl _) _
          go_enter Tryd.func46, Tryd.ntmps46
          go_upto_region 1 with fail
          generalize (w.alloc (.cells #[.int .i64 0, .string ⟨#[]⟩, .int .i64 0, .int .i64 0] 36)) = W0 at *
          go_wp2_with fail
          ((with_reducible refine (xsm_any s[0] _).mono ?_); rintro e wx ⟨rfl, rfl⟩)
          rw [H1.out]
          go_wp2_with fail
          ((with_reducible refine (xcp_any s[0] _).mono ?_); rintro e wx ⟨rfl, rfl⟩)
          rw [H2.out]
          go_wp2_with fail
          ((with_reducible refine (xdg_any s[0] _).mono ?_); rintro e wx ⟨rfl, rfl⟩)
          rw [H3.out]
          go_wp2_with fail
          (refine (CS _).mono ?_); rintro e W1 ⟨y, rfl, hy, hb⟩
          have BK1 := Lib.hid (BK.out.below hb)
          have HB1 := Lib.hid (nbelow_on HB.out hb)
          have TB1 : (y.toList == []) = true := by rw [tolist_eq, hy]; rfl
          have TB2 : y.toList.isEmpty = true := by rw [tolist_eq, hy]; rfl
          have HY := Lib.hid hy
          clear hb hy CS
          have e0 := BK1.out.c 0 (v := .int .i64 0) rfl
          have z0 := BK1.out.fz 0
          have e1 := BK1.out.c 1 (v := .string ⟨#[]⟩) rfl
          have z1 := BK1.out.fz 1
          have e2 := BK1.out.c 2 (v := .int .i64 0) rfl
          have z2 := BK1.out.fz 2
          have e3 := BK1.out.c 3 (v := .int .i64 0) rfl
          have z3 := BK1.out.fz 3
          go_wp2_with fail
          clear e0 e1 e2 e3 z0 z1 z2 z3
          have BS := BK1.out.set4 (.int .i64 4) (.string y) (.int .i64 0) (.int .i64 0)
          have HBS := below_set4 HB1.out (Nat.le_refl _) (.int .i64 4) (.string y) (.int .i64 0) (.int .i64 0)
          have e0 := BS.c 0 (v := .int .i64 4) rfl
          have e1 := BS.c 1 (v := .string y) rfl
          have e2 := BS.c 2 (v := .int .i64 0) rfl
          have e3 := BS.c 3 (v := .int .i64 0) rfl
          refine bodyPost_ret (v := .tuple #[.agg #[.int .i64 4, .string y, .int .i64 0, .int .i64 0], .bool false]) (by simp [results, Tryd.results46, go_sem, *]) rfl (xf_none HR.out HBS)
        | some z =>
          have HR : Hid (firstT s.data.toList = some ⟨4, z, 0, 0⟩) := by show _ = _; rw [HE.out, hso]; rfl
          have hz := (sgs_len (sign_mem hso).1).1
          have hzn : z ≠ [] := by rintro rfl; simp at hz
          have HZN := Lib.hid hzn
          rw [hso] at CS
          clear hso hz hzn
          have BK := Lib.hid (Bk.new 36 w #[.int .i64 0, .string ⟨#[]⟩, .int .i64 0, .int .i64 0])
          have HB : Hid (Below w.heap.size w (w.alloc (.cells #[.int .i64 0, .string ⟨#[]⟩, .int .i64 0, .int .i64 0] 36))) := (Below.refl _ w).alloc (Nat.le_refl _) _
          go_enter Tryd.func46, Tryd.ntmps46
          go_upto_region 1 with fail
          generalize (w.alloc (.cells #[.int .i64 0, .string ⟨#[]⟩, .int .i64 0, .int .i64 0] 36)) = W0 at *
          go_wp2_with fail
          ((with_reducible refine (xsm_any s[0] _).mono ?_); rintro e wx ⟨rfl, rfl⟩)
          rw [H1.out]
          go_wp2_with fail
          ((with_reducible refine (xcp_any s[0] _).mono ?_); rintro e wx ⟨rfl, rfl⟩)
          rw [H2.out]
          go_wp2_with fail
          ((with_reducible refine (xdg_any s[0] _).mono ?_); rintro e wx ⟨rfl, rfl⟩)
          rw [H3.out]
          go_wp2_with fail
          (refine (CS _).mono ?_); rintro e W1 ⟨y, rfl, hy, hb⟩
          have BK1 := Lib.hid (BK.out.below hb)
          have HB1 := Lib.hid (nbelow_on HB.out hb)
          have TB1 : (y.toList == []) = false := by rw [tolist_eq, hy]; exact beq_eq_false_iff_ne.2 HZN.out
          have TB2 : y.toList.isEmpty = false := by rw [tolist_eq, hy]; cases hq : (some z).getD [] with | nil => exact absurd hq HZN.out | cons a r => rfl
          have HY := Lib.hid hy
          clear hb hy CS
          have e0 := BK1.out.c 0 (v := .int .i64 0) rfl
          have z0 := BK1.out.fz 0
          have e1 := BK1.out.c 1 (v := .string ⟨#[]⟩) rfl
          have z1 := BK1.out.fz 1
          have e2 := BK1.out.c 2 (v := .int .i64 0) rfl
          have z2 := BK1.out.fz 2
          have e3 := BK1.out.c 3 (v := .int .i64 0) rfl
          have z3 := BK1.out.fz 3
          go_wp2_with fail
          clear e0 e1 e2 e3 z0 z1 z2 z3
          have BS := BK1.out.set4 (.int .i64 4) (.string y) (.int .i64 0) (.int .i64 0)
          have HBS := below_set4 HB1.out (Nat.le_refl _) (.int .i64 4) (.string y) (.int .i64 0) (.int .i64 0)
          have e0 := BS.c 0 (v := .int .i64 4) rfl
          have e1 := BS.c 1 (v := .string y) rfl
          have e2 := BS.c 2 (v := .int .i64 0) rfl
          have e3 := BS.c 3 (v := .int .i64 0) rfl
          refine bodyPost_ret (v := .tuple #[.agg #[.int .i64 4, .string y, .int .i64 0, .int .i64 0], .bool true]) (by simp [results, Tryd.results46, go_sem, *]) rfl (xf_some HR.out HY.out HBS)
end Go.Proofs.YtblakndpionmgaaDoor
