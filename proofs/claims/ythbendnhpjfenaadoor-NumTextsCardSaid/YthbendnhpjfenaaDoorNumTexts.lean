/-
  THE STATEMENT NumTexts IS PROVED: for every int and every string (the listed library tables holding what the program's text lays, tied by the card), the law returns true and its arguments read as before.
-/
import Derived.Test.YthbendnhpjfenaaDoorCards
import Derived.Test.YthbendnhpjfenaaDoorTie
import Derived.Test.YthbendnhpjfenaaDoorLaid
import Derived.Test.YthbendnhpjfenaaDoorTextC
import Derived.ShutString
namespace Go.Proofs.YthbendnhpjfenaaDoor.numTexts
open Go.ChangeShapes Go.WideShapes Go.ChangeAt Go.RowKit
open Go.ChangeMaps (open_string shut_string)

theorem text_size (n : Int) (h1 : -9223372036854775808 ≤ n) (h2 : n ≤ 9223372036854775807) : (⟨(Lib.itoa n).toArray⟩ : ByteArray).size ≤ maxLen := by
  have := Lib.itoa_length_le n h1 h2
  show (Lib.itoa n).toArray.size ≤ maxLen
  unfold maxLen
  simp
  omega
/-- Parse of what Text writes. -/
theorem back_in (n : Int) (h1 : -9223372036854775808 ≤ n) (h2 : n ≤ 9223372036854775807) (hi : inB n = true) (w : World) (h : Tab w) :
    Calls Tryd.prog 24 #[.string ⟨(Lib.itoa n).toArray⟩] w fun e w' => e = .returned (.tuple #[.int .i64 n, .bool true]) ∧ Below w.heap.size w w' := by
  refine (parse_any ⟨(Lib.itoa n).toArray⟩ w (text_size n h1 h2) h).mono ?_
  rintro e w' ⟨rfl, hb⟩
  exact ⟨ret_two (by simpa using parseV_itoa n hi) (by simpa [hi] using parseB_itoa n), hb⟩
theorem back_out (n : Int) (h1 : -9223372036854775808 ≤ n) (h2 : n ≤ 9223372036854775807) (hi : inB n = false) (w : World) (h : Tab w) :
    Calls Tryd.prog 24 #[.string ⟨(Lib.itoa n).toArray⟩] w fun e w' => e = .returned (.tuple #[.int .i64 0, .bool false]) ∧ Below w.heap.size w w' := by
  refine (parse_any ⟨(Lib.itoa n).toArray⟩ w (text_size n h1 h2) h).mono ?_
  rintro e w' ⟨rfl, hb⟩
  have hv : parseV (Lib.itoa n) = 0 := by unfold parseV; rw [parse_itoa, hi]; rfl
  exact ⟨ret_two (by simpa using hv) (by simpa [hi] using parseB_itoa n), hb⟩

set_option maxHeartbeats 2000000 in
theorem walk (n : Int) (s : ByteArray) (w : World) (htab : Tab w) (wn : (Lit.int .i64 n).wf = true) (hs : s.size ≤ maxLen) : Calls Tryd.prog 5 #[.int .i64 n, .string s] w fun e w' => e = .returned (.bool true) ∧ Below w.heap.size w w' := by
  have H0 := Lib.hid htab
  have B0 := Lib.hid (Below.refl w.heap.size w)
  obtain ⟨n1, n2⟩ := bounds_i64 wn
  have P0 : Hid (∀ w, Tab w → Calls Tryd.prog 24 #[.string s] w fun e w' => e = .returned (.tuple #[.int .i64 (parseV s.data.toList), .bool (parseB s.data.toList)]) ∧ Below w.heap.size w w') := fun w h => parse_any s w hs h
  have R0 : Hid (∀ w, Calls Tryd.prog 25 #[.string s] w fun e w' => e = .returned (.tuple #[.int .i64 (parseV s.data.toList), .bool (parseB s.data.toList)]) ∧ Below w.heap.size w w') := fun w => rparse_any s w hs
  have K0 : Hid (parseB s.data.toList = true → Lib.itoa (parseV s.data.toList) = s.data.toList ∧ inB (parseV s.data.toList) = true) := parse_back s.data.toList
  unfold maxLen at hs
  clear htab wn
  by_cases hl : 400 < s.size
  · have hl' : decide ((400 : Int) < (s.size : Int)) = true := decide_eq_true (by omega)
    clear P0 R0 K0
    go_enter Tryd.func5, Tryd.ntmps5
    go_wp2_with fail
    (refine (alive_any _ H0.out).mono ?_; rintro e w1 ⟨rfl, hb⟩)
    have B1 := Lib.hid (below_on B0.out hb)
    have H1 := Lib.hid (tab_on H0.out hb)
    clear hb
    go_wp2_with fail
    go_ret
    exact ⟨rfl, B1.out⟩
  · have hl' : decide ((400 : Int) < (s.size : Int)) = false := decide_eq_false (by omega)
    generalize hpv : parseV s.data.toList = pv at P0 R0 K0
    clear hpv
    cases hx : parseB s.data.toList with
    | false =>
      rw [hx] at P0 R0 K0
      have P := P0
      have R := R0
      clear P0 R0 K0 hx
      cases hi : inB n with
      | false =>
        have T : Hid (∀ w, Tab w → Calls Tryd.prog 24 #[.string ⟨(Lib.itoa n).toArray⟩] w fun e w' => e = .returned (.tuple #[.int .i64 0, .bool false]) ∧ Below w.heap.size w w') := fun w h => back_out n n1 n2 hi w h
        go_enter Tryd.func5, Tryd.ntmps5
        go_wp2_with fail
        (refine (P.out _ H0.out).mono ?_; rintro e w1 ⟨rfl, hb⟩)
        have B1 := Lib.hid (below_on B0.out hb)
        have H1 := Lib.hid (tab_on H0.out hb)
        clear hb
        go_wp2_with fail
        (refine (R.out _).mono ?_; rintro e w2 ⟨rfl, hb⟩)
        have B2 := Lib.hid (below_on B1.out hb)
        have H2 := Lib.hid (tab_on H1.out hb)
        clear hb
        go_wp2_with fail
        (refine (text_any n _ n1 n2 H2.out).mono ?_; rintro e w3 ⟨rfl, hb⟩)
        have B3 := Lib.hid (below_on B2.out hb)
        have H3 := Lib.hid (tab_on H2.out hb)
        clear hb
        go_wp2_with fail
        (refine (T.out _ H3.out).mono ?_; rintro e w4 ⟨rfl, hb⟩)
        have B4 := Lib.hid (below_on B3.out hb)
        have H4 := Lib.hid (tab_on H3.out hb)
        clear hb
        go_wp2_with fail
        (refine (rtext_any n _ n1 n2).mono ?_; rintro e w5 ⟨rfl, hb⟩)
        have B5 := Lib.hid (below_on B4.out hb)
        have H5 := Lib.hid (tab_on H4.out hb)
        clear hb
        go_wp2_with fail
        (refine (in_any _ _).mono ?_; rintro e w' ⟨rfl, rfl⟩)
        go_wp2_with fail
        (refine (alive_any _ H5.out).mono ?_; rintro e w6 ⟨rfl, hb⟩)
        have B6 := Lib.hid (below_on B5.out hb)
        have H6 := Lib.hid (tab_on H5.out hb)
        clear hb
        go_wp2_with fail
        go_ret
        exact ⟨rfl, B6.out⟩
      | true =>
        have T : Hid (∀ w, Tab w → Calls Tryd.prog 24 #[.string ⟨(Lib.itoa n).toArray⟩] w fun e w' => e = .returned (.tuple #[.int .i64 n, .bool true]) ∧ Below w.heap.size w w') := fun w h => back_in n n1 n2 hi w h
        go_enter Tryd.func5, Tryd.ntmps5
        go_wp2_with fail
        (refine (P.out _ H0.out).mono ?_; rintro e w1 ⟨rfl, hb⟩)
        have B1 := Lib.hid (below_on B0.out hb)
        have H1 := Lib.hid (tab_on H0.out hb)
        clear hb
        go_wp2_with fail
        (refine (R.out _).mono ?_; rintro e w2 ⟨rfl, hb⟩)
        have B2 := Lib.hid (below_on B1.out hb)
        have H2 := Lib.hid (tab_on H1.out hb)
        clear hb
        go_wp2_with fail
        (refine (text_any n _ n1 n2 H2.out).mono ?_; rintro e w3 ⟨rfl, hb⟩)
        have B3 := Lib.hid (below_on B2.out hb)
        have H3 := Lib.hid (tab_on H2.out hb)
        clear hb
        go_wp2_with fail
        (refine (T.out _ H3.out).mono ?_; rintro e w4 ⟨rfl, hb⟩)
        have B4 := Lib.hid (below_on B3.out hb)
        have H4 := Lib.hid (tab_on H3.out hb)
        clear hb
        go_wp2_with fail
        (refine (rtext_any n _ n1 n2).mono ?_; rintro e w5 ⟨rfl, hb⟩)
        have B5 := Lib.hid (below_on B4.out hb)
        have H5 := Lib.hid (tab_on H4.out hb)
        clear hb
        go_wp2_with fail
        (refine (in_any _ _).mono ?_; rintro e w' ⟨rfl, rfl⟩)
        go_wp2_with fail
        (refine (alive_any _ H5.out).mono ?_; rintro e w6 ⟨rfl, hb⟩)
        have B6 := Lib.hid (below_on B5.out hb)
        have H6 := Lib.hid (tab_on H5.out hb)
        clear hb
        go_wp2_with fail
        go_ret
        exact ⟨rfl, B6.out⟩
    | true =>
      rw [hx] at P0 R0 K0
      have P := P0
      have R := R0
      have e1 : (Lib.itoa pv == s.toList) = true := beq_iff_eq.2 ((K0.out rfl).1.trans (ByteArray.toList_eq s).symm)
      obtain ⟨p3, p4⟩ := of_inB (K0.out rfl).2
      have p1 : -9223372036854775808 ≤ pv := by omega
      have p2 : pv ≤ 9223372036854775807 := by omega
      clear P0 R0 K0 hx p3 p4
      cases hi : inB n with
      | false =>
        have T : Hid (∀ w, Tab w → Calls Tryd.prog 24 #[.string ⟨(Lib.itoa n).toArray⟩] w fun e w' => e = .returned (.tuple #[.int .i64 0, .bool false]) ∧ Below w.heap.size w w') := fun w h => back_out n n1 n2 hi w h
        go_enter Tryd.func5, Tryd.ntmps5
        go_wp2_with fail
        (refine (P.out _ H0.out).mono ?_; rintro e w1 ⟨rfl, hb⟩)
        have B1 := Lib.hid (below_on B0.out hb)
        have H1 := Lib.hid (tab_on H0.out hb)
        clear hb
        go_wp2_with fail
        (refine (R.out _).mono ?_; rintro e w2 ⟨rfl, hb⟩)
        have B2 := Lib.hid (below_on B1.out hb)
        have H2 := Lib.hid (tab_on H1.out hb)
        clear hb
        go_wp2_with fail
        (refine (text_any n _ n1 n2 H2.out).mono ?_; rintro e w3 ⟨rfl, hb⟩)
        have B3 := Lib.hid (below_on B2.out hb)
        have H3 := Lib.hid (tab_on H2.out hb)
        clear hb
        go_wp2_with fail
        (refine (T.out _ H3.out).mono ?_; rintro e w4 ⟨rfl, hb⟩)
        have B4 := Lib.hid (below_on B3.out hb)
        have H4 := Lib.hid (tab_on H3.out hb)
        clear hb
        go_wp2_with fail
        (refine (rtext_any n _ n1 n2).mono ?_; rintro e w5 ⟨rfl, hb⟩)
        have B5 := Lib.hid (below_on B4.out hb)
        have H5 := Lib.hid (tab_on H4.out hb)
        clear hb
        go_wp2_with fail
        (refine (in_any _ _).mono ?_; rintro e w' ⟨rfl, rfl⟩)
        go_wp2_with fail
        (refine (text_any pv _ p1 p2 H5.out).mono ?_; rintro e w6 ⟨rfl, hb⟩)
        have B6 := Lib.hid (below_on B5.out hb)
        have H6 := Lib.hid (tab_on H5.out hb)
        clear hb
        go_wp2_with fail
        (refine (alive_any _ H6.out).mono ?_; rintro e w7 ⟨rfl, hb⟩)
        have B7 := Lib.hid (below_on B6.out hb)
        have H7 := Lib.hid (tab_on H6.out hb)
        clear hb
        go_wp2_with fail
        go_ret
        exact ⟨rfl, B7.out⟩
      | true =>
        have T : Hid (∀ w, Tab w → Calls Tryd.prog 24 #[.string ⟨(Lib.itoa n).toArray⟩] w fun e w' => e = .returned (.tuple #[.int .i64 n, .bool true]) ∧ Below w.heap.size w w') := fun w h => back_in n n1 n2 hi w h
        go_enter Tryd.func5, Tryd.ntmps5
        go_wp2_with fail
        (refine (P.out _ H0.out).mono ?_; rintro e w1 ⟨rfl, hb⟩)
        have B1 := Lib.hid (below_on B0.out hb)
        have H1 := Lib.hid (tab_on H0.out hb)
        clear hb
        go_wp2_with fail
        (refine (R.out _).mono ?_; rintro e w2 ⟨rfl, hb⟩)
        have B2 := Lib.hid (below_on B1.out hb)
        have H2 := Lib.hid (tab_on H1.out hb)
        clear hb
        go_wp2_with fail
        (refine (text_any n _ n1 n2 H2.out).mono ?_; rintro e w3 ⟨rfl, hb⟩)
        have B3 := Lib.hid (below_on B2.out hb)
        have H3 := Lib.hid (tab_on H2.out hb)
        clear hb
        go_wp2_with fail
        (refine (T.out _ H3.out).mono ?_; rintro e w4 ⟨rfl, hb⟩)
        have B4 := Lib.hid (below_on B3.out hb)
        have H4 := Lib.hid (tab_on H3.out hb)
        clear hb
        go_wp2_with fail
        (refine (rtext_any n _ n1 n2).mono ?_; rintro e w5 ⟨rfl, hb⟩)
        have B5 := Lib.hid (below_on B4.out hb)
        have H5 := Lib.hid (tab_on H4.out hb)
        clear hb
        go_wp2_with fail
        (refine (in_any _ _).mono ?_; rintro e w' ⟨rfl, rfl⟩)
        go_wp2_with fail
        (refine (text_any pv _ p1 p2 H5.out).mono ?_; rintro e w6 ⟨rfl, hb⟩)
        have B6 := Lib.hid (below_on B5.out hb)
        have H6 := Lib.hid (tab_on H5.out hb)
        clear hb
        go_wp2_with fail
        (refine (alive_any _ H6.out).mono ?_; rintro e w7 ⟨rfl, hb⟩)
        have B7 := Lib.hid (below_on B6.out hb)
        have H7 := Lib.hid (tab_on H6.out hb)
        clear hb
        go_wp2_with fail
        go_ret
        exact ⟨rfl, B7.out⟩

theorem contract (H : Type) (enc : TypeId × Value → H) (W : World) (base : Nat) (args : Array Value) (ds gs : List (DataW H)) (before : List MemPlace)
    (hval : ∀ (j : Nat) t v, Tryd.f5.params[j]? = some t → args[j]? = some v → Value.okWide Tryd.prog W .any base t v)
    (hW : DataW.Whole enc Tryd.prog Tryd.f5.params.toList Rows.numTextsSpec.vars false W args.toList ds gs before) (hL : laidMetH Tryd.prog Rows.numTextsRow.laid W) :
    Calls Tryd.prog 5 args W fun e W' => ∃ v, e = .returned v ∧ Rows.numTextsSpec.post enc Tryd.prog Tryd.f5 false true false false W args v W' := by
  have hW' := hW
  obtain ⟨p, q, hA0, hV, rfl, hfz, hnd⟩ := hW
  have hA : DataW.TrodAll enc Tryd.prog W 0 (fun _ => true) true Tryd.f5.params.toList args.toList ds p := hA0
  rw [Tryd.params5] at hA hval
  obtain ⟨v0, vs0, d0, ds0, p0, q0, hargs, rfl, rfl, h0, r0⟩ := trodAll_cons hA
  obtain ⟨v1, vs1, d1, ds1, p1, q1, rfl, rfl, rfl, h1, r1⟩ := trodAll_cons r0
  obtain ⟨rfl, rfl, rfl⟩ := trodAll_nil r1
  obtain rfl : args = #[v0, v1] := by cases args; simp_all
  obtain ⟨rfl, rfl⟩ := trodVars_none hV
  obtain ⟨a, rfl, rfl, rfl, w0⟩ := open_int Tryd.underlying3 (hval 0 3 v0 rfl rfl) h0
  obtain ⟨s, rfl, rfl, rfl, ws⟩ := open_string Tryd.underlying9 (hval 1 9 v1 rfl rfl) h1
  clear hA0
  simp only [List.append_nil] at hW'
  refine (walk a s W (tab_of_laid hL) w0 ws).mono fun e W' ⟨he, hg⟩ => ?_
  subst he
  exact ⟨_, rfl, _, _, _, [], [], [], hW', trodAll_mk1 (shut_bool Tryd.underlying4 _), (trodAll_cons_mk (shut_int Tryd.underlying3 w0) (trodAll_cons_mk (shut_string Tryd.underlying9 ws) trodAll_mk0)), rfl, hg.frame _, fun h => by cases h⟩

theorem reads (os : Os) {H : Type} (enc : TypeId × Value → H) : ∃ places, DataW.whole enc Tryd.prog ((World.doorLaid Tryd.prog 24 os).forCall (fun _ _ => 0) ⟨#[], #[.int .i64 0, .string ByteArray.empty], []⟩).memory Tryd.f5.params.toList Rows.numTextsSpec.vars false #[Value.int .i64 0, Value.string ByteArray.empty].toList 8 = some ([.lit (.int .i64 0), .lit (.string [])], [], places) :=
  ⟨[], by kernel_rfl⟩

set_option maxRecDepth 100000 in
theorem lifted (os : Os) (started : os.Started) (H : Type) (enc : TypeId × Value → H) (F : Stop.Interp) :
    ReturnsInHanded {} Tryd.checked os 5 .any ((OpenSpec.ofChange Rows.numTextsSpec).preRow enc Tryd.prog Tryd.f5 Rows.numTextsRow.domain false Rows.numTextsRow.laid) (((OpenSpec.ofChange Rows.numTextsSpec).at F).post enc Tryd.prog Tryd.f5 false true false false) := by
  obtain ⟨places, hx⟩ := reads os enc
  refine returnsInHanded_of_row (C := Tryd.checked) (s := OpenSpec.ofChange Rows.numTextsSpec) own started (by kernel_rfl) Tryd.func5
    (witness_row_at (enc := enc) (C := Tryd.checked) false (World.doorLaid Tryd.prog 24 os) #[.int .i64 0, .string ByteArray.empty] rfl (by kernel_rfl) (by kernel_rfl) (by kernel_rfl)
      (OpenSpec.preRow_of_cond 8 hx (by kernel_rfl) (fun k hk => by cases hk) (by kernel_rfl) (laid_met os _))) ?_
  intro W base args ds gs before hval hW _ _ _ hL _ _
  exact contract H enc W base args ds gs before hval hW hL

theorem said : Rows.NumTextsSaid :=
  OpenClaim.holds_of_cond 5 Tryd.f5 rfl rfl rfl rfl rfl rfl rfl ⟨rfl, rfl, rfl, rfl, rfl⟩ rfl rfl rfl rfl rfl (by kernel_rfl) Tryd.func5 (by kernel_rfl)
    (of_decide_eq_true (by kernel_rfl)) (by unfold Func.isWrapper; first | (rw [if_pos (by decide +kernel)]; kernel_rfl) | (rw [if_neg (by decide +kernel)]; exact ⟨rfl, rfl⟩))
    (fun os started H enc _ F => by rw [OpenClaim.pre_eq_preRow]; exact lifted os started H enc F)

theorem plain (f : FuncId) (fn : Func) (hf : Tryd.pinned.checked.prog.funcNamed "liquidcheck/liquidchecklaw01.NumTexts" = some f) (hfn : Tryd.pinned.checked.prog.funcs[f]? = some fn) :
    false = Tryd.pinned.checked.prog.looks [] ∧ ∀ (j : Nat) t, fn.params[j]? = some t → Tryd.pinned.checked.prog.wantsStandIn t = false := by
  obtain rfl : f = 5 := Option.some.inj ((show Tryd.prog.funcNamed "liquidcheck/liquidchecklaw01.NumTexts" = some 5 by kernel_rfl).symm.trans hf) |>.symm
  obtain rfl : fn = Tryd.f5 := (Option.some.inj (Tryd.func5.symm.trans hfn)).symm
  refine ⟨by kernel_rfl, fun j t ht => ?_⟩
  rw [Tryd.params5] at ht
  have hm : t = 3 ∨ t = 9 := by simpa using Array.mem_of_getElem? ht
  rcases hm with rfl | rfl
  · exact (show Tryd.prog.wantsStandIn 3 = false by kernel_rfl)
  · exact (show Tryd.prog.wantsStandIn 9 = false by kernel_rfl)

theorem card : Rows.NumTextsCardSaid :=
  Claim7.holds_tied_plain_at .later [] _ _ _ _ said (fun _ h => by cases h) (by kernel_rfl) (fun _ h => by cases h) numTexts_row_tie rfl ⟨rfl, rfl⟩ (by kernel_rfl) rfl plain (by kernel_rfl)
end Go.Proofs.YthbendnhpjfenaaDoor.numTexts
