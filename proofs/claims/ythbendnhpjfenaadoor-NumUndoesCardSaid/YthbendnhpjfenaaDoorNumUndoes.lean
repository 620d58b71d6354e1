/-
  THE STATEMENT NumUndoes IS PROVED: for every two ints (the listed library tables holding what the program's text lays, tied by the card), the law returns true and its arguments read as before.
-/
import Derived.Test.YthbendnhpjfenaaDoorCards
import Derived.Test.YthbendnhpjfenaaDoorTie
import Derived.Test.YthbendnhpjfenaaDoorLaid
namespace Go.Proofs.YthbendnhpjfenaaDoor.numUndoes
open Go.ChangeShapes Go.WideShapes Go.ChangeAt Go.RowKit

theorem add_swap (a b : Int) (w : World) : Calls Tryd.prog 9 #[.int .i64 b, .int .i64 a] w fun e w' => e = .returned (.tuple #[.int .i64 (addV a b), .bool (addB a b)]) ∧ w = w' := by
  have hB : addB b a = addB a b := by
    unfold addB; rw [Int.add_comm b a, Bool.and_comm (inB b) (inB a)]
  have hV : addV b a = addV a b := by unfold addV; rw [hB, Int.add_comm b a]
  have := add_any b a w
  rwa [hB, hV] at this
theorem mul_swap (a b : Int) (w : World) : Calls Tryd.prog 13 #[.int .i64 b, .int .i64 a] w fun e w' => e = .returned (.tuple #[.int .i64 (mulV a b), .bool (mulB a b)]) ∧ w = w' := by
  have hB : mulB b a = mulB a b := by
    unfold mulB; rw [Int.mul_comm b a, Bool.and_comm (inB b) (inB a)]
  have hV : mulV b a = mulV a b := by unfold mulV; rw [hB, Int.mul_comm b a]
  have := mul_any b a w
  rwa [hB, hV] at this
theorem sub_back (a b : Int) (h : addB a b = true) (w : World) : Calls Tryd.prog 11 #[.int .i64 (addV a b), .int .i64 b] w fun e w' => e = .returned (.tuple #[.int .i64 a, .bool true]) ∧ w = w' := by
  have hv : addV a b = a + b := by simp [addV, h]
  have h' : inB a = true ∧ inB b = true ∧ inB (a + b) = true := by simpa [addB, and_assoc] using h
  have hb : subB (a + b) b = true := by simp [subB, h', show a + b - b = a by omega]
  have e : subV (a + b) b = a := by simp only [subV, hb, if_true]; omega
  rw [hv]
  have := sub_any (a + b) b w
  rwa [hb, e] at this
theorem div_back (a b : Int) (h : mulB a b = true) (hz : b ≠ 0) (w : World) : Calls Tryd.prog 18 #[.int .i64 (mulV a b), .int .i64 b] w fun e w' => e = .returned (.tuple #[.int .i64 a, .bool true]) ∧ w = w' := by
  have hv : mulV a b = a * b := by simp [mulV, h]
  have h' : inB a = true ∧ inB b = true ∧ inB (a * b) = true := by simpa [mulB, and_assoc] using h
  have hb : divB (a * b) b = true := by simp [divB, h', hz]
  have hm : ruB (a * b) b = false := by simp [ruB, Int.mul_tmod_left]
  have e : divV (a * b) b = a := by simp only [divV, hb, if_true, quo, hm]; exact Int.mul_tdiv_cancel a hz
  rw [hv]
  have := div_any (a * b) b w
  rwa [hb, e] at this

set_option maxHeartbeats 2000000 in
theorem walk (a b : Int) (w : World) (htab : Tab w) : Calls Tryd.prog 7 #[.int .i64 a, .int .i64 b] w fun e w' => e = .returned (.bool true) ∧ Below w.heap.size w w' := by
  have H0 := Lib.hid htab
  clear htab
  cases hx : addB a b with
  | false =>
    cases hz : mulB a b with
    | false =>
      go_enter Tryd.func7, Tryd.ntmps7
      go_wp2_with fail
      (refine (add_any a b _).mono ?_; rintro e w' ⟨rfl, rfl⟩)
      go_wp2_with fail
      (refine (add_swap a b _).mono ?_; rintro e w' ⟨rfl, rfl⟩)
      go_wp2_with fail
      (refine (mul_any a b _).mono ?_; rintro e w' ⟨rfl, rfl⟩)
      go_wp2_with fail
      (refine (mul_swap a b _).mono ?_; rintro e w' ⟨rfl, rfl⟩)
      go_wp2_with fail
      (refine (alive_any _ H0.out).mono ?_; rintro e w1 ⟨rfl, hb⟩)
      have B := Lib.hid hb
      clear hb
      go_wp2_with fail
      go_ret
      exact ⟨rfl, B.out⟩
    | true =>
      by_cases h0 : b = 0
      · subst h0
        go_enter Tryd.func7, Tryd.ntmps7
        go_wp2_with fail
        (refine (add_any a 0 _).mono ?_; rintro e w' ⟨rfl, rfl⟩)
        go_wp2_with fail
        (refine (add_swap a 0 _).mono ?_; rintro e w' ⟨rfl, rfl⟩)
        go_wp2_with fail
        (refine (mul_any a 0 _).mono ?_; rintro e w' ⟨rfl, rfl⟩)
        go_wp2_with fail
        (refine (mul_swap a 0 _).mono ?_; rintro e w' ⟨rfl, rfl⟩)
        go_wp2_with fail
        (refine (alive_any _ H0.out).mono ?_; rintro e w1 ⟨rfl, hb⟩)
        have B := Lib.hid hb
        clear hb
        go_wp2_with fail
        go_ret
        exact ⟨rfl, B.out⟩
      · have D := Lib.hid (div_back a b hz h0)
        have hne : (b != 0) = true := by simpa using h0
        go_enter Tryd.func7, Tryd.ntmps7
        go_wp2_with fail
        (refine (add_any a b _).mono ?_; rintro e w' ⟨rfl, rfl⟩)
        go_wp2_with fail
        (refine (add_swap a b _).mono ?_; rintro e w' ⟨rfl, rfl⟩)
        go_wp2_with fail
        (refine (mul_any a b _).mono ?_; rintro e w' ⟨rfl, rfl⟩)
        go_wp2_with fail
        (refine (mul_swap a b _).mono ?_; rintro e w' ⟨rfl, rfl⟩)
        go_wp2_with fail
        (refine (D.out _).mono ?_; rintro e w' ⟨rfl, rfl⟩)
        go_wp2_with fail
        (refine (alive_any _ H0.out).mono ?_; rintro e w1 ⟨rfl, hb⟩)
        have B := Lib.hid hb
        clear hb
        go_wp2_with fail
        go_ret
        exact ⟨rfl, B.out⟩
  | true =>
    have S := Lib.hid (sub_back a b hx)
    cases hz : mulB a b with
    | false =>
      go_enter Tryd.func7, Tryd.ntmps7
      go_wp2_with fail
      (refine (add_any a b _).mono ?_; rintro e w' ⟨rfl, rfl⟩)
      go_wp2_with fail
      (refine (add_swap a b _).mono ?_; rintro e w' ⟨rfl, rfl⟩)
      go_wp2_with fail
      (refine (mul_any a b _).mono ?_; rintro e w' ⟨rfl, rfl⟩)
      go_wp2_with fail
      (refine (mul_swap a b _).mono ?_; rintro e w' ⟨rfl, rfl⟩)
      go_wp2_with fail
      (refine (S.out _).mono ?_; rintro e w' ⟨rfl, rfl⟩)
      go_wp2_with fail
      (refine (alive_any _ H0.out).mono ?_; rintro e w1 ⟨rfl, hb⟩)
      have B := Lib.hid hb
      clear hb
      go_wp2_with fail
      go_ret
      exact ⟨rfl, B.out⟩
    | true =>
      by_cases h0 : b = 0
      · subst h0
        go_enter Tryd.func7, Tryd.ntmps7
        go_wp2_with fail
        (refine (add_any a 0 _).mono ?_; rintro e w' ⟨rfl, rfl⟩)
        go_wp2_with fail
        (refine (add_swap a 0 _).mono ?_; rintro e w' ⟨rfl, rfl⟩)
        go_wp2_with fail
        (refine (mul_any a 0 _).mono ?_; rintro e w' ⟨rfl, rfl⟩)
        go_wp2_with fail
        (refine (mul_swap a 0 _).mono ?_; rintro e w' ⟨rfl, rfl⟩)
        go_wp2_with fail
        (refine (S.out _).mono ?_; rintro e w' ⟨rfl, rfl⟩)
        go_wp2_with fail
        (refine (alive_any _ H0.out).mono ?_; rintro e w1 ⟨rfl, hb⟩)
        have B := Lib.hid hb
        clear hb
        go_wp2_with fail
        go_ret
        exact ⟨rfl, B.out⟩
      · have D := Lib.hid (div_back a b hz h0)
        have hne : (b != 0) = true := by simpa using h0
        go_enter Tryd.func7, Tryd.ntmps7
        go_wp2_with fail
        (refine (add_any a b _).mono ?_; rintro e w' ⟨rfl, rfl⟩)
        go_wp2_with fail
        (refine (add_swap a b _).mono ?_; rintro e w' ⟨rfl, rfl⟩)
        go_wp2_with fail
        (refine (mul_any a b _).mono ?_; rintro e w' ⟨rfl, rfl⟩)
        go_wp2_with fail
        (refine (mul_swap a b _).mono ?_; rintro e w' ⟨rfl, rfl⟩)
        go_wp2_with fail
        (refine (S.out _).mono ?_; rintro e w' ⟨rfl, rfl⟩)
        go_wp2_with fail
        (refine (D.out _).mono ?_; rintro e w' ⟨rfl, rfl⟩)
        go_wp2_with fail
        (refine (alive_any _ H0.out).mono ?_; rintro e w1 ⟨rfl, hb⟩)
        have B := Lib.hid hb
        clear hb
        go_wp2_with fail
        go_ret
        exact ⟨rfl, B.out⟩

theorem contract (H : Type) (enc : TypeId × Value → H) (W : World) (base : Nat) (args : Array Value) (ds gs : List (DataW H)) (before : List MemPlace)
    (hval : ∀ (j : Nat) t v, Tryd.f7.params[j]? = some t → args[j]? = some v → Value.okWide Tryd.prog W .any base t v)
    (hW : DataW.Whole enc Tryd.prog Tryd.f7.params.toList Rows.numUndoesSpec.vars false W args.toList ds gs before) (hL : laidMetH Tryd.prog Rows.numUndoesRow.laid W) :
    Calls Tryd.prog 7 args W fun e W' => ∃ v, e = .returned v ∧ Rows.numUndoesSpec.post enc Tryd.prog Tryd.f7 false true false false W args v W' := by
  have hW' := hW
  obtain ⟨p, q, hA0, hV, rfl, hfz, hnd⟩ := hW
  have hA : DataW.TrodAll enc Tryd.prog W 0 (fun _ => true) true Tryd.f7.params.toList args.toList ds p := hA0
  rw [Tryd.params7] at hA hval
  obtain ⟨v0, vs0, d0, ds0, p0, q0, hargs, rfl, rfl, h0, r0⟩ := trodAll_cons hA
  obtain ⟨v1, vs1, d1, ds1, p1, q1, rfl, rfl, rfl, h1, r1⟩ := trodAll_cons r0
  obtain ⟨rfl, rfl, rfl⟩ := trodAll_nil r1
  obtain rfl : args = #[v0, v1] := by cases args; simp_all
  obtain ⟨rfl, rfl⟩ := trodVars_none hV
  obtain ⟨a, rfl, rfl, rfl, w0⟩ := open_int Tryd.underlying3 (hval 0 3 v0 rfl rfl) h0
  obtain ⟨b, rfl, rfl, rfl, w1⟩ := open_int Tryd.underlying3 (hval 1 3 v1 rfl rfl) h1
  clear hA0
  simp only [List.append_nil] at hW'
  refine (walk a b W (tab_of_laid hL)).mono fun e W' ⟨he, hg⟩ => ?_
  subst he
  exact ⟨_, rfl, _, _, _, [], [], [], hW', trodAll_mk1 (shut_bool Tryd.underlying4 _), (trodAll_cons_mk (shut_int Tryd.underlying3 w0) (trodAll_cons_mk (shut_int Tryd.underlying3 w1) trodAll_mk0)), rfl, hg.frame _, fun h => by cases h⟩

theorem reads (os : Os) {H : Type} (enc : TypeId × Value → H) : ∃ places, DataW.whole enc Tryd.prog ((World.doorLaid Tryd.prog 24 os).forCall (fun _ _ => 0) ⟨#[], #[.int .i64 0, .int .i64 0], []⟩).memory Tryd.f7.params.toList Rows.numUndoesSpec.vars false #[Value.int .i64 0, Value.int .i64 0].toList 8 = some ([.lit (.int .i64 0), .lit (.int .i64 0)], [], places) :=
  ⟨[], by kernel_rfl⟩

set_option maxRecDepth 100000 in
theorem lifted (os : Os) (started : os.Started) (H : Type) (enc : TypeId × Value → H) (F : Stop.Interp) :
    ReturnsInHanded {} Tryd.checked os 7 .any ((OpenSpec.ofChange Rows.numUndoesSpec).preRow enc Tryd.prog Tryd.f7 Rows.numUndoesRow.domain false Rows.numUndoesRow.laid) (((OpenSpec.ofChange Rows.numUndoesSpec).at F).post enc Tryd.prog Tryd.f7 false true false false) := by
  obtain ⟨places, hx⟩ := reads os enc
  refine returnsInHanded_of_row (C := Tryd.checked) (s := OpenSpec.ofChange Rows.numUndoesSpec) own started (by kernel_rfl) Tryd.func7
    (witness_row_at (enc := enc) (C := Tryd.checked) false (World.doorLaid Tryd.prog 24 os) #[.int .i64 0, .int .i64 0] rfl (by kernel_rfl) (by kernel_rfl) (by kernel_rfl)
      (OpenSpec.preRow_of_cond 8 hx (by kernel_rfl) (fun k hk => by cases hk) (by kernel_rfl) (laid_met os _))) ?_
  intro W base args ds gs before hval hW _ _ _ hL _ _
  exact contract H enc W base args ds gs before hval hW hL

theorem said : Rows.NumUndoesSaid :=
  OpenClaim.holds_of_cond 7 Tryd.f7 rfl rfl rfl rfl rfl rfl rfl ⟨rfl, rfl, rfl, rfl, rfl⟩ rfl rfl rfl rfl rfl (by kernel_rfl) Tryd.func7 (by kernel_rfl)
    (of_decide_eq_true (by kernel_rfl)) (by unfold Func.isWrapper; first | (rw [if_pos (by decide +kernel)]; kernel_rfl) | (rw [if_neg (by decide +kernel)]; exact ⟨rfl, rfl⟩))
    (fun os started H enc _ F => by rw [OpenClaim.pre_eq_preRow]; exact lifted os started H enc F)

theorem plain (f : FuncId) (fn : Func) (hf : Tryd.pinned.checked.prog.funcNamed "liquidcheck/liquidchecklaw01.NumUndoes" = some f) (hfn : Tryd.pinned.checked.prog.funcs[f]? = some fn) :
    false = Tryd.pinned.checked.prog.looks [] ∧ ∀ (j : Nat) t, fn.params[j]? = some t → Tryd.pinned.checked.prog.wantsStandIn t = false := by
  obtain rfl : f = 7 := Option.some.inj ((show Tryd.prog.funcNamed "liquidcheck/liquidchecklaw01.NumUndoes" = some 7 by kernel_rfl).symm.trans hf) |>.symm
  obtain rfl : fn = Tryd.f7 := (Option.some.inj (Tryd.func7.symm.trans hfn)).symm
  refine ⟨by kernel_rfl, fun j t ht => ?_⟩
  rw [Tryd.params7] at ht
  have hm : t ∈ [3] := by simpa using Array.mem_of_getElem? ht
  obtain rfl : t = 3 := by simpa using hm
  exact (show Tryd.prog.wantsStandIn 3 = false by kernel_rfl)

theorem card : Rows.NumUndoesCardSaid :=
  Claim7.holds_tied_plain_at .later [] _ _ _ _ said (fun _ h => by cases h) (by kernel_rfl) (fun _ h => by cases h) numUndoes_row_tie rfl ⟨rfl, rfl⟩ (by kernel_rfl) rfl plain (by kernel_rfl)
end Go.Proofs.YthbendnhpjfenaaDoor.numUndoes
