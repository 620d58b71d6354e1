/-
  THE STATEMENT NumRests IS PROVED: for every two ints (the listed library tables holding what the program's text lays, tied by the card), the law returns true and its arguments read as before.
-/
import Derived.Test.YthbendnhpjfenaaDoorCards
import Derived.Test.YthbendnhpjfenaaDoorTie
import Derived.Test.YthbendnhpjfenaaDoorLaid
namespace Go.Proofs.YthbendnhpjfenaaDoor.numRests
open Go.ChangeShapes Go.WideShapes Go.ChangeAt Go.RowKit

/-- What a division in bounds leaves, as the law asks it. -/
theorem facts (a b : Int) (hd : divB a b = true) : (a == b * divV a b + modV a b) = true ∧ (-2000000000000 ≤ b * divV a b ∧ b * divV a b ≤ 2000000000000) ∧
    (0 < b ∧ 0 ≤ modV a b ∧ modV a b < b ∨ b < 0 ∧ modV a b ≤ 0 ∧ b < modV a b) ∧ (-1000000000000 ≤ b ∧ b ≤ 1000000000000) := by
  obtain ⟨ha, hb, hz0⟩ := divB_parts hd
  have hz : b ≠ 0 := by simpa using hz0
  have s := rest_sign (a := a) hz
  have e := quo_rest a b
  rw [(div_eq hd).1, (mod_eq hd).1] at e
  rw [(mod_eq hd).1] at s
  have := of_inB ha
  have := of_inB hb
  have s' : 0 < b ∧ 0 ≤ modV a b ∧ modV a b < b ∨ b < 0 ∧ modV a b ≤ 0 ∧ b < modV a b := by
    rcases Int.lt_or_gt_of_ne hz with h | h
    · exact .inr ⟨h, s.2 h⟩
    · exact .inl ⟨h, s.1 h⟩
  exact ⟨beq_iff_eq.2 e, by omega, s', of_inB hb⟩

theorem walk (a b : Int) (w : World) (htab : Tab w) : Calls Tryd.prog 6 #[.int .i64 a, .int .i64 b] w fun e w' => e = .returned (.bool true) ∧ Below w.heap.size w w' := by
  have H0 := Lib.hid htab
  clear htab
  cases hd : divB a b with
  | false =>
    have hv : divV a b = 0 := (div_no hd).1.symm
    have hm : modV a b = 0 := (mod_no hd).1.symm
    rcases divB_no hd with ha | ⟨ha, hb⟩ | ⟨ha, hb, hz⟩
    · go_enter Tryd.func6, Tryd.ntmps6
      go_wp2_with (first | (go_at_call 18; refine (div_any _ _ _).mono ?_; rintro e w' ⟨rfl, rfl⟩) | (go_at_call 20; refine (mod_any _ _ _).mono ?_; rintro e w' ⟨rfl, rfl⟩) | (go_at_call 15; refine (in_any _ _).mono ?_; rintro e w' ⟨rfl, rfl⟩) | (go_at_call 17; refine (alive_any _ H0.out).mono ?_; rintro e w1 ⟨rfl, hb⟩; have B := Lib.hid hb; clear hb))
      go_ret
      exact ⟨rfl, B.out⟩
    · go_enter Tryd.func6, Tryd.ntmps6
      go_wp2_with (first | (go_at_call 18; refine (div_any _ _ _).mono ?_; rintro e w' ⟨rfl, rfl⟩) | (go_at_call 20; refine (mod_any _ _ _).mono ?_; rintro e w' ⟨rfl, rfl⟩) | (go_at_call 15; refine (in_any _ _).mono ?_; rintro e w' ⟨rfl, rfl⟩) | (go_at_call 17; refine (alive_any _ H0.out).mono ?_; rintro e w1 ⟨rfl, hb⟩; have B := Lib.hid hb; clear hb))
      go_ret
      exact ⟨rfl, B.out⟩
    · subst hz
      go_enter Tryd.func6, Tryd.ntmps6
      go_wp2_with (first | (go_at_call 18; refine (div_any _ _ _).mono ?_; rintro e w' ⟨rfl, rfl⟩) | (go_at_call 20; refine (mod_any _ _ _).mono ?_; rintro e w' ⟨rfl, rfl⟩) | (go_at_call 15; refine (in_any _ _).mono ?_; rintro e w' ⟨rfl, rfl⟩) | (go_at_call 17; refine (alive_any _ H0.out).mono ?_; rintro e w1 ⟨rfl, hb⟩; have B := Lib.hid hb; clear hb))
      go_ret
      exact ⟨rfl, B.out⟩
  | true =>
    obtain ⟨e1, ⟨q1, q2⟩, s, b1, b2⟩ := facts a b hd
    rcases s with ⟨s1, s2, s3⟩ | ⟨s1, s2, s3⟩
    · have r1 : -1000000000000 ≤ modV a b := by omega
      have r2 : modV a b ≤ 1000000000000 := by omega
      have t1 : decide (modV a b < 0) = false := decide_eq_false (by omega)
      have t2 : decide (b < 0) = false := decide_eq_false (by omega)
      have t3 : decide (0 < b) = true := decide_eq_true s1
      have t4 : decide (modV a b < b) = true := decide_eq_true s3
      cases hr : (modV a b == 0) with
      | false =>
        go_enter Tryd.func6, Tryd.ntmps6
        go_wp2_with (first | (go_at_call 18; refine (div_any _ _ _).mono ?_; rintro e w' ⟨rfl, rfl⟩) | (go_at_call 20; refine (mod_any _ _ _).mono ?_; rintro e w' ⟨rfl, rfl⟩) | (go_at_call 15; refine (in_any _ _).mono ?_; rintro e w' ⟨rfl, rfl⟩) | (go_at_call 17; refine (alive_any _ H0.out).mono ?_; rintro e w1 ⟨rfl, hb⟩; have B := Lib.hid hb; clear hb))
        go_ret
        exact ⟨rfl, B.out⟩
      | true =>
        go_enter Tryd.func6, Tryd.ntmps6
        go_wp2_with (first | (go_at_call 18; refine (div_any _ _ _).mono ?_; rintro e w' ⟨rfl, rfl⟩) | (go_at_call 20; refine (mod_any _ _ _).mono ?_; rintro e w' ⟨rfl, rfl⟩) | (go_at_call 15; refine (in_any _ _).mono ?_; rintro e w' ⟨rfl, rfl⟩) | (go_at_call 17; refine (alive_any _ H0.out).mono ?_; rintro e w1 ⟨rfl, hb⟩; have B := Lib.hid hb; clear hb))
        go_ret
        exact ⟨rfl, B.out⟩
    · have r1 : -1000000000000 ≤ modV a b := by omega
      have r2 : modV a b ≤ 1000000000000 := by omega
      have t2 : decide (b < 0) = true := decide_eq_true s1
      have t3 : decide (0 < b) = false := decide_eq_false (by omega)
      have t4 : decide (b < modV a b) = true := decide_eq_true s3
      cases hr : (modV a b == 0) with
      | false =>
        have t1 : decide (modV a b < 0) = true := decide_eq_true (by have : modV a b ≠ 0 := by simpa using hr
                                                                     omega)
        go_enter Tryd.func6, Tryd.ntmps6
        go_wp2_with (first | (go_at_call 18; refine (div_any _ _ _).mono ?_; rintro e w' ⟨rfl, rfl⟩) | (go_at_call 20; refine (mod_any _ _ _).mono ?_; rintro e w' ⟨rfl, rfl⟩) | (go_at_call 15; refine (in_any _ _).mono ?_; rintro e w' ⟨rfl, rfl⟩) | (go_at_call 17; refine (alive_any _ H0.out).mono ?_; rintro e w1 ⟨rfl, hb⟩; have B := Lib.hid hb; clear hb))
        go_ret
        exact ⟨rfl, B.out⟩
      | true =>
        go_enter Tryd.func6, Tryd.ntmps6
        go_wp2_with (first | (go_at_call 18; refine (div_any _ _ _).mono ?_; rintro e w' ⟨rfl, rfl⟩) | (go_at_call 20; refine (mod_any _ _ _).mono ?_; rintro e w' ⟨rfl, rfl⟩) | (go_at_call 15; refine (in_any _ _).mono ?_; rintro e w' ⟨rfl, rfl⟩) | (go_at_call 17; refine (alive_any _ H0.out).mono ?_; rintro e w1 ⟨rfl, hb⟩; have B := Lib.hid hb; clear hb))
        go_ret
        exact ⟨rfl, B.out⟩

theorem contract (H : Type) (enc : TypeId × Value → H) (W : World) (base : Nat) (args : Array Value) (ds gs : List (DataW H)) (before : List MemPlace)
    (hval : ∀ (j : Nat) t v, Tryd.f6.params[j]? = some t → args[j]? = some v → Value.okWide Tryd.prog W .any base t v)
    (hW : DataW.Whole enc Tryd.prog Tryd.f6.params.toList Rows.numRestsSpec.vars false W args.toList ds gs before) (hL : laidMetH Tryd.prog Rows.numRestsRow.laid W) :
    Calls Tryd.prog 6 args W fun e W' => ∃ v, e = .returned v ∧ Rows.numRestsSpec.post enc Tryd.prog Tryd.f6 false true false false W args v W' := by
  have hW' := hW
  obtain ⟨p, q, hA0, hV, rfl, hfz, hnd⟩ := hW
  have hA : DataW.TrodAll enc Tryd.prog W 0 (fun _ => true) true Tryd.f6.params.toList args.toList ds p := hA0
  rw [Tryd.params6] at hA hval
  obtain ⟨v0, vs0, d0, ds0, p0, q0, hargs, rfl, rfl, h0, r0⟩ := trodAll_cons hA
  obtain ⟨v1, vs1, d1, ds1, p1, q1, rfl, rfl, rfl, h1, r1⟩ := trodAll_cons r0
  obtain ⟨rfl, rfl, rfl⟩ := trodAll_nil r1
  obtain rfl : args = #[v0, v1] := by cases args; simp_all
  obtain ⟨rfl, rfl⟩ := trodVars_none hV
  obtain ⟨a, rfl, rfl, rfl, w0⟩ := open_int Tryd.underlying3 (hval 0 3 v0 rfl rfl) h0
  obtain ⟨b, rfl, rfl, rfl, w1⟩ := open_int Tryd.underlying3 (hval 1 3 v1 rfl rfl) h1
  clear hA0
  simp only [List.append_nil] at hW'
  refine (walk a b W (tab_of_laid hL)).mono fun e W' ⟨he, hg⟩ => ?_
  subst he
  exact ⟨_, rfl, _, _, _, [], [], [], hW', trodAll_mk1 (shut_bool Tryd.underlying4 _), (trodAll_cons_mk (shut_int Tryd.underlying3 w0) (trodAll_cons_mk (shut_int Tryd.underlying3 w1) trodAll_mk0)), rfl, hg.frame _, fun h => by cases h⟩

theorem reads (os : Os) {H : Type} (enc : TypeId × Value → H) : ∃ places, DataW.whole enc Tryd.prog ((World.doorLaid Tryd.prog 24 os).forCall (fun _ _ => 0) ⟨#[], #[.int .i64 0, .int .i64 0], []⟩).memory Tryd.f6.params.toList Rows.numRestsSpec.vars false #[Value.int .i64 0, Value.int .i64 0].toList 8 = some ([.lit (.int .i64 0), .lit (.int .i64 0)], [], places) :=
  ⟨[], by kernel_rfl⟩

set_option maxRecDepth 100000 in
theorem lifted (os : Os) (started : os.Started) (H : Type) (enc : TypeId × Value → H) (F : Stop.Interp) :
    ReturnsInHanded {} Tryd.checked os 6 .any ((OpenSpec.ofChange Rows.numRestsSpec).preRow enc Tryd.prog Tryd.f6 Rows.numRestsRow.domain false Rows.numRestsRow.laid) (((OpenSpec.ofChange Rows.numRestsSpec).at F).post enc Tryd.prog Tryd.f6 false true false false) := by
  obtain ⟨places, hx⟩ := reads os enc
  refine returnsInHanded_of_row (C := Tryd.checked) (s := OpenSpec.ofChange Rows.numRestsSpec) own started (by kernel_rfl) Tryd.func6
    (witness_row_at (enc := enc) (C := Tryd.checked) false (World.doorLaid Tryd.prog 24 os) #[.int .i64 0, .int .i64 0] rfl (by kernel_rfl) (by kernel_rfl) (by kernel_rfl)
      (OpenSpec.preRow_of_cond 8 hx (by kernel_rfl) (fun k hk => by cases hk) (by kernel_rfl) (laid_met os _))) ?_
  intro W base args ds gs before hval hW _ _ _ hL _ _
  exact contract H enc W base args ds gs before hval hW hL

theorem said : Rows.NumRestsSaid :=
  OpenClaim.holds_of_cond 6 Tryd.f6 rfl rfl rfl rfl rfl rfl rfl ⟨rfl, rfl, rfl, rfl, rfl⟩ rfl rfl rfl rfl rfl (by kernel_rfl) Tryd.func6 (by kernel_rfl)
    (of_decide_eq_true (by kernel_rfl)) (by unfold Func.isWrapper; first | (rw [if_pos (by decide +kernel)]; kernel_rfl) | (rw [if_neg (by decide +kernel)]; exact ⟨rfl, rfl⟩))
    (fun os started H enc _ F => by rw [OpenClaim.pre_eq_preRow]; exact lifted os started H enc F)

theorem plain (f : FuncId) (fn : Func) (hf : Tryd.pinned.checked.prog.funcNamed "liquidcheck/liquidchecklaw01.NumRests" = some f) (hfn : Tryd.pinned.checked.prog.funcs[f]? = some fn) :
    false = Tryd.pinned.checked.prog.looks [] ∧ ∀ (j : Nat) t, fn.params[j]? = some t → Tryd.pinned.checked.prog.wantsStandIn t = false := by
  obtain rfl : f = 6 := Option.some.inj ((show Tryd.prog.funcNamed "liquidcheck/liquidchecklaw01.NumRests" = some 6 by kernel_rfl).symm.trans hf) |>.symm
  obtain rfl : fn = Tryd.f6 := (Option.some.inj (Tryd.func6.symm.trans hfn)).symm
  refine ⟨by kernel_rfl, fun j t ht => ?_⟩
  rw [Tryd.params6] at ht
  have hm : t ∈ [3] := by simpa using Array.mem_of_getElem? ht
  obtain rfl : t = 3 := by simpa using hm
  exact (show Tryd.prog.wantsStandIn 3 = false by kernel_rfl)

theorem card : Rows.NumRestsCardSaid :=
  Claim7.holds_tied_plain_at .later [] _ _ _ _ said (fun _ h => by cases h) (by kernel_rfl) (fun _ h => by cases h) numRests_row_tie rfl ⟨rfl, rfl⟩ (by kernel_rfl) rfl plain (by kernel_rfl)
end Go.Proofs.YthbendnhpjfenaaDoor.numRests
