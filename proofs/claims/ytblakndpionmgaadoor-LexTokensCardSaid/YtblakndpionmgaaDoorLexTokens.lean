/-
  THE STATEMENT LexTokens IS PROVED: for every text (the listed tables holding what the program's text lays, tied by the card), the law returns true and its argument reads as before.
-/
import Derived.Test.YtblakndpionmgaaDoorCards
import Derived.Test.YtblakndpionmgaaDoorTie
import Derived.Test.YtblakndpionmgaaDoorLxLaid
import Derived.Test.YtblakndpionmgaaDoorLxU
import Derived.Test.YtblakndpionmgaaDoorLxV
namespace Go.Proofs.YtblakndpionmgaaDoor.lexTokens
open Go.ChangeShapes Go.WideShapes Go.ChangeAt Go.RowKit
open Go.ChangeMaps (open_string shut_string)

set_option maxRecDepth 100000 in
set_option maxHeartbeats 8000000 in
theorem walk (s : ByteArray) (w : World) (htab : Tabx w) (hst : St w) : Calls Tryd.prog 4 #[.string s] w fun e w' => e = .returned (.bool true) ∧ Below w.heap.size w w' := by
  have HT := Lib.hid htab
  have HS := Lib.hid hst
  clear htab hst
  by_cases h3 : s.size ≤ 3000
  · have q3 : ¬ (3000 : Int) < (s.size : Int) := by omega
    have K1 := tokens_any s w HT.out HS.out
    have K2 := fun W => xtokens_any s W
    obtain ⟨ts, z1, z2, hr⟩ : ∃ ts z1 z2, tokens s.data.toList = (ts, z1, z2) := ⟨_, _, _, rfl⟩
    rw [hr] at K1 K2
    have bz1 : (z1 == z1) = true := beq_self_eq_true z1
    have bz2 : (z2 == z2) = true := beq_self_eq_true z2
    clear hr
    go_enter Tryd.func4, Tryd.ntmps4
    go_wp2_with fail
    (refine K1.mono ?_); rintro e w1 ⟨A, n, c, rfl, hts, hb⟩
    have HT1 := Lib.hid (show Ts w1 A n c ts from hts)
    have HB1 := Lib.hid hb
    clear hts hb K1
    go_wp2_with fail
    (refine (K2 _).mono ?_); rintro e w2 ⟨A2, n2, c2, rfl, hts, hb⟩
    have HT2 := Lib.hid (show Ts w2 A2 n2 c2 ts from hts)
    have HT1' := Lib.hid (HT1.out.below hb)
    have HB2 := Lib.hid (nbelow_on HB1.out hb)
    have CS := xsame_any A n c ts A2 n2 c2 ts w2 HT1'.out HT2.out
    rw [same_self] at CS
    clear hts hb K2
    go_wp2_with fail
    (refine CS.mono ?_); rintro e w3 ⟨rfl, hb⟩
    have HB3 := Lib.hid (nbelow_on HB2.out hb)
    clear hb CS
    go_wp2_with fail
    (refine (awake_any w3 (tabx_on HT.out HB3.out) (HS.out.below HB3.out)).mono ?_); rintro e w9 ⟨rfl, hb⟩
    have HB9 := Lib.hid (nbelow_on HB3.out hb)
    clear hb
    go_wp2_with fail
    go_ret
    exact ⟨rfl, HB9.out⟩
  · have q3 : (3000 : Int) < (s.size : Int) := by omega
    by_cases h4 : s.size ≤ 40000
    · have q4 : (s.size : Int) ≤ 40000 := by omega
      have HB0 : Hid (Below w.heap.size w w) := Below.refl _ _
      go_enter Tryd.func4, Tryd.ntmps4
      go_wp2_with fail
      (refine (awake_any w (tabx_on HT.out HB0.out) (HS.out.below HB0.out)).mono ?_); rintro e w9 ⟨rfl, hb⟩
      have HB9 := Lib.hid (nbelow_on HB0.out hb)
      clear hb
      go_wp2_with fail
      go_ret
      exact ⟨rfl, HB9.out⟩
    · have q4 : ¬ (s.size : Int) ≤ 40000 := by omega
      have K1 := tokens_any s w HT.out HS.out
      have K2 := fun W => xtokens_any s W
      obtain ⟨ts, z1, z2, hr⟩ : ∃ ts z1 z2, tokens s.data.toList = (ts, z1, z2) := ⟨_, _, _, rfl⟩
      rw [hr] at K1 K2
      have bz1 : (z1 == z1) = true := beq_self_eq_true z1
      have bz2 : (z2 == z2) = true := beq_self_eq_true z2
      clear hr
      go_enter Tryd.func4, Tryd.ntmps4
      go_wp2_with fail
      (refine K1.mono ?_); rintro e w1 ⟨A, n, c, rfl, hts, hb⟩
      have HT1 := Lib.hid (show Ts w1 A n c ts from hts)
      have HB1 := Lib.hid hb
      clear hts hb K1
      go_wp2_with fail
      (refine (K2 _).mono ?_); rintro e w2 ⟨A2, n2, c2, rfl, hts, hb⟩
      have HT2 := Lib.hid (show Ts w2 A2 n2 c2 ts from hts)
      have HT1' := Lib.hid (HT1.out.below hb)
      have HB2 := Lib.hid (nbelow_on HB1.out hb)
      have CS := xsame_any A n c ts A2 n2 c2 ts w2 HT1'.out HT2.out
      rw [same_self] at CS
      clear hts hb K2
      go_wp2_with fail
      (refine CS.mono ?_); rintro e w3 ⟨rfl, hb⟩
      have HB3 := Lib.hid (nbelow_on HB2.out hb)
      clear hb CS
      go_wp2_with fail
      (refine (awake_any w3 (tabx_on HT.out HB3.out) (HS.out.below HB3.out)).mono ?_); rintro e w9 ⟨rfl, hb⟩
      have HB9 := Lib.hid (nbelow_on HB3.out hb)
      clear hb
      go_wp2_with fail
      go_ret
      exact ⟨rfl, HB9.out⟩

set_option maxRecDepth 100000 in
theorem contract (H : Type) (enc : TypeId × Value → H) (W : World) (base : Nat) (args : Array Value) (ds gs : List (DataW H)) (before : List MemPlace)
    (hval : ∀ (j : Nat) t v, Tryd.f4.params[j]? = some t → args[j]? = some v → Value.okWide Tryd.prog W .any base t v)
    (hW : DataW.Whole enc Tryd.prog Tryd.f4.params.toList Rows.lexTokensSpec.vars false W args.toList ds gs before) (hL : laidMetH Tryd.prog Rows.lexTokensRow.laid W) (_hSh : W.ShapedOpen Tryd.prog) :
    Calls Tryd.prog 4 args W fun e W' => ∃ v, e = .returned v ∧ Rows.lexTokensSpec.post enc Tryd.prog Tryd.f4 false true false false W args v W' := by
  have hW' := hW
  obtain ⟨p, q, hA0, hV, rfl, hfz, hnd⟩ := hW
  have hA : DataW.TrodAll enc Tryd.prog W 0 (fun _ => true) true Tryd.f4.params.toList args.toList ds p := hA0
  have hlt : ∀ x ∈ p, x.block < W.heap.size := fun x hx => hW'.lt x (by simp [hx])
  have hAll := hA
  rw [Tryd.params4] at hA hval
  obtain ⟨v0, vs0, d0, ds0, p0, q0, hargs, rfl, rfl, h0, r0⟩ := trodAll_cons hA
  obtain ⟨rfl, rfl, rfl⟩ := trodAll_nil r0
  obtain rfl : args = #[v0] := by cases args; simp_all
  obtain ⟨rfl, rfl⟩ := trodVars_none hV
  obtain ⟨t1, rfl, _, _, g1⟩ := open_string Tryd.underlying9 (hval 0 9 v0 rfl rfl) h0
  refine (walk t1 W (tabx_of_laid hL) (st_of_laid hL)).mono fun e W' ⟨he, hg⟩ => ?_
  subst he
  refine ⟨_, rfl, _, _, _, [], _, [], hW', trodAll_mk1 (shut_bool Tryd.underlying4 _), trodAll_below hg (fun t ht => ?_) hAll hlt, rfl, hg.frame _, fun h => by cases h⟩
  rw [Tryd.params4] at ht
  simp only [List.mem_cons, List.not_mem_nil, or_false] at ht
  rcases ht with rfl
  · exact read_string

set_option maxRecDepth 100000 in
theorem reads (os : Os) {H : Type} (enc : TypeId × Value → H) : ∃ places, DataW.whole enc Tryd.prog ((World.laidAll Tryd.prog os laidNames).forCall (fun _ _ => 0) ⟨#[], #[Value.string ByteArray.empty], []⟩).memory Tryd.f4.params.toList Rows.lexTokensSpec.vars false #[Value.string ByteArray.empty].toList 8 = some ([.lit (.string [])], [], places) :=
  ⟨[], by kernel_rfl⟩

set_option maxRecDepth 100000 in
theorem lifted (os : Os) (started : os.Started) (H : Type) (enc : TypeId × Value → H) (F : Stop.Interp) :
    ReturnsInHanded {} Tryd.checked os 4 .any ((OpenSpec.ofChange Rows.lexTokensSpec).preRow enc Tryd.prog Tryd.f4 Rows.lexTokensRow.domain false Rows.lexTokensRow.laid) (((OpenSpec.ofChange Rows.lexTokensSpec).at F).post enc Tryd.prog Tryd.f4 false true false false) := by
  obtain ⟨places, hx⟩ := reads os enc
  refine returnsInHanded_of_row (C := Tryd.checked) (s := OpenSpec.ofChange Rows.lexTokensSpec) own started (by kernel_rfl) Tryd.func4
    (witness_row_at (enc := enc) (C := Tryd.checked) false (World.laidAll Tryd.prog os laidNames) #[Value.string ByteArray.empty] rfl (by kernel_rfl) (by kernel_rfl) (by kernel_rfl)
      (OpenSpec.preRow_of_cond 8 hx (by kernel_rfl) (fun k hk => by cases hk) (by kernel_rfl) (laid_met os _))) ?_
  intro W base args ds gs before hval hW _ _ _ hL hSh _
  exact contract H enc W base args ds gs before hval hW hL hSh

theorem said : Rows.LexTokensSaid :=
  OpenClaim.holds_of_cond 4 Tryd.f4 rfl rfl rfl rfl rfl rfl rfl ⟨rfl, rfl, rfl, rfl, rfl⟩ rfl rfl rfl rfl rfl (by kernel_rfl) Tryd.func4 (by kernel_rfl)
    (of_decide_eq_true (by kernel_rfl)) (by unfold Func.isWrapper; first | (rw [if_pos (by decide +kernel)]; kernel_rfl) | (rw [if_neg (by decide +kernel)]; exact ⟨rfl, rfl⟩))
    (fun os started H enc _ F => by rw [OpenClaim.pre_eq_preRow]; exact lifted os started H enc F)

theorem plain (f : FuncId) (fn : Func) (hf : Tryd.pinned.checked.prog.funcNamed "liquidcheck/liquidchecklaw05.LexTokens" = some f) (hfn : Tryd.pinned.checked.prog.funcs[f]? = some fn) :
    false = Tryd.pinned.checked.prog.looks [] ∧ ∀ (j : Nat) t, fn.params[j]? = some t → Tryd.pinned.checked.prog.wantsStandIn t = false := by
  obtain rfl : f = 4 := Option.some.inj ((show Tryd.prog.funcNamed "liquidcheck/liquidchecklaw05.LexTokens" = some 4 by kernel_rfl).symm.trans hf) |>.symm
  obtain rfl : fn = Tryd.f4 := (Option.some.inj (Tryd.func4.symm.trans hfn)).symm
  refine ⟨by kernel_rfl, fun j t ht => ?_⟩
  rw [Tryd.params4] at ht
  have hm := Array.mem_of_getElem? ht
  simp only [List.mem_toArray, List.mem_cons, List.not_mem_nil, or_false] at hm
  rcases hm with rfl
  · exact (show Tryd.prog.wantsStandIn 9 = false by kernel_rfl)

theorem card : Rows.LexTokensCardSaid :=
  Claim7.holds_tied_plain_at .later [] _ _ _ _ said (fun _ h => by cases h) (by kernel_rfl) (fun _ h => by cases h) lexTokens_row_tie rfl ⟨rfl, rfl⟩ (by kernel_rfl) rfl plain (by kernel_rfl)
end Go.Proofs.YtblakndpionmgaaDoor.lexTokens
