/-
  THE STATEMENT LexTexts IS PROVED: for every two lists of tokens (the listed tables holding what the program's text lays, tied by the card), the law returns true and its arguments read as before.
-/
import Derived.Test.YtblakndpionmgaaDoorCards
import Derived.Test.YtblakndpionmgaaDoorTie
import Derived.Test.YtblakndpionmgaaDoorLxLaid
import Derived.Test.YtblakndpionmgaaDoorLxArg
import Derived.Test.YtblakndpionmgaaDoorLxXT
import Derived.Test.YtblakndpionmgaaDoorLxXL
import Derived.Test.YtblakndpionmgaaDoorLxV
namespace Go.Proofs.YtblakndpionmgaaDoor.lexTexts
open Go.ChangeShapes Go.WideShapes Go.ChangeAt Go.RowKit
open Go.ChangeMaps (open_string shut_string)

set_option maxRecDepth 100000 in
set_option maxHeartbeats 8000000 in
theorem walk (A : Option Addr) (n c : Nat) (ts : List Tk) (B : Option Addr) (m d : Nat) (us : List Tk) (w : World) (ha : Ts w A n c ts) (hbd : ∀ t ∈ ts, -9223372036854775808 ≤ t.line ∧ t.line ≤ 9223372036854775807) (hb : Ts w B m d us) (htab : Tabx w) (hst : St w) :
    Calls Tryd.prog 5 #[.slice A n c, .slice B m d] w fun e w' => e = .returned (.bool true) ∧ Below w.heap.size w w' := by
  have HT := Lib.hid htab
  have HS := Lib.hid hst
  have HB0 : Hid (Below w.heap.size w w) := Below.refl _ _
  clear htab hst
  cases hfa : fewT ts with
  | false =>
    have C1 := fewt_any A n c ts w ha
    rw [hfa] at C1
    clear ha hb hbd hfa
    go_enter Tryd.func5, Tryd.ntmps5
    go_wp2_with fail
    ((with_reducible refine C1.mono ?_); rintro e wx ⟨rfl, rfl⟩)
    go_wp2_with fail
    (refine (awake_any w (tabx_on HT.out HB0.out) (HS.out.below HB0.out)).mono ?_); rintro e w9 ⟨rfl, hb⟩
    have HB9 := Lib.hid (nbelow_on HB0.out hb)
    clear hb
    go_wp2_with fail
    go_ret
    exact ⟨rfl, HB9.out⟩
  | true =>
    cases hfb : fewT us with
    | false =>
      have C1 := fewt_any A n c ts w ha
      have C2 := fewt_any B m d us w hb
      rw [hfa] at C1
      rw [hfb] at C2
      clear ha hb hbd hfa hfb
      go_enter Tryd.func5, Tryd.ntmps5
      go_wp2_with fail
      ((with_reducible refine C1.mono ?_); rintro e wx ⟨rfl, rfl⟩)
      go_wp2_with fail
      ((with_reducible refine C2.mono ?_); rintro e wx ⟨rfl, rfl⟩)
      go_wp2_with fail
      (refine (awake_any w (tabx_on HT.out HB0.out) (HS.out.below HB0.out)).mono ?_); rintro e w9 ⟨rfl, hb⟩
      have HB9 := Lib.hid (nbelow_on HB0.out hb)
      clear hb
      go_wp2_with fail
      go_ret
      exact ⟨rfl, HB9.out⟩
    | true =>
      obtain ⟨hn2, hl3⟩ := few_facts hfa
      have hna : n ≤ 200 := by rw [← ha.len]; exact hn2
      have HA := Lib.hid ha
      have HBB := Lib.hid hb
      have K1 := ltext_any A n c ts w ha (fun t ht => (hbd t ht).2) HT.out HS.out
      have K2 := fun W (h : Below w.heap.size w W) => xtext_any A n c ts W (ha.below h) (fun t ht => ⟨(hbd t ht).2, hl3 t ht⟩)
      have K3 := fun W (h : Below w.heap.size w W) => lsame_any A n c ts B m d us W (ha.below h) (hb.below h)
      have K4 := fun W (h : Below w.heap.size w W) => xsame_any A n c ts B m d us W (ha.below h) (hb.below h)
      have K5 := fun W (h : Below w.heap.size w W) => lsame_any A n c ts A n c ts W (ha.below h) (ha.below h)
      have K6 := fun W (h : Below w.heap.size w W) => lines_any A n c ts W (ha.below h) (by omega) hbd
      have K7 := fun W (h : Below w.heap.size w W) => xlines_any A n c ts W (ha.below h) (by omega)
      have C1 := fewt_any A n c ts w ha
      have C2 := fewt_any B m d us w hb
      rw [hfa] at C1
      rw [hfb] at C2
      generalize sameB ts us = bs at K3 K4
      have bbs : (bs == bs) = true := beq_self_eq_true bs
      generalize linesN ts = ln at K6 K7
      have bln : ((ln : Int) == (ln : Int)) = true := beq_self_eq_true _
      obtain ⟨tt, te, hr⟩ : ∃ tt te, textR ts = (tt, te) := ⟨_, _, rfl⟩
      obtain ⟨tb, htb⟩ : ∃ tb : ByteArray, tb = ⟨tt.toArray⟩ := ⟨_, rfl⟩
      have btb : (tb.toList == tb.toList) = true := beq_self_eq_true _
      have bte : (te == te) = true := beq_self_eq_true te
      unfold TextP at K1 K2
      rw [hr] at K1 K2
      simp only [← htb] at K1 K2
      simp only [same_self] at K5
      clear ha hb hbd hfa hfb hn2 hl3 hr htb
      go_enter Tryd.func5, Tryd.ntmps5
      go_wp2_with fail
      ((with_reducible refine C1.mono ?_); rintro e wx ⟨rfl, rfl⟩)
      go_wp2_with fail
      ((with_reducible refine C2.mono ?_); rintro e wx ⟨rfl, rfl⟩)
      go_wp2_with fail
      (refine K1.mono ?_); rintro e w1 ⟨rfl, hb⟩
      have HB1 := Lib.hid hb
      clear hb K1
      go_wp2_with fail
      (refine (K2 w1 HB1.out).mono ?_); rintro e w2 ⟨rfl, hb⟩
      have HB2 := Lib.hid (nbelow_on HB1.out hb)
      clear hb
      go_wp2_with fail
      (refine (K3 w2 HB2.out).mono ?_); rintro e w3 ⟨rfl, hb⟩
      have HB3 := Lib.hid (nbelow_on HB2.out hb)
      clear hb
      go_wp2_with fail
      (refine (K4 w3 HB3.out).mono ?_); rintro e w4 ⟨rfl, hb⟩
      have HB4 := Lib.hid (nbelow_on HB3.out hb)
      clear hb
      go_wp2_with fail
      (refine (K5 w4 HB4.out).mono ?_); rintro e w5 ⟨rfl, hb⟩
      have HB5 := Lib.hid (nbelow_on HB4.out hb)
      clear hb
      go_wp2_with fail
      (refine (K6 w5 HB5.out).mono ?_); rintro e w6 ⟨rfl, hb⟩
      have HB6 := Lib.hid (nbelow_on HB5.out hb)
      clear hb
      go_wp2_with fail
      (refine (K7 w6 HB6.out).mono ?_); rintro e w7 ⟨rfl, hb⟩
      have HB7 := Lib.hid (nbelow_on HB6.out hb)
      clear hb
      go_wp2_with fail
      (refine (awake_any w7 (tabx_on HT.out HB7.out) (HS.out.below HB7.out)).mono ?_); rintro e w9 ⟨rfl, hb⟩
      have HB9 := Lib.hid (nbelow_on HB7.out hb)
      clear hb
      go_wp2_with fail
      go_ret
      exact ⟨rfl, HB9.out⟩

set_option maxRecDepth 100000 in
theorem contract (H : Type) (enc : TypeId × Value → H) (W : World) (base : Nat) (args : Array Value) (ds gs : List (DataW H)) (before : List MemPlace)
    (hval : ∀ (j : Nat) t v, Tryd.f5.params[j]? = some t → args[j]? = some v → Value.okWide Tryd.prog W .any base t v)
    (hW : DataW.Whole enc Tryd.prog Tryd.f5.params.toList Rows.lexTextsSpec.vars false W args.toList ds gs before) (hL : laidMetH Tryd.prog Rows.lexTextsRow.laid W) (_hSh : W.ShapedOpen Tryd.prog) :
    Calls Tryd.prog 5 args W fun e W' => ∃ v, e = .returned v ∧ Rows.lexTextsSpec.post enc Tryd.prog Tryd.f5 false true false false W args v W' := by
  have hW' := hW
  obtain ⟨p, q, hA0, hV, rfl, hfz, hnd⟩ := hW
  have hA : DataW.TrodAll enc Tryd.prog W 0 (fun _ => true) true Tryd.f5.params.toList args.toList ds p := hA0
  have hlt : ∀ x ∈ p, x.block < W.heap.size := fun x hx => hW'.lt x (by simp [hx])
  have hAll := hA
  rw [Tryd.params5] at hA hval
  obtain ⟨v0, vs0, d0, ds0, p0, q0, hargs, rfl, rfl, h0, r0⟩ := trodAll_cons hA
  obtain ⟨v1, vs1, d1, ds1, p1, q1, rfl, rfl, rfl, h1, r1⟩ := trodAll_cons r0
  obtain ⟨rfl, rfl, rfl⟩ := trodAll_nil r1
  obtain rfl : args = #[v0, v1] := by cases args; simp_all
  obtain ⟨rfl, rfl⟩ := trodVars_none hV
  obtain ⟨A1, n1, c1, x1, rfl, g1, bd1⟩ := open_toks (hval 0 26 v0 rfl rfl) h0
  obtain ⟨A2, n2, c2, x2, rfl, g2, bd2⟩ := open_toks (hval 1 26 v1 rfl rfl) h1
  refine (walk A1 n1 c1 x1 A2 n2 c2 x2 W g1 bd1 g2 (tabx_of_laid hL) (st_of_laid hL)).mono fun e W' ⟨he, hg⟩ => ?_
  subst he
  refine ⟨_, rfl, _, _, _, [], _, [], hW', trodAll_mk1 (shut_bool Tryd.underlying4 _), trodAll_below hg (fun t ht => ?_) hAll hlt, rfl, hg.frame _, fun h => by cases h⟩
  rw [Tryd.params5] at ht
  simp only [List.mem_cons, List.not_mem_nil, or_false] at ht
  rcases ht with rfl | rfl
  · exact read_toks
  · exact read_toks

set_option maxRecDepth 100000 in
theorem reads (os : Os) {H : Type} (enc : TypeId × Value → H) : ∃ places, DataW.whole enc Tryd.prog ((World.laidAll Tryd.prog os laidNames).forCall (fun _ _ => 0) ⟨#[], #[Value.slice none 0 0, Value.slice none 0 0], []⟩).memory Tryd.f5.params.toList Rows.lexTextsSpec.vars false #[Value.slice none 0 0, Value.slice none 0 0].toList 8 = some ([.nil, .nil], [], places) :=
  ⟨[], by kernel_rfl⟩

set_option maxRecDepth 100000 in
theorem lifted (os : Os) (started : os.Started) (H : Type) (enc : TypeId × Value → H) (F : Stop.Interp) :
    ReturnsInHanded {} Tryd.checked os 5 .any ((OpenSpec.ofChange Rows.lexTextsSpec).preRow enc Tryd.prog Tryd.f5 Rows.lexTextsRow.domain false Rows.lexTextsRow.laid) (((OpenSpec.ofChange Rows.lexTextsSpec).at F).post enc Tryd.prog Tryd.f5 false true false false) := by
  obtain ⟨places, hx⟩ := reads os enc
  refine returnsInHanded_of_row (C := Tryd.checked) (s := OpenSpec.ofChange Rows.lexTextsSpec) own started (by kernel_rfl) Tryd.func5
    (witness_row_at (enc := enc) (C := Tryd.checked) false (World.laidAll Tryd.prog os laidNames) #[Value.slice none 0 0, Value.slice none 0 0] rfl (by kernel_rfl) (by kernel_rfl) (by kernel_rfl)
      (OpenSpec.preRow_of_cond 8 hx (by kernel_rfl) (fun k hk => by cases hk) (by kernel_rfl) (laid_met os _))) ?_
  intro W base args ds gs before hval hW _ _ _ hL hSh _
  exact contract H enc W base args ds gs before hval hW hL hSh

theorem said : Rows.LexTextsSaid :=
  OpenClaim.holds_of_cond 5 Tryd.f5 rfl rfl rfl rfl rfl rfl rfl ⟨rfl, rfl, rfl, rfl, rfl⟩ rfl rfl rfl rfl rfl (by kernel_rfl) Tryd.func5 (by kernel_rfl)
    (of_decide_eq_true (by kernel_rfl)) (by unfold Func.isWrapper; first | (rw [if_pos (by decide +kernel)]; kernel_rfl) | (rw [if_neg (by decide +kernel)]; exact ⟨rfl, rfl⟩))
    (fun os started H enc _ F => by rw [OpenClaim.pre_eq_preRow]; exact lifted os started H enc F)

theorem plain (f : FuncId) (fn : Func) (hf : Tryd.pinned.checked.prog.funcNamed "liquidcheck/liquidchecklaw05.LexTexts" = some f) (hfn : Tryd.pinned.checked.prog.funcs[f]? = some fn) :
    false = Tryd.pinned.checked.prog.looks [] ∧ ∀ (j : Nat) t, fn.params[j]? = some t → Tryd.pinned.checked.prog.wantsStandIn t = false := by
  obtain rfl : f = 5 := Option.some.inj ((show Tryd.prog.funcNamed "liquidcheck/liquidchecklaw05.LexTexts" = some 5 by kernel_rfl).symm.trans hf) |>.symm
  obtain rfl : fn = Tryd.f5 := (Option.some.inj (Tryd.func5.symm.trans hfn)).symm
  refine ⟨by kernel_rfl, fun j t ht => ?_⟩
  rw [Tryd.params5] at ht
  have hm := Array.mem_of_getElem? ht
  simp only [List.mem_toArray, List.mem_cons, List.not_mem_nil, or_false] at hm
  rcases hm with rfl | rfl
  · exact (show Tryd.prog.wantsStandIn 26 = false by kernel_rfl)
  · exact (show Tryd.prog.wantsStandIn 26 = false by kernel_rfl)

theorem card : Rows.LexTextsCardSaid :=
  Claim7.holds_tied_plain_at .later [] _ _ _ _ said (fun _ h => by cases h) (by kernel_rfl) (fun _ h => by cases h) lexTexts_row_tie rfl ⟨rfl, rfl⟩ (by kernel_rfl) rfl plain (by kernel_rfl)
end Go.Proofs.YtblakndpionmgaaDoor.lexTexts
