/-
  THE STATEMENT LexRoundTrip IS PROVED: for every text (the listed tables holding what the program's text lays, tied by the card), the law returns true and its argument reads as before.
-/
import Derived.Test.YtblakndpionmgaaDoorCards
import Derived.Test.YtblakndpionmgaaDoorTie
import Derived.Test.YtblakndpionmgaaDoorLxLaid
import Derived.Test.YtblakndpionmgaaDoorLxRoundMath
import Derived.Test.YtblakndpionmgaaDoorLxV
namespace Go.Proofs.YtblakndpionmgaaDoor.lexRoundTrip
open Go.ChangeShapes Go.WideShapes Go.ChangeAt Go.RowKit
open Go.ChangeMaps (open_string shut_string)

set_option maxRecDepth 100000 in
set_option maxHeartbeats 16000000 in
theorem walk (s : ByteArray) (w : World) (htab : Tabx w) (hst : St w) : Calls Tryd.prog 6 #[.string s] w fun e w' => e = .returned (.bool true) ∧ Below w.heap.size w w' := by
  have HT := Lib.hid htab
  have HS := Lib.hid hst
  have HB0 : Hid (Below w.heap.size w w) := Below.refl _ _
  clear htab hst
  by_cases h3 : s.size ≤ 3000
  · have q3 : ¬ (3000 : Int) < (s.size : Int) := by omega
    have K1 := tokens_any s w HT.out HS.out
    have hkn := tokens_kind (l := s.data.toList) (by rw [← size_list]; omega)
    obtain ⟨ts, z1, z2, hr⟩ : ∃ ts z1 z2, tokens s.data.toList = (ts, z1, z2) := ⟨_, _, _, rfl⟩
    rw [hr] at hkn
    simp only at hkn
    rcases hkn with ⟨hz2, hz1⟩ | ⟨hz2, hts0⟩
    · obtain ⟨t, htx, htk, hwf⟩ := round_trip (s := s.data.toList) (by rw [← size_list]; omega) (by rw [hr]; exact hz2)
      have hln := (tokens_lines (l := s.data.toList) (by rw [← size_list]; omega)).1
      rw [hr] at htx htk hwf hln
      simp only at htx htk hwf hln
      subst hz2
      subst hz1
      obtain ⟨hpos, hlast⟩ := wf_last hwf
      have HWF := Lib.hid hlast
      have HPOS := Lib.hid hpos
      have HLN := Lib.hid hln
      obtain ⟨tb, htb⟩ : ∃ tb : ByteArray, tb = ⟨t.toArray⟩ := ⟨_, rfl⟩
      have htl : tb.data.toList = t := by rw [htb]
      have KT := fun A n c W (h : Ts W A n c ts) h1 h2 => ltext_any A n c ts W h (fun u hu => by have := (hln u hu).2; omega) h1 h2
      have K2 := fun W h1 h2 => tokens_any tb W h1 h2
      rw [htl, htk] at K2
      rw [hr] at K1
      have HTX := Lib.hid htx
      have HTB := Lib.hid htb
      clear hr htx htk hwf hln hpos hlast htb htl
      go_enter Tryd.func6, Tryd.ntmps6
      go_wp2_with fail
      (refine K1.mono ?_); rintro e w1 ⟨A, n, c, rfl, hts, hb⟩
      have HA1 := Lib.hid (show Ts w1 A n c ts from hts)
      have HB1 := Lib.hid hb
      clear hts hb K1
      go_wp2_with fail
      (refine (KT A n c w1 HA1.out (tabx_on HT.out HB1.out) (HS.out.below HB1.out)).mono ?_); rintro e w2 hp
      unfold TextP at hp
      rw [HTX.out] at hp
      simp only at hp
      rw [← HTB.out] at hp
      obtain ⟨rfl, hb⟩ := hp
      have HA2 := Lib.hid (HA1.out.below hb)
      have HB2 := Lib.hid (nbelow_on HB1.out hb)
      clear hb
      have hnn := HA2.out.len
      obtain ⟨m, hm⟩ : ∃ m, n = m + 1 := ⟨n - 1, by have := HPOS.out; omega⟩
      obtain ⟨g, o, x, rfl, hg, c0, -, -, -, -⟩ := HA2.out.at_ (k := m) (by omega)
      have hk0 : (ts.getD m tk0).kind = 0 := by have := HWF.out; rw [hnn, hm] at this; exact this
      rw [hk0] at c0
      have gm : (n : Int) - 1 = (m : Int) := by omega
      have gn : ((n : Int) == 0) = false := beq_eq_false_iff_ne.2 (by omega)
      have gmn : (m : Int) < (n : Int) := by omega
      have h47 : n ≤ 9223372036854775807 := Nat.le_trans HA2.out.cap HA2.out.top
      clear hnn hk0 hm hg
      go_wp2_with fail
      clear c0
      (refine (K2 _ (tabx_on HT.out HB2.out) (HS.out.below HB2.out)).mono ?_); rintro e w3 ⟨B, n2, c2, rfl, hts, hb⟩
      have HC3 := Lib.hid (show Ts w3 B n2 c2 ts from hts)
      have HA3 := Lib.hid (HA2.out.below hb)
      have HB3 := Lib.hid (nbelow_on HB2.out hb)
      clear hts hb K2
      go_wp2_with fail
      (refine (KT B n2 c2 w3 HC3.out (tabx_on HT.out HB3.out) (HS.out.below HB3.out)).mono ?_); rintro e w4 hp
      unfold TextP at hp
      rw [HTX.out] at hp
      simp only at hp
      rw [← HTB.out] at hp
      obtain ⟨rfl, hb⟩ := hp
      have HB4 := Lib.hid (nbelow_on HB3.out hb)
      have CS := xsame_any _ _ _ ts _ _ _ ts w4 (HA3.out.below hb) (HC3.out.below hb)
      rw [same_self] at CS
      have btb : (tb.toList == tb.toList) = true := beq_self_eq_true _
      clear hb KT
      go_wp2_with fail
      (refine CS.mono ?_); rintro e w5 ⟨rfl, hb⟩
      have HB5 := Lib.hid (nbelow_on HB4.out hb)
      clear hb CS
      go_wp2_with fail
      (refine (awake_any w5 (tabx_on HT.out HB5.out) (HS.out.below HB5.out)).mono ?_); rintro e w9 ⟨rfl, hb⟩
      have HB9 := Lib.hid (nbelow_on HB5.out hb)
      clear hb
      go_wp2_with fail
      go_ret
      exact ⟨rfl, HB9.out⟩
    · have hbl := toks_bad_line (s.size + 1) false 1 s.data.toList [] (by omega)
      have hte : tokens s.data.toList = toksF (s.size + 1) false 1 s.data.toList [] := by
        unfold tokens
        rw [if_neg (by rw [← size_list]; omega), ← size_list]
      rw [← hte, hr] at hbl
      subst hz2
      subst hts0
      have hz1 : 1 ≤ z1 := hbl (by show (14 : Int) ≠ 0; decide)
      rw [hr] at K1
      have gz : (14 : Int) ≠ 0 := by decide
      clear hbl hte hr
      go_enter Tryd.func6, Tryd.ntmps6
      go_wp2_with fail
      (refine K1.mono ?_); rintro e w1 ⟨A, n, c, rfl, hts, hb⟩
      have hn0 : n = 0 := (show Ts w1 A n c [] from hts).len.symm
      subst hn0
      have HB1 := Lib.hid hb
      clear hts hb K1
      go_wp2_with fail
      (refine (awake_any w1 (tabx_on HT.out HB1.out) (HS.out.below HB1.out)).mono ?_); rintro e w9 ⟨rfl, hb⟩
      have HB9 := Lib.hid (nbelow_on HB1.out hb)
      clear hb
      go_wp2_with fail
      go_ret
      exact ⟨rfl, HB9.out⟩
  · have q3 : (3000 : Int) < (s.size : Int) := by omega
    go_enter Tryd.func6, Tryd.ntmps6
    go_wp2_with fail
    (refine (awake_any w (tabx_on HT.out HB0.out) (HS.out.below HB0.out)).mono ?_); rintro e w9 ⟨rfl, hb⟩
    have HB9 := Lib.hid (nbelow_on HB0.out hb)
    clear hb
    go_wp2_with fail
    go_ret
    exact ⟨rfl, HB9.out⟩

set_option maxRecDepth 100000 in
theorem contract (H : Type) (enc : TypeId × Value → H) (W : World) (base : Nat) (args : Array Value) (ds gs : List (DataW H)) (before : List MemPlace)
    (hval : ∀ (j : Nat) t v, Tryd.f6.params[j]? = some t → args[j]? = some v → Value.okWide Tryd.prog W .any base t v)
    (hW : DataW.Whole enc Tryd.prog Tryd.f6.params.toList Rows.lexRoundTripSpec.vars false W args.toList ds gs before) (hL : laidMetH Tryd.prog Rows.lexRoundTripRow.laid W) (_hSh : W.ShapedOpen Tryd.prog) :
    Calls Tryd.prog 6 args W fun e W' => ∃ v, e = .returned v ∧ Rows.lexRoundTripSpec.post enc Tryd.prog Tryd.f6 false true false false W args v W' := by
  have hW' := hW
  obtain ⟨p, q, hA0, hV, rfl, hfz, hnd⟩ := hW
  have hA : DataW.TrodAll enc Tryd.prog W 0 (fun _ => true) true Tryd.f6.params.toList args.toList ds p := hA0
  have hlt : ∀ x ∈ p, x.block < W.heap.size := fun x hx => hW'.lt x (by simp [hx])
  have hAll := hA
  rw [Tryd.params6] at hA hval
  obtain ⟨v0, vs0, d0, ds0, p0, q0, hargs, rfl, rfl, h0, r0⟩ := trodAll_cons hA
  obtain ⟨rfl, rfl, rfl⟩ := trodAll_nil r0
  obtain rfl : args = #[v0] := by cases args; simp_all
  obtain ⟨rfl, rfl⟩ := trodVars_none hV
  obtain ⟨t1, rfl, _, _, g1⟩ := open_string Tryd.underlying9 (hval 0 9 v0 rfl rfl) h0
  refine (walk t1 W (tabx_of_laid hL) (st_of_laid hL)).mono fun e W' ⟨he, hg⟩ => ?_
  subst he
  refine ⟨_, rfl, _, _, _, [], _, [], hW', trodAll_mk1 (shut_bool Tryd.underlying4 _), trodAll_below hg (fun t ht => ?_) hAll hlt, rfl, hg.frame _, fun h => by cases h⟩
  rw [Tryd.params6] at ht
  simp only [List.mem_cons, List.not_mem_nil, or_false] at ht
  rcases ht with rfl
  · exact read_string

set_option maxRecDepth 100000 in
theorem reads (os : Os) {H : Type} (enc : TypeId × Value → H) : ∃ places, DataW.whole enc Tryd.prog ((World.laidAll Tryd.prog os laidNames).forCall (fun _ _ => 0) ⟨#[], #[Value.string ByteArray.empty], []⟩).memory Tryd.f6.params.toList Rows.lexRoundTripSpec.vars false #[Value.string ByteArray.empty].toList 8 = some ([.lit (.string [])], [], places) :=
  ⟨[], by kernel_rfl⟩

set_option maxRecDepth 100000 in
theorem lifted (os : Os) (started : os.Started) (H : Type) (enc : TypeId × Value → H) (F : Stop.Interp) :
    ReturnsInHanded {} Tryd.checked os 6 .any ((OpenSpec.ofChange Rows.lexRoundTripSpec).preRow enc Tryd.prog Tryd.f6 Rows.lexRoundTripRow.domain false Rows.lexRoundTripRow.laid) (((OpenSpec.ofChange Rows.lexRoundTripSpec).at F).post enc Tryd.prog Tryd.f6 false true false false) := by
  obtain ⟨places, hx⟩ := reads os enc
  refine returnsInHanded_of_row (C := Tryd.checked) (s := OpenSpec.ofChange Rows.lexRoundTripSpec) own started (by kernel_rfl) Tryd.func6
    (witness_row_at (enc := enc) (C := Tryd.checked) false (World.laidAll Tryd.prog os laidNames) #[Value.string ByteArray.empty] rfl (by kernel_rfl) (by kernel_rfl) (by kernel_rfl)
      (OpenSpec.preRow_of_cond 8 hx (by kernel_rfl) (fun k hk => by cases hk) (by kernel_rfl) (laid_met os _))) ?_
  intro W base args ds gs before hval hW _ _ _ hL hSh _
  exact contract H enc W base args ds gs before hval hW hL hSh

theorem said : Rows.LexRoundTripSaid :=
  OpenClaim.holds_of_cond 6 Tryd.f6 rfl rfl rfl rfl rfl rfl rfl ⟨rfl, rfl, rfl, rfl, rfl⟩ rfl rfl rfl rfl rfl (by kernel_rfl) Tryd.func6 (by kernel_rfl)
    (of_decide_eq_true (by kernel_rfl)) (by unfold Func.isWrapper; first | (rw [if_pos (by decide +kernel)]; kernel_rfl) | (rw [if_neg (by decide +kernel)]; exact ⟨rfl, rfl⟩))
    (fun os started H enc _ F => by rw [OpenClaim.pre_eq_preRow]; exact lifted os started H enc F)

theorem plain (f : FuncId) (fn : Func) (hf : Tryd.pinned.checked.prog.funcNamed "liquidcheck/liquidchecklaw05.LexRoundTrip" = some f) (hfn : Tryd.pinned.checked.prog.funcs[f]? = some fn) :
    false = Tryd.pinned.checked.prog.looks [] ∧ ∀ (j : Nat) t, fn.params[j]? = some t → Tryd.pinned.checked.prog.wantsStandIn t = false := by
  obtain rfl : f = 6 := Option.some.inj ((show Tryd.prog.funcNamed "liquidcheck/liquidchecklaw05.LexRoundTrip" = some 6 by kernel_rfl).symm.trans hf) |>.symm
  obtain rfl : fn = Tryd.f6 := (Option.some.inj (Tryd.func6.symm.trans hfn)).symm
  refine ⟨by kernel_rfl, fun j t ht => ?_⟩
  rw [Tryd.params6] at ht
  have hm := Array.mem_of_getElem? ht
  simp only [List.mem_toArray, List.mem_cons, List.not_mem_nil, or_false] at hm
  rcases hm with rfl
  · exact (show Tryd.prog.wantsStandIn 9 = false by kernel_rfl)

theorem card : Rows.LexRoundTripCardSaid :=
  Claim7.holds_tied_plain_at .later [] _ _ _ _ said (fun _ h => by cases h) (by kernel_rfl) (fun _ h => by cases h) lexRoundTrip_row_tie rfl ⟨rfl, rfl⟩ (by kernel_rfl) rfl plain (by kernel_rfl)
end Go.Proofs.YtblakndpionmgaaDoor.lexRoundTrip
