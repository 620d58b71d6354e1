/-
  THE STATEMENT NamesKinds IS PROVED: for every text (the listed tables holding what the program's text lays, tied by the card), the law returns true and its argument reads as before.
-/
import Derived.Test.YtblakndpionmgaaDoorCards
import Derived.Test.YtblakndpionmgaaDoorTie
import Derived.Test.YtblakndpionmgaaDoorNmLaid
import Derived.Test.YtblakndpionmgaaDoorNmKC
namespace Go.Proofs.YtblakndpionmgaaDoor.namesKinds
open Go.ChangeShapes Go.WideShapes Go.ChangeAt Go.RowKit
open Go.ChangeMaps (open_string shut_string)

set_option maxRecDepth 100000 in
set_option maxHeartbeats 8000000 in
theorem walk (s : ByteArray) (w : World) (henv : Env w) (htab : Tabx w) : Calls Tryd.prog 3 #[.string s] w fun e w' => e = .returned (.bool true) ∧ Below w.heap.size w w' := by
  have HE := Lib.hid henv
  have HT := Lib.hid htab
  clear henv htab
  by_cases h4 : s.size ≤ 10000
  · have q4 : ¬ (10000 : Int) < (s.size : Int) := by omega
    have C1 := keyword_any s w HE.out.nt
    have C2 := fun W => rkeyword_any s W
    generalize kwB s.data.toList = b1 at C1 C2
    have bb1 : (b1 == b1) = true := beq_self_eq_true b1
    have C3 := fun W (h : Env W) => check_any s W h.nt
    have C4 := fun W => rcheck_any s W
    generalize errI (nameB s.data.toList) = z2 at C3 C4
    have bb2 : (z2 == z2) = true := beq_self_eq_true z2
    have C5 := fun W (h : Env W) => title_any s W h.nt
    have C6 := fun W => rtitle_any s W
    generalize errI (titleB s.data.toList) = z3 at C5 C6
    have bb3 : (z3 == z3) = true := beq_self_eq_true z3
    have C7 := fun W (h : Env W) => core_any s W h
    have C8 := fun W => rcore_any s W
    generalize errI (coreB s.data.toList) = z4 at C7 C8
    have bb4 : (z4 == z4) = true := beq_self_eq_true z4
    go_enter Tryd.func3, Tryd.ntmps3
    go_wp2_with fail
    ((with_reducible refine (C1).mono ?_); rintro e wx ⟨rfl, rfl⟩)
    go_wp2_with fail
    (refine (C2 _).mono ?_); rintro e w1 ⟨rfl, hb⟩
    have HB1 := Lib.hid (hb)
    clear hb
    go_wp2_with fail
    ((with_reducible refine (C3 w1 (HE.out.below HB1.out)).mono ?_); rintro e wx ⟨rfl, rfl⟩)
    go_wp2_with fail
    (refine (C4 _).mono ?_); rintro e w2 ⟨rfl, hb⟩
    have HB2 := Lib.hid (nbelow_on HB1.out hb)
    clear hb
    go_wp2_with fail
    ((with_reducible refine (C5 w2 (HE.out.below HB2.out)).mono ?_); rintro e wx ⟨rfl, rfl⟩)
    go_wp2_with fail
    ((with_reducible refine (C6 _).mono ?_); rintro e wx ⟨rfl, rfl⟩)
    go_wp2_with fail
    (refine (C7 w2 (HE.out.below HB2.out)).mono ?_); rintro e w3 ⟨rfl, hb⟩
    have HB3 := Lib.hid (nbelow_on HB2.out hb)
    clear hb
    go_wp2_with fail
    (refine (C8 _).mono ?_); rintro e w4 ⟨rfl, hb⟩
    have HB4 := Lib.hid (nbelow_on HB3.out hb)
    clear hb
    go_wp2_with fail
    (refine (alive_any w4 (HE.out.below HB4.out) (tabx_on HT.out HB4.out)).mono ?_); rintro e w9 ⟨rfl, hb⟩
    have HB9 := Lib.hid (nbelow_on HB4.out hb)
    clear hb
    go_wp2_with fail
    go_ret
    exact ⟨rfl, HB9.out⟩
  · have q4 : (10000 : Int) < (s.size : Int) := by omega
    go_enter Tryd.func3, Tryd.ntmps3
    go_wp2_with fail
    (refine (alive_any w HE.out HT.out).mono ?_); rintro e w9 ⟨rfl, hb⟩
    have HB9 := Lib.hid (hb)
    clear hb
    go_wp2_with fail
    go_ret
    exact ⟨rfl, HB9.out⟩

set_option maxRecDepth 100000 in
theorem contract (H : Type) (enc : TypeId × Value → H) (W : World) (base : Nat) (args : Array Value) (ds gs : List (DataW H)) (before : List MemPlace)
    (hval : ∀ (j : Nat) t v, Tryd.f3.params[j]? = some t → args[j]? = some v → Value.okWide Tryd.prog W .any base t v)
    (hW : DataW.Whole enc Tryd.prog Tryd.f3.params.toList Rows.namesKindsSpec.vars false W args.toList ds gs before) (hL : laidMetH Tryd.prog Rows.namesKindsRow.laid W) (hSh : W.ShapedOpen Tryd.prog) :
    Calls Tryd.prog 3 args W fun e W' => ∃ v, e = .returned v ∧ Rows.namesKindsSpec.post enc Tryd.prog Tryd.f3 false true false false W args v W' := by
  have hW' := hW
  obtain ⟨p, q, hA0, hV, rfl, hfz, hnd⟩ := hW
  have hA : DataW.TrodAll enc Tryd.prog W 0 (fun _ => true) true Tryd.f3.params.toList args.toList ds p := hA0
  have hlt : ∀ x ∈ p, x.block < W.heap.size := fun x hx => hW'.lt x (by simp [hx])
  have hAll := hA
  rw [Tryd.params3] at hA hval
  obtain ⟨v0, vs0, d0, ds0, p0, q0, hargs, rfl, rfl, h0, r0⟩ := trodAll_cons hA
  obtain ⟨rfl, rfl, rfl⟩ := trodAll_nil r0
  obtain rfl : args = #[v0] := by cases args; simp_all
  obtain ⟨rfl, rfl⟩ := trodVars_none hV
  obtain ⟨t1, rfl, _, _, g1⟩ := open_string Tryd.underlying9 (hval 0 9 v0 rfl rfl) h0
  refine (walk t1 W (env_of_laid hL hSh) (tabx_of_laid hL)).mono fun e W' ⟨he, hg⟩ => ?_
  subst he
  refine ⟨_, rfl, _, _, _, [], _, [], hW', trodAll_mk1 (shut_bool Tryd.underlying4 _), trodAll_below hg (fun t ht => ?_) hAll hlt, rfl, hg.frame _, fun h => by cases h⟩
  rw [Tryd.params3] at ht
  simp only [List.mem_cons, List.not_mem_nil, or_false] at ht
  rcases ht with rfl
  · exact read_string

set_option maxRecDepth 100000 in
theorem reads (os : Os) {H : Type} (enc : TypeId × Value → H) : ∃ places, DataW.whole enc Tryd.prog ((World.laidAll Tryd.prog os laidNames).forCall (fun _ _ => 0) ⟨#[], #[Value.string ByteArray.empty], []⟩).memory Tryd.f3.params.toList Rows.namesKindsSpec.vars false #[Value.string ByteArray.empty].toList 8 = some ([.lit (.string [])], [], places) :=
  ⟨[], by kernel_rfl⟩

set_option maxRecDepth 100000 in
theorem lifted (os : Os) (started : os.Started) (H : Type) (enc : TypeId × Value → H) (F : Stop.Interp) :
    ReturnsInHanded {} Tryd.checked os 3 .any ((OpenSpec.ofChange Rows.namesKindsSpec).preRow enc Tryd.prog Tryd.f3 Rows.namesKindsRow.domain false Rows.namesKindsRow.laid) (((OpenSpec.ofChange Rows.namesKindsSpec).at F).post enc Tryd.prog Tryd.f3 false true false false) := by
  obtain ⟨places, hx⟩ := reads os enc
  refine returnsInHanded_of_row (C := Tryd.checked) (s := OpenSpec.ofChange Rows.namesKindsSpec) own started (by kernel_rfl) Tryd.func3
    (witness_row_at (enc := enc) (C := Tryd.checked) false (World.laidAll Tryd.prog os laidNames) #[Value.string ByteArray.empty] rfl (by kernel_rfl) (by kernel_rfl) (by kernel_rfl)
      (OpenSpec.preRow_of_cond 8 hx (by kernel_rfl) (fun k hk => by cases hk) (by kernel_rfl) (laid_met os _))) ?_
  intro W base args ds gs before hval hW _ _ _ hL hSh _
  exact contract H enc W base args ds gs before hval hW hL hSh

theorem said : Rows.NamesKindsSaid :=
  OpenClaim.holds_of_cond 3 Tryd.f3 rfl rfl rfl rfl rfl rfl rfl ⟨rfl, rfl, rfl, rfl, rfl⟩ rfl rfl rfl rfl rfl (by kernel_rfl) Tryd.func3 (by kernel_rfl)
    (of_decide_eq_true (by kernel_rfl)) (by unfold Func.isWrapper; first | (rw [if_pos (by decide +kernel)]; kernel_rfl) | (rw [if_neg (by decide +kernel)]; exact ⟨rfl, rfl⟩))
    (fun os started H enc _ F => by rw [OpenClaim.pre_eq_preRow]; exact lifted os started H enc F)

theorem plain (f : FuncId) (fn : Func) (hf : Tryd.pinned.checked.prog.funcNamed "liquidcheck/liquidchecklaw04.NamesKinds" = some f) (hfn : Tryd.pinned.checked.prog.funcs[f]? = some fn) :
    false = Tryd.pinned.checked.prog.looks [] ∧ ∀ (j : Nat) t, fn.params[j]? = some t → Tryd.pinned.checked.prog.wantsStandIn t = false := by
  obtain rfl : f = 3 := Option.some.inj ((show Tryd.prog.funcNamed "liquidcheck/liquidchecklaw04.NamesKinds" = some 3 by kernel_rfl).symm.trans hf) |>.symm
  obtain rfl : fn = Tryd.f3 := (Option.some.inj (Tryd.func3.symm.trans hfn)).symm
  refine ⟨by kernel_rfl, fun j t ht => ?_⟩
  rw [Tryd.params3] at ht
  have hm := Array.mem_of_getElem? ht
  simp only [List.mem_toArray, List.mem_cons, List.not_mem_nil, or_false] at hm
  rcases hm with rfl
  · exact (show Tryd.prog.wantsStandIn 9 = false by kernel_rfl)

theorem card : Rows.NamesKindsCardSaid :=
  Claim7.holds_tied_plain_at .later [] _ _ _ _ said (fun _ h => by cases h) (by kernel_rfl) (fun _ h => by cases h) namesKinds_row_tie rfl ⟨rfl, rfl⟩ (by kernel_rfl) rfl plain (by kernel_rfl)
end Go.Proofs.YtblakndpionmgaaDoor.namesKinds
