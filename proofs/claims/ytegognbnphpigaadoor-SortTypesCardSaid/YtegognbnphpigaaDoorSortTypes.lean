/-
  THE STATEMENT SortTypes IS PROVED: for every type (the listed tables holding what the program's text lays, tied by the card), the law returns true and its argument reads as before.
-/
import Derived.Test.YtegognbnphpigaaDoorCards
import Derived.Test.YtegognbnphpigaaDoorTie
import Derived.Test.YtegognbnphpigaaDoorSoLaid
namespace Go.Proofs.YtegognbnphpigaaDoor.sortTypes
open Go.ChangeShapes Go.WideShapes Go.ChangeAt Go.RowKit
open Go.ChangeMaps (open_string shut_string)

theorem bool_self (b : Bool) : (b == b) = true := by cases b <;> rfl
set_option maxRecDepth 100000 in
set_option maxHeartbeats 4000000 in
theorem walk (op : Int) (nm : ByteArray) (A : Option Addr) (n c : Nat) (A3 : Option Addr) (n3 c3 : Nat) (o4 : Int) (s5 : ByteArray) (i6 : Int) (A7 : Option Addr) (n7 c7 : Nat) (A8 : Option Addr) (n8 c8 : Nat) (w : World) (henv : Env w) : Calls Tryd.prog 6 #[.agg #[.int .i64 op, .string nm, .slice A n c, .slice A3 n3 c3, .int .i64 o4, .string s5, .int .i64 i6, .slice A7 n7 c7, .slice A8 n8 c8]] w fun e w' => e = .returned (.bool true) ∧ Below w.heap.size w w' := by
  have K0 := Lib.hid (Bk.new 58 w #[.int .i64 op, .string nm, .slice A n c, .slice A3 n3 c3, .int .i64 o4, .string s5, .int .i64 i6, .slice A7 n7 c7, .slice A8 n8 c8])
  have HB0 : Hid (Below w.heap.size w (w.alloc (.cells #[.int .i64 op, .string nm, .slice A n c, .slice A3 n3 c3, .int .i64 o4, .string s5, .int .i64 i6, .slice A7 n7 c7, .slice A8 n8 c8] 58))) := below_alloc _
  have HE := Lib.hid henv
  obtain ⟨z, hz⟩ : ∃ z, ofS op nm n = z := ⟨_, rfl⟩
  obtain ⟨b, hb⟩ : ∃ b, ofB op n = b := ⟨_, rfl⟩
  have HR : Hid (ofR op nm n = .tuple #[.string z, .bool b]) := by show ofR op nm n = _; unfold ofR; rw [hz, hb]
  have C1 := of_any op nm A n c A3 n3 c3 o4 s5 i6 A7 n7 c7 A8 n8 c8 (w.alloc (.cells #[.int .i64 op, .string nm, .slice A n c, .slice A3 n3 c3, .int .i64 o4, .string s5, .int .i64 i6, .slice A7 n7 c7, .slice A8 n8 c8] 58))
  have C2 := fun W => rof_any op nm A n c A3 n3 c3 o4 s5 i6 A7 n7 c7 A8 n8 c8 W
  rw [HR.out] at C1 C2
  have t1 := txt_self z
  have t2 := bool_self b
  clear henv hz hb
  by_cases h3 : nm.size ≤ 300
  · have q3 : ¬ (300 : Int) < (nm.size : Int) := by omega
    go_enter Tryd.func6, Tryd.ntmps6
    go_wp2_with fail
    (refine C1.mono ?_); rintro e w1 ⟨rfl, hb⟩
    have HB1 := Lib.hid (nbelow_on HB0.out hb)
    have K1 := K0.out.below hb
    have c0_ := K1.c 0 (v := .int .i64 op) rfl
    have c1_ := K1.c 1 (v := .string nm) rfl
    have c2_ := K1.c 2 (v := .slice A n c) rfl
    have c3_ := K1.c 3 (v := .slice A3 n3 c3) rfl
    have c4_ := K1.c 4 (v := .int .i64 o4) rfl
    have c5_ := K1.c 5 (v := .string s5) rfl
    have c6_ := K1.c 6 (v := .int .i64 i6) rfl
    have c7_ := K1.c 7 (v := .slice A7 n7 c7) rfl
    have c8_ := K1.c 8 (v := .slice A8 n8 c8) rfl
    clear hb C1 K1
    go_wp2_with fail
    (refine (C2 w1).mono ?_); rintro e w2 ⟨rfl, hb⟩
    have HB2 := Lib.hid (nbelow_on HB1.out hb)
    clear hb C2 c0_ c1_ c2_ c3_ c4_ c5_ c6_ c7_ c8_
    go_wp2_with fail
    (refine (awake_any w2 (HE.out.below HB2.out)).mono ?_); rintro e w3 ⟨rfl, hb⟩
    have HB3 := Lib.hid (nbelow_on HB2.out hb)
    clear hb
    go_wp2_with fail
    go_ret
    exact ⟨rfl, HB3.out⟩
  · have q3 : (300 : Int) < (nm.size : Int) := by omega
    clear C1 C2
    go_enter Tryd.func6, Tryd.ntmps6
    go_wp2_with fail
    (refine (awake_any _ (HE.out.below HB0.out)).mono ?_); rintro e w3 ⟨rfl, hb⟩
    have HB3 := Lib.hid (nbelow_on HB0.out hb)
    clear hb
    go_wp2_with fail
    go_ret
    exact ⟨rfl, HB3.out⟩

set_option maxRecDepth 100000 in
theorem contract (H : Type) (enc : TypeId × Value → H) (W : World) (base : Nat) (args : Array Value) (ds gs : List (DataW H)) (before : List MemPlace)
    (hval : ∀ (j : Nat) t v, Tryd.f6.params[j]? = some t → args[j]? = some v → Value.okWide Tryd.prog W .any base t v)
    (hW : DataW.Whole enc Tryd.prog Tryd.f6.params.toList Rows.sortTypesSpec.vars false W args.toList ds gs before) (hL : laidMetH Tryd.prog Rows.sortTypesRow.laid W) (hSh : W.ShapedOpen Tryd.prog) :
    Calls Tryd.prog 6 args W fun e W' => ∃ v, e = .returned v ∧ Rows.sortTypesSpec.post enc Tryd.prog Tryd.f6 false true false false W args v W' := by
  have hW' := hW
  obtain ⟨p, q, hA0, hV, rfl, hfz, hnd⟩ := hW
  have hA : DataW.TrodAll enc Tryd.prog W 0 (fun _ => true) true Tryd.f6.params.toList args.toList ds p := hA0
  have hlt : ∀ x ∈ p, x.block < W.heap.size := fun x hx => hW'.lt x (by simp [hx])
  have hAll := hA
  rw [Tryd.params6] at hA hval
  obtain ⟨v0, vs0, d0, ds0, p0, q0, hargs, rfl, rfl, h0, r0⟩ := trodAll_cons hA
  obtain ⟨rfl, rfl, rfl⟩ := trodAll_nil r0
  obtain rfl : args = #[v0] := by cases args; simp_all
  obtain ⟨rfl, rfl⟩ := trodVars_none hV
  obtain ⟨op, nm, A, n, c, A3, n3, c3, o4, s5, i6, A7, n7, c7, A8, n8, c8, rfl⟩ := open_type (hval 0 58 v0 rfl rfl) h0
  refine (walk op nm A n c A3 n3 c3 o4 s5 i6 A7 n7 c7 A8 n8 c8 W (env_of_laid hL hSh)).mono fun e W' ⟨he, hg⟩ => ?_
  subst he
  refine ⟨_, rfl, _, _, _, [], _, [], hW', trodAll_mk1 (shut_bool Tryd.underlying4 _), trodAll_below hg (fun t ht => ?_) hAll hlt, rfl, hg.frame _, fun h => by cases h⟩
  rw [Tryd.params6] at ht
  simp only [List.mem_cons, List.not_mem_nil, or_false] at ht
  rcases ht with rfl
  · exact read_type

set_option maxRecDepth 100000 in
theorem reads (os : Os) {H : Type} (enc : TypeId × Value → H) : ∃ places, DataW.whole enc Tryd.prog ((World.laidAll Tryd.prog os laidNames).forCall (fun _ _ => 0) ⟨#[], #[Value.agg #[.int .i64 0, .string ByteArray.empty, .slice none 0 0, .slice none 0 0, .int .i64 0, .string ByteArray.empty, .int .i64 0, .slice none 0 0, .slice none 0 0]], []⟩).memory Tryd.f6.params.toList Rows.sortTypesSpec.vars false #[Value.agg #[.int .i64 0, .string ByteArray.empty, .slice none 0 0, .slice none 0 0, .int .i64 0, .string ByteArray.empty, .int .i64 0, .slice none 0 0, .slice none 0 0]].toList 8 = some ([.agg [.lit (.int .i64 0), .lit (.string []), .nil, .nil, .agg [.lit (.int .i64 0), .lit (.string []), .lit (.int .i64 0), .nil], .nil]], [], places) :=
  ⟨[], by kernel_rfl⟩

set_option maxRecDepth 100000 in
theorem lifted (os : Os) (started : os.Started) (H : Type) (enc : TypeId × Value → H) (F : Stop.Interp) :
    ReturnsInHanded {} Tryd.checked os 6 .any ((OpenSpec.ofChange Rows.sortTypesSpec).preRow enc Tryd.prog Tryd.f6 Rows.sortTypesRow.domain false Rows.sortTypesRow.laid) (((OpenSpec.ofChange Rows.sortTypesSpec).at F).post enc Tryd.prog Tryd.f6 false true false false) := by
  obtain ⟨places, hx⟩ := reads os enc
  refine returnsInHanded_of_row (C := Tryd.checked) (s := OpenSpec.ofChange Rows.sortTypesSpec) own started (by kernel_rfl) Tryd.func6
    (witness_row_at (enc := enc) (C := Tryd.checked) false (World.laidAll Tryd.prog os laidNames) #[Value.agg #[.int .i64 0, .string ByteArray.empty, .slice none 0 0, .slice none 0 0, .int .i64 0, .string ByteArray.empty, .int .i64 0, .slice none 0 0, .slice none 0 0]] rfl (by kernel_rfl) (by kernel_rfl) (by kernel_rfl)
      (OpenSpec.preRow_of_cond 8 hx (by kernel_rfl) (fun k hk => by cases hk) (by kernel_rfl) (laid_met os _))) ?_
  intro W base args ds gs before hval hW _ _ _ hL hSh _
  exact contract H enc W base args ds gs before hval hW hL hSh

theorem said : Rows.SortTypesSaid :=
  OpenClaim.holds_of_cond 6 Tryd.f6 rfl rfl rfl rfl rfl rfl rfl ⟨rfl, rfl, rfl, rfl, rfl⟩ rfl rfl rfl rfl rfl (by kernel_rfl) Tryd.func6 (by kernel_rfl)
    (of_decide_eq_true (by kernel_rfl)) (by unfold Func.isWrapper; first | (rw [if_pos (by decide +kernel)]; kernel_rfl) | (rw [if_neg (by decide +kernel)]; exact ⟨rfl, rfl⟩))
    (fun os started H enc _ F => by rw [OpenClaim.pre_eq_preRow]; exact lifted os started H enc F)

theorem plain (f : FuncId) (fn : Func) (hf : Tryd.pinned.checked.prog.funcNamed "liquidcheck/liquidchecklaw06.SortTypes" = some f) (hfn : Tryd.pinned.checked.prog.funcs[f]? = some fn) :
    false = Tryd.pinned.checked.prog.looks [] ∧ ∀ (j : Nat) t, fn.params[j]? = some t → Tryd.pinned.checked.prog.wantsStandIn t = false := by
  obtain rfl : f = 6 := Option.some.inj ((show Tryd.prog.funcNamed "liquidcheck/liquidchecklaw06.SortTypes" = some 6 by kernel_rfl).symm.trans hf) |>.symm
  obtain rfl : fn = Tryd.f6 := (Option.some.inj (Tryd.func6.symm.trans hfn)).symm
  refine ⟨by kernel_rfl, fun j t ht => ?_⟩
  rw [Tryd.params6] at ht
  have hm := Array.mem_of_getElem? ht
  simp only [List.mem_toArray, List.mem_cons, List.not_mem_nil, or_false] at hm
  rcases hm with rfl
  · exact (show Tryd.prog.wantsStandIn 58 = false by kernel_rfl)

theorem card : Rows.SortTypesCardSaid :=
  Claim7.holds_tied_plain_at .later [] _ _ _ _ said (fun _ h => by cases h) (by kernel_rfl) (fun _ h => by cases h) sortTypes_row_tie rfl ⟨rfl, rfl⟩ (by kernel_rfl) rfl plain (by kernel_rfl)
end Go.Proofs.YtegognbnphpigaaDoor.sortTypes
