/-
  THE STATEMENT BigMakes IS PROVED: for every int and every number (the listed library tables holding what the program's text lays, tied by the card), the law returns true and its arguments read as before.
-/
import Derived.Test.YtfkfbomllkpjjaaDoorCards
import Derived.Test.YtfkfbomllkpjjaaDoorTie
import Derived.Test.YtfkfbomllkpjjaaDoorBigLaid
import Derived.Test.YtfkfbomllkpjjaaDoorBigS2
import Derived.Test.YtfkfbomllkpjjaaDoorBigR6
namespace Go.Proofs.YtfkfbomllkpjjaaDoor.bigMakes
open Go.ChangeShapes Go.WideShapes Go.ChangeAt Go.RowKit
open Go.ChangeMaps (open_string shut_string)


set_option maxRecDepth 100000 in
set_option maxHeartbeats 8000000 in
theorem walk (a1 : Int) (s2 : Bool) (A2 : Option Addr) (n2 c2 : Nat) (x2 : List Int) (w : World) (hlo : -9223372036854775808 ≤ a1) (hhi : a1 ≤ 9223372036854775807) (h2 : Sl w A2 n2 c2 x2) (htab : Tab w) :
    Calls Tryd.prog 3 #[.int .i64 a1, .agg #[.bool s2, .slice A2 n2 c2]] w fun e w' => e = .returned (.bool true) ∧ Below w.heap.size w w' := by
  have TB := Lib.hid htab
  have BW := Lib.hid (Below.refl w.heap.size w)
  have S2 := Lib.hid h2
  have LO := Lib.hid hlo
  have HI := Lib.hid hhi
  clear htab h2 hlo hhi
  go_enter Tryd.func3, Tryd.ntmps3
  go_upto_region 1 with fail
  have S2 := Lib.hid (S2.out.alloc (.cells #[.bool s2, .slice A2 n2 c2] 24))
  have X2 := Lib.hid (Bx.new w (.bool s2) (.slice A2 n2 c2))
  have TB : Hid (Tab (w.alloc (.cells #[.bool s2, .slice A2 n2 c2] 24))) := tab_on TB.out ((Below.refl _ _).alloc (Nat.le_refl _) _)
  have BW := Lib.hid (BW.out.alloc BW.out.size (.cells #[.bool s2, .slice A2 n2 c2] 24))
  generalize hWW : (w.alloc (.cells #[.bool s2, .slice A2 n2 c2] 24)) = W0 at *
  clear hWW
  by_cases g2 : 300 < n2
  · have b2 : decide ((300 : Int) < (n2 : Int)) = true := decide_eq_true (by omega)
    have e0 := X2.out.c0
    have e1 := X2.out.c1
    go_wp2_with fail
    (refine (long_any s2 A2 n2 c2 300 _).mono ?_; rintro e v2 ⟨rfl, hb⟩)
    rw [b2]
    clear e0 e1
    have S2 := Lib.hid (S2.out.below hb)
    have X2 := Lib.hid (X2.out.below hb)
    have TB := Lib.hid (tab_on TB.out hb)
    have BW := Lib.hid (below_on BW.out hb)
    clear hb
    go_wp2_with fail
    (refine (awake_any _ TB.out).mono ?_; rintro e vv ⟨rfl, hb⟩)
    have S2 := Lib.hid (S2.out.below hb)
    have X2 := Lib.hid (X2.out.below hb)
    have TB := Lib.hid (tab_on TB.out hb)
    have BW := Lib.hid (below_on BW.out hb)
    clear hb
    go_wp2_with fail
    go_ret
    exact ⟨rfl, BW.out⟩
  have b2 : decide ((300 : Int) < (n2 : Int)) = false := decide_eq_false (by omega)
  have e0 := X2.out.c0
  have e1 := X2.out.c1
  go_wp2_with fail
  (refine (long_any s2 A2 n2 c2 300 _).mono ?_; rintro e v2 ⟨rfl, hb⟩)
  rw [b2]
  clear e0 e1
  have S2 := Lib.hid (S2.out.below hb)
  have X2 := Lib.hid (X2.out.below hb)
  have TB := Lib.hid (tab_on TB.out hb)
  have BW := Lib.hid (below_on BW.out hb)
  clear hb
  have e0 := X2.out.c0
  have e1 := X2.out.c1
  go_wp2_with fail
  (refine (int_big s2 A2 n2 c2 x2 _ S2.out).mono ?_; rintro e u1 ⟨rfl, hb⟩)
  clear e0 e1
  have S2 := Lib.hid (S2.out.below hb)
  have X2 := Lib.hid (X2.out.below hb)
  have TB := Lib.hid (tab_on TB.out hb)
  have BW := Lib.hid (below_on BW.out hb)
  clear hb
  have e0 := X2.out.c0
  have e1 := X2.out.c1
  go_wp2_with fail
  (refine (rint_any s2 A2 n2 c2 x2 _ S2.out).mono ?_; rintro e u2 ⟨rfl, hb⟩)
  clear e0 e1
  have S2 := Lib.hid (S2.out.below hb)
  have X2 := Lib.hid (X2.out.below hb)
  have TB := Lib.hid (tab_on TB.out hb)
  have BW := Lib.hid (below_on BW.out hb)
  clear hb
  generalize intV (zOf s2 x2) = vi at *
  generalize inB (zOf s2 x2) = vo at *
  go_wp2_with fail
  have e0 := X2.out.c0
  have e1 := X2.out.c1
  go_region_held3 (fun w' => w'.cell? ⟨w.heap.size, 0, none⟩ = some (.bool s2) ∧ w'.cell? ⟨w.heap.size, 1, none⟩ = some (.slice A2 n2 c2)) (go_keep)
    (first | (go_at_call 16; (with_reducible refine (of_any a1 _ LO.out HI.out).mono ?_); rintro e a1_ ⟨T3, k3, r3, rfl, hs, hb⟩; have R3 := Lib.hid hs; have BB1 := Lib.hid (show Below u2.heap.size u2 a1_ from (by first | exact hb | exact (Below.refl _ _).drew.trans (hb.mono (Nat.le_refl _)))); have f0 := (X2.out.below BB1.out).c0; have f1 := (X2.out.below BB1.out).c1; clear hs hb) | (go_at_call 17; (with_reducible refine (rof_any a1 _ LO.out HI.out).mono ?_); rintro e a2_ ⟨T4, k4, r4, rfl, hs, hb⟩; have R4 := Lib.hid hs; have R3 := Lib.hid (R3.out.below hb); have BB2 := Lib.hid (below_up BB1.out hb); have f0 := (X2.out.below BB2.out).c0; have f1 := (X2.out.below BB2.out).c1; clear hs hb) | (go_at_call 15; (with_reducible refine (same_ok _ _ _ _ _ _ _ _ _ _ _ R3.out R4.out rfl rfl).mono ?_); rintro e a3_ ⟨rfl, hb⟩; have BB3 := Lib.hid (below_up BB2.out hb); have f0 := (X2.out.below BB3.out).c0; have f1 := (X2.out.below BB3.out).c1; clear hb) | (go_at_call 18; (with_reducible refine (valid_any s2 A2 n2 c2 x2 _ (S2.out.below BB3.out)).mono ?_); rintro e a4_ ⟨rfl, hb⟩; have BB4 := Lib.hid (below_up BB3.out hb); have f0 := (X2.out.below BB4.out).c0; have f1 := (X2.out.below BB4.out).c1; clear hb) | (go_at_call 19; (with_reducible refine (rvalid_any s2 A2 n2 c2 x2 _ (S2.out.below BB4.out)).mono ?_); rintro e a5_ ⟨rfl, hb⟩; have BB5 := Lib.hid (below_up BB4.out hb); have f0 := (X2.out.below BB5.out).c0; have f1 := (X2.out.below BB5.out).c1; clear hb) | (go_at_call 20; (with_reducible refine (neg_big s2 A2 n2 c2 x2 _ (S2.out.below BB5.out)).mono ?_); rintro e a6_ ⟨T5, k5, r5, rfl, hs, hb⟩; have R5 := Lib.hid hs; have BB6 := Lib.hid (below_up BB5.out hb); have f0 := (X2.out.below BB6.out).c0; have f1 := (X2.out.below BB6.out).c1; clear hs hb) | (go_at_call 21; (with_reducible refine (rneg_any s2 A2 n2 c2 x2 _ (S2.out.below BB6.out)).mono ?_); rintro e a7_ ⟨T6, k6, r6, rfl, hs, hb⟩; have R6 := Lib.hid hs; have R5 := Lib.hid (R5.out.below hb); have BB7 := Lib.hid (below_up BB6.out hb); have f0 := (X2.out.below BB7.out).c0; have f1 := (X2.out.below BB7.out).c1; clear hs hb) | (go_at_call 15; (with_reducible refine (same_ok _ _ _ _ _ _ _ _ _ _ _ R5.out R6.out rfl rfl).mono ?_); rintro e a8_ ⟨rfl, hb⟩; have BB8 := Lib.hid (below_up BB7.out hb); have f0 := (X2.out.below BB8.out).c0; have f1 := (X2.out.below BB8.out).c1; clear hb) | (go_at_call 12; (with_reducible refine (awake_any _ (tab_on TB.out BB8.out)).mono ?_); rintro e a9_ ⟨rfl, hb⟩; have BB9 := Lib.hid (below_up BB8.out hb); have f0 := (X2.out.below BB9.out).c0; have f1 := (X2.out.below BB9.out).c1; clear hb))
  all_goals
    go_wp2_with fail
    go_ret
    exact ⟨rfl, below_on BW.out BB9.out⟩

theorem contract (H : Type) (enc : TypeId × Value → H) (W : World) (base : Nat) (args : Array Value) (ds gs : List (DataW H)) (before : List MemPlace)
    (hval : ∀ (j : Nat) t v, Tryd.f3.params[j]? = some t → args[j]? = some v → Value.okWide Tryd.prog W .any base t v)
    (hW : DataW.Whole enc Tryd.prog Tryd.f3.params.toList Rows.bigMakesSpec.vars false W args.toList ds gs before) (hL : laidMetH Tryd.prog Rows.bigMakesRow.laid W) :
    Calls Tryd.prog 3 args W fun e W' => ∃ v, e = .returned v ∧ Rows.bigMakesSpec.post enc Tryd.prog Tryd.f3 false true false false W args v W' := by
  have hW' := hW
  obtain ⟨p, q, hA0, hV, rfl, hfz, hnd⟩ := hW
  have hA : DataW.TrodAll enc Tryd.prog W 0 (fun _ => true) true Tryd.f3.params.toList args.toList ds p := hA0
  have hlt : ∀ x ∈ p, x.block < W.heap.size := fun x hx => hW'.lt x (by simp [hx])
  have hAll := hA
  rw [Tryd.params3] at hA hval
  obtain ⟨v0, vs0, d0, ds0, p0, q0, hargs, rfl, rfl, h0, r0⟩ := trodAll_cons hA
  obtain ⟨v1, vs1, d1, ds1, p1, q1, rfl, rfl, rfl, h1, r1⟩ := trodAll_cons r0
  obtain ⟨rfl, rfl, rfl⟩ := trodAll_nil r1
  obtain rfl : args = #[v0, v1] := by cases args; simp_all
  obtain ⟨rfl, rfl⟩ := trodVars_none hV
  obtain ⟨a1, rfl, _, _, g1⟩ := open_int Tryd.underlying3 (hval 0 3 v0 rfl rfl) h0
  obtain ⟨s2, A2, n2, c2, x2, rfl, g2⟩ := open_big (hval 1 24 v1 rfl rfl) h1
  refine (walk a1 s2 A2 n2 c2 x2 W (bounds_i64 g1).1 (bounds_i64 g1).2 g2 (tab_of_laid hL)).mono fun e W' ⟨he, hg⟩ => ?_
  subst he
  refine ⟨_, rfl, _, _, _, [], _, [], hW', trodAll_mk1 (shut_bool Tryd.underlying4 _), trodAll_below hg (fun t ht => ?_) hAll hlt, rfl, hg.frame _, fun h => by cases h⟩
  rw [Tryd.params3] at ht
  simp only [List.mem_cons, List.not_mem_nil, or_false] at ht
  rcases ht with rfl | rfl
  · exact read_int
  · exact read_big

theorem reads (os : Os) {H : Type} (enc : TypeId × Value → H) : ∃ places, DataW.whole enc Tryd.prog ((World.doorLaid Tryd.prog 24 os).forCall (fun _ _ => 0) ⟨#[], #[Value.int .i64 0, Value.agg #[.bool false, .slice none 0 0]], []⟩).memory Tryd.f3.params.toList Rows.bigMakesSpec.vars false #[Value.int .i64 0, Value.agg #[.bool false, .slice none 0 0]].toList 8 = some ([.lit (.int .i64 0), .agg [.lit (.bool false), .nil]], [], places) :=
  ⟨[], by kernel_rfl⟩

set_option maxRecDepth 100000 in
theorem lifted (os : Os) (started : os.Started) (H : Type) (enc : TypeId × Value → H) (F : Stop.Interp) :
    ReturnsInHanded {} Tryd.checked os 3 .any ((OpenSpec.ofChange Rows.bigMakesSpec).preRow enc Tryd.prog Tryd.f3 Rows.bigMakesRow.domain false Rows.bigMakesRow.laid) (((OpenSpec.ofChange Rows.bigMakesSpec).at F).post enc Tryd.prog Tryd.f3 false true false false) := by
  obtain ⟨places, hx⟩ := reads os enc
  refine returnsInHanded_of_row (C := Tryd.checked) (s := OpenSpec.ofChange Rows.bigMakesSpec) own started (by kernel_rfl) Tryd.func3
    (witness_row_at (enc := enc) (C := Tryd.checked) false (World.doorLaid Tryd.prog 24 os) #[Value.int .i64 0, Value.agg #[.bool false, .slice none 0 0]] rfl (by kernel_rfl) (by kernel_rfl) (by kernel_rfl)
      (OpenSpec.preRow_of_cond 8 hx (by kernel_rfl) (fun k hk => by cases hk) (by kernel_rfl) (laid_met os _))) ?_
  intro W base args ds gs before hval hW _ _ _ hL _ _
  exact contract H enc W base args ds gs before hval hW hL

theorem said : Rows.BigMakesSaid :=
  OpenClaim.holds_of_cond 3 Tryd.f3 rfl rfl rfl rfl rfl rfl rfl ⟨rfl, rfl, rfl, rfl, rfl⟩ rfl rfl rfl rfl rfl (by kernel_rfl) Tryd.func3 (by kernel_rfl)
    (of_decide_eq_true (by kernel_rfl)) (by unfold Func.isWrapper; first | (rw [if_pos (by decide +kernel)]; kernel_rfl) | (rw [if_neg (by decide +kernel)]; exact ⟨rfl, rfl⟩))
    (fun os started H enc _ F => by rw [OpenClaim.pre_eq_preRow]; exact lifted os started H enc F)

theorem plain (f : FuncId) (fn : Func) (hf : Tryd.pinned.checked.prog.funcNamed "liquidcheck/liquidchecklaw02.BigMakes" = some f) (hfn : Tryd.pinned.checked.prog.funcs[f]? = some fn) :
    false = Tryd.pinned.checked.prog.looks [] ∧ ∀ (j : Nat) t, fn.params[j]? = some t → Tryd.pinned.checked.prog.wantsStandIn t = false := by
  obtain rfl : f = 3 := Option.some.inj ((show Tryd.prog.funcNamed "liquidcheck/liquidchecklaw02.BigMakes" = some 3 by kernel_rfl).symm.trans hf) |>.symm
  obtain rfl : fn = Tryd.f3 := (Option.some.inj (Tryd.func3.symm.trans hfn)).symm
  refine ⟨by kernel_rfl, fun j t ht => ?_⟩
  rw [Tryd.params3] at ht
  have hm := Array.mem_of_getElem? ht
  simp only [List.mem_toArray, List.mem_cons, List.not_mem_nil, or_false] at hm
  rcases hm with rfl | rfl
  · exact (show Tryd.prog.wantsStandIn 3 = false by kernel_rfl)
  · exact (show Tryd.prog.wantsStandIn 24 = false by kernel_rfl)

theorem card : Rows.BigMakesCardSaid :=
  Claim7.holds_tied_plain_at .later [] _ _ _ _ said (fun _ h => by cases h) (by kernel_rfl) (fun _ h => by cases h) bigMakes_row_tie rfl ⟨rfl, rfl⟩ (by kernel_rfl) rfl plain (by kernel_rfl)
end Go.Proofs.YtfkfbomllkpjjaaDoor.bigMakes
