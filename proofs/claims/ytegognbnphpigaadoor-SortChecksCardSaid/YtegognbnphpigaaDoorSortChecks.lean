/-
  THE STATEMENT SortChecks IS PROVED: for every sort and every symbol (the listed tables holding what the program's text lays, tied by the card), the law returns true and its arguments read as before.
-/
import Derived.Test.YtegognbnphpigaaDoorCards
import Derived.Test.YtegognbnphpigaaDoorTie
import Derived.Test.YtegognbnphpigaaDoorSoLaid
import Derived.Test.YtegognbnphpigaaDoorSoS
namespace Go.Proofs.YtegognbnphpigaaDoor.sortChecks
open Go.ChangeShapes Go.WideShapes Go.ChangeAt Go.RowKit
open Go.ChangeMaps (open_string shut_string)

theorem check_at (W X : World) (hX : Below W.heap.size W X) (henv : Env W) (s : ByteArray) {r : Int} (h : sortI s.data.toList = r) : Calls Tryd.prog 12 #[.string s] X fun e w' => e = .returned (.int .i64 r) ∧ Below W.heap.size W w' := by
  refine (check_any s X (henv.below hX)).mono ?_
  rintro e w' ⟨rfl, hb⟩
  exact ⟨by rw [h], nbelow_on hX hb⟩
theorem rcheck_at (W X : World) (hX : Below W.heap.size W X) (s : ByteArray) {r : Int} (h : sortI s.data.toList = r) : Calls Tryd.prog 13 #[.string s] X fun e w' => e = .returned (.int .i64 r) ∧ Below W.heap.size W w' := by
  refine (rscheck_any s X).mono ?_
  rintro e w' ⟨rfl, hb⟩
  exact ⟨by rw [h], nbelow_on hX hb⟩
theorem sym_at (W X : World) (hX : Below W.heap.size W X) (henv : Env W) (x z : ByteArray) (A : Option Addr) (n c : Nat) (ls : List Txt) (hs : Ss W A n c ls) {r : Int} (h : symI (⟨x.data.toList, ls, z.data.toList⟩ : Sy) = r) : Calls Tryd.prog 14 #[.agg #[.string x, .slice A n c, .string z]] X fun e w' => e = .returned (.int .i64 r) ∧ Below W.heap.size W w' := by
  refine (sym_any x z A n c ls X (henv.below hX) (hs.below hX)).mono ?_
  rintro e w' ⟨rfl, hb⟩
  exact ⟨by rw [h], nbelow_on hX hb⟩
theorem rsym_at (W X : World) (hX : Below W.heap.size W X) (x z : ByteArray) (A : Option Addr) (n c : Nat) (ls : List Txt) (hs : Ss W A n c ls) {r : Int} (h : symI (⟨x.data.toList, ls, z.data.toList⟩ : Sy) = r) : Calls Tryd.prog 15 #[.agg #[.string x, .slice A n c, .string z]] X fun e w' => e = .returned (.int .i64 r) ∧ Below W.heap.size W w' := by
  refine (rsym_any x z A n c ls X (hs.below hX)).mono ?_
  rintro e w' ⟨rfl, hb⟩
  exact ⟨by rw [h], nbelow_on hX hb⟩
theorem int_self (r : Int) : (r == r) = true := beq_self_eq_true _
set_option maxRecDepth 100000 in
set_option maxHeartbeats 8000000 in
theorem walk (s x z : ByteArray) (A : Option Addr) (n c : Nat) (ls : List Txt) (w : World) (henv : Env w) (hs : Ss w A n c ls) : Calls Tryd.prog 3 #[.string s, .agg #[.string x, .slice A n c, .string z]] w fun e w' => e = .returned (.bool true) ∧ Below w.heap.size w w' := by
  have HB0 : Hid (Below w.heap.size w w) := Below.refl _ _
  have HE0 := Lib.hid henv
  have HS_0 := Lib.hid hs
  clear henv hs
  have HB1 : Hid (Below w.heap.size w (w.alloc (.cells #[.string x, .slice A n c, .string z] 25))) := nbelow_on HB0.out (below_alloc _)
  have HE1 : Hid (Env (w.alloc (.cells #[.string x, .slice A n c, .string z] 25))) := HE0.out.below (below_alloc _)
  have HS_1 := Lib.hid (HS_0.out.below (below_alloc (w := w) (.cells #[.string x, .slice A n c, .string z] 25)))
  clear HS_0
  have K0_1 : Hid (Bk 25 (w.alloc (.cells #[.string x, .slice A n c, .string z] 25)) (w.heap.size) #[.string x, .slice A n c, .string z]) := Bk.at _ (by simp)
  by_cases h3 : s.size ≤ 300
  · skip
    have q3 : ¬ (300 : Int) < (s.size : Int) := by omega
    clear h3
    have CS := shortsym_any x z A n c ls (w.alloc (.cells #[.string x, .slice A n c, .string z] 25)) HS_1.out
    cases hl : shY (⟨x.data.toList, ls, z.data.toList⟩ : Sy) with
    | false =>
      have a0 := K0_1.out.c 0 (v := .string x) rfl
      have a1 := K0_1.out.c 1 (v := .slice A n c) rfl
      have a2 := K0_1.out.c 2 (v := .string z) rfl
      rw [hl] at CS
      clear hl
      go_enter Tryd.func3, Tryd.ntmps3
      go_wp2_with fail
      (refine (CS).mono ?_); rintro e w2 ⟨rfl, hb⟩
      have HB2 := Lib.hid (nbelow_on HB1.out hb)
      have HE2 := Lib.hid (HE1.out.below hb)
      have HS_2 := Lib.hid (HS_1.out.below hb)
      have K0_2 := Lib.hid (K0_1.out.below hb)
      clear hb HS_1 K0_1 CS a0 a1 a2
      go_wp2_with fail
      (refine (awake_any w2 HE2.out).mono ?_); rintro e w3 ⟨rfl, hb⟩
      have HB3 := Lib.hid (nbelow_on HB2.out hb)
      have HE3 := Lib.hid (HE2.out.below hb)
      have HS_3 := Lib.hid (HS_2.out.below hb)
      have K0_3 := Lib.hid (K0_2.out.below hb)
      clear hb HS_2 K0_2
      go_wp2_with fail
      go_ret
      exact ⟨rfl, HB3.out⟩
    | true =>
      obtain ⟨r1, hr1⟩ : ∃ r, sortI s.data.toList = r := ⟨_, rfl⟩
      obtain ⟨r2, hr2⟩ : ∃ r, symI (⟨x.data.toList, ls, z.data.toList⟩ : Sy) = r := ⟨_, rfl⟩
      have HR1 := Lib.hid hr1
      have HR2 := Lib.hid hr2
      clear hr1 hr2
      have z1 := int_self r1
      have z2 := int_self r2
      have a0 := K0_1.out.c 0 (v := .string x) rfl
      have a1 := K0_1.out.c 1 (v := .slice A n c) rfl
      have a2 := K0_1.out.c 2 (v := .string z) rfl
      rw [hl] at CS
      clear hl
      go_enter Tryd.func3, Tryd.ntmps3
      go_wp2_with fail
      (refine (CS).mono ?_); rintro e w2 ⟨rfl, hb⟩
      have HB2 := Lib.hid (nbelow_on HB1.out hb)
      have HE2 := Lib.hid (HE1.out.below hb)
      have HS_2 := Lib.hid (HS_1.out.below hb)
      have K0_2 := Lib.hid (K0_1.out.below hb)
      clear hb HS_1 K0_1 CS a0 a1 a2
      have s0 := K0_2.out.c 0 (v := .string x) rfl
      have s1 := K0_2.out.c 1 (v := .slice A n c) rfl
      have s2 := K0_2.out.c 2 (v := .string z) rfl
      go_upto_region 3 with fail
      go_region_held3 (fun w' => w'.cell? ⟨w.heap.size, 0, none⟩ = some (.string x) ∧ w'.cell? ⟨w.heap.size, 1, none⟩ = some (.slice A n c) ∧ w'.cell? ⟨w.heap.size, 2, none⟩ = some (.string z)) (go_keep)
        (first
          | (go_at_call 12; refine (check_at w2 _ (by first | exact Below.refl _ _ | exact (Below.refl _ _).drew) HE2.out s HR1.out).mono ?_; rintro e w11 ⟨rfl, hb⟩; have BB1 := Lib.hid hb; have i0 := (K0_2.out.below BB1.out).c 0 (v := .string x) rfl; have i1 := (K0_2.out.below BB1.out).c 1 (v := .slice A n c) rfl; have i2 := (K0_2.out.below BB1.out).c 2 (v := .string z) rfl; clear hb)
          | (go_at_call 13; refine (rcheck_at w2 _ (by first | exact BB1.out | exact nbelow_on BB1.out (Below.refl _ _).drew) s HR1.out).mono ?_; rintro e w12 ⟨rfl, hb⟩; have BB2 := Lib.hid hb; have j0 := (K0_2.out.below BB2.out).c 0 (v := .string x) rfl; have j1 := (K0_2.out.below BB2.out).c 1 (v := .slice A n c) rfl; have j2 := (K0_2.out.below BB2.out).c 2 (v := .string z) rfl; clear hb)
          | (go_at_call 14; refine (sym_at w2 _ (by first | exact BB2.out | exact nbelow_on BB2.out (Below.refl _ _).drew) HE2.out x z A n c ls HS_2.out HR2.out).mono ?_; rintro e w13 ⟨rfl, hb⟩; have BB3 := Lib.hid hb; have k0 := (K0_2.out.below BB3.out).c 0 (v := .string x) rfl; have k1 := (K0_2.out.below BB3.out).c 1 (v := .slice A n c) rfl; have k2 := (K0_2.out.below BB3.out).c 2 (v := .string z) rfl; clear hb)
          | (go_at_call 15; refine (rsym_at w2 _ (by first | exact BB3.out | exact nbelow_on BB3.out (Below.refl _ _).drew) x z A n c ls HS_2.out HR2.out).mono ?_; rintro e w14 ⟨rfl, hb⟩; have BB4 := Lib.hid hb; have l0 := (K0_2.out.below BB4.out).c 0 (v := .string x) rfl; have l1 := (K0_2.out.below BB4.out).c 1 (v := .slice A n c) rfl; have l2 := (K0_2.out.below BB4.out).c 2 (v := .string z) rfl; clear hb)
          | (go_at_call 11; refine (awake_at w2 _ (by first | exact BB4.out | exact nbelow_on BB4.out (Below.refl _ _).drew) HE2.out).mono ?_; rintro e w15 ⟨rfl, hb⟩; have BB5 := Lib.hid hb; have m0 := (K0_2.out.below BB5.out).c 0 (v := .string x) rfl; have m1 := (K0_2.out.below BB5.out).c 1 (v := .slice A n c) rfl; have m2 := (K0_2.out.below BB5.out).c 2 (v := .string z) rfl; clear hb))
      all_goals
        go_wp2_with fail
        go_ret
        exact ⟨rfl, nbelow_on HB2.out BB5.out⟩
  · skip
    have q3 : (300 : Int) < (s.size : Int) := by omega
    clear h3
    go_enter Tryd.func3, Tryd.ntmps3
    go_wp2_with fail
    (refine (awake_any (w.alloc (.cells #[.string x, .slice A n c, .string z] 25)) HE1.out).mono ?_); rintro e w2 ⟨rfl, hb⟩
    have HB2 := Lib.hid (nbelow_on HB1.out hb)
    have HE2 := Lib.hid (HE1.out.below hb)
    have HS_2 := Lib.hid (HS_1.out.below hb)
    have K0_2 := Lib.hid (K0_1.out.below hb)
    clear hb HS_1 K0_1
    go_wp2_with fail
    go_ret
    exact ⟨rfl, HB2.out⟩

set_option maxRecDepth 100000 in
theorem contract (H : Type) (enc : TypeId × Value → H) (W : World) (base : Nat) (args : Array Value) (ds gs : List (DataW H)) (before : List MemPlace)
    (hval : ∀ (j : Nat) t v, Tryd.f3.params[j]? = some t → args[j]? = some v → Value.okWide Tryd.prog W .any base t v)
    (hW : DataW.Whole enc Tryd.prog Tryd.f3.params.toList Rows.sortChecksSpec.vars false W args.toList ds gs before) (hL : laidMetH Tryd.prog Rows.sortChecksRow.laid W) (hSh : W.ShapedOpen Tryd.prog) :
    Calls Tryd.prog 3 args W fun e W' => ∃ v, e = .returned v ∧ Rows.sortChecksSpec.post enc Tryd.prog Tryd.f3 false true false false W args v W' := by
  have hW' := hW
  obtain ⟨p, q, hA0, hV, rfl, hfz, hnd⟩ := hW
  have hA : DataW.TrodAll enc Tryd.prog W 0 (fun _ => true) true Tryd.f3.params.toList args.toList ds p := hA0
  have hlt : ∀ x ∈ p, x.block < W.heap.size := fun x hx => hW'.lt x (by simp [hx])
  have hAll := hA
  rw [Tryd.params3] at hA hval
  obtain ⟨v0, vs0, d0, ds0, p0, q0, hargs, rfl, rfl, h0, r0⟩ := trodAll_cons hA
  obtain ⟨v1, vs1, d1, ds1, p1, q1, rfl, rfl, rfl, h1, r1⟩ := trodAll_cons r0
  obtain ⟨rfl, rfl, rfl⟩ := trodAll_nil r1
  obtain rfl : args = #[v0, v1] := by cases args; simp_all
  obtain ⟨rfl, rfl⟩ := trodVars_none hV
  obtain ⟨t1, rfl, _, _, g1⟩ := open_string Tryd.underlying22 (hval 0 22 v0 rfl rfl) h0
  obtain ⟨x2, A2, n2, c2, y2, l2, rfl, g2⟩ := open_symv (hval 1 25 v1 rfl rfl) h1
  refine (walk t1 x2 y2 A2 n2 c2 l2 W (env_of_laid hL hSh) g2).mono fun e W' ⟨he, hg⟩ => ?_
  subst he
  refine ⟨_, rfl, _, _, _, [], _, [], hW', trodAll_mk1 (shut_bool Tryd.underlying4 _), trodAll_below hg (fun t ht => ?_) hAll hlt, rfl, hg.frame _, fun h => by cases h⟩
  rw [Tryd.params3] at ht
  simp only [List.mem_cons, List.not_mem_nil, or_false] at ht
  rcases ht with rfl | rfl
  · exact read_sort
  · exact read_sym

set_option maxRecDepth 100000 in
theorem reads (os : Os) {H : Type} (enc : TypeId × Value → H) : ∃ places, DataW.whole enc Tryd.prog ((World.laidAll Tryd.prog os laidNames).forCall (fun _ _ => 0) ⟨#[], #[Value.string ByteArray.empty, Value.agg #[.string ByteArray.empty, .slice none 0 0, .string ByteArray.empty]], []⟩).memory Tryd.f3.params.toList Rows.sortChecksSpec.vars false #[Value.string ByteArray.empty, Value.agg #[.string ByteArray.empty, .slice none 0 0, .string ByteArray.empty]].toList 8 = some ([.lit (.string []), .agg [.lit (.string []), .nil, .lit (.string [])]], [], places) :=
  ⟨[], by kernel_rfl⟩

set_option maxRecDepth 100000 in
theorem lifted (os : Os) (started : os.Started) (H : Type) (enc : TypeId × Value → H) (F : Stop.Interp) :
    ReturnsInHanded {} Tryd.checked os 3 .any ((OpenSpec.ofChange Rows.sortChecksSpec).preRow enc Tryd.prog Tryd.f3 Rows.sortChecksRow.domain false Rows.sortChecksRow.laid) (((OpenSpec.ofChange Rows.sortChecksSpec).at F).post enc Tryd.prog Tryd.f3 false true false false) := by
  obtain ⟨places, hx⟩ := reads os enc
  refine returnsInHanded_of_row (C := Tryd.checked) (s := OpenSpec.ofChange Rows.sortChecksSpec) own started (by kernel_rfl) Tryd.func3
    (witness_row_at (enc := enc) (C := Tryd.checked) false (World.laidAll Tryd.prog os laidNames) #[Value.string ByteArray.empty, Value.agg #[.string ByteArray.empty, .slice none 0 0, .string ByteArray.empty]] rfl (by kernel_rfl) (by kernel_rfl) (by kernel_rfl)
      (OpenSpec.preRow_of_cond 8 hx (by kernel_rfl) (fun k hk => by cases hk) (by kernel_rfl) (laid_met os _))) ?_
  intro W base args ds gs before hval hW _ _ _ hL hSh _
  exact contract H enc W base args ds gs before hval hW hL hSh

theorem said : Rows.SortChecksSaid :=
  OpenClaim.holds_of_cond 3 Tryd.f3 rfl rfl rfl rfl rfl rfl rfl ⟨rfl, rfl, rfl, rfl, rfl⟩ rfl rfl rfl rfl rfl (by kernel_rfl) Tryd.func3 (by kernel_rfl)
    (of_decide_eq_true (by kernel_rfl)) (by unfold Func.isWrapper; first | (rw [if_pos (by decide +kernel)]; kernel_rfl) | (rw [if_neg (by decide +kernel)]; exact ⟨rfl, rfl⟩))
    (fun os started H enc _ F => by rw [OpenClaim.pre_eq_preRow]; exact lifted os started H enc F)

theorem plain (f : FuncId) (fn : Func) (hf : Tryd.pinned.checked.prog.funcNamed "liquidcheck/liquidchecklaw06.SortChecks" = some f) (hfn : Tryd.pinned.checked.prog.funcs[f]? = some fn) :
    false = Tryd.pinned.checked.prog.looks [] ∧ ∀ (j : Nat) t, fn.params[j]? = some t → Tryd.pinned.checked.prog.wantsStandIn t = false := by
  obtain rfl : f = 3 := Option.some.inj ((show Tryd.prog.funcNamed "liquidcheck/liquidchecklaw06.SortChecks" = some 3 by kernel_rfl).symm.trans hf) |>.symm
  obtain rfl : fn = Tryd.f3 := (Option.some.inj (Tryd.func3.symm.trans hfn)).symm
  refine ⟨by kernel_rfl, fun j t ht => ?_⟩
  rw [Tryd.params3] at ht
  have hm := Array.mem_of_getElem? ht
  simp only [List.mem_toArray, List.mem_cons, List.not_mem_nil, or_false] at hm
  rcases hm with rfl | rfl
  · exact (show Tryd.prog.wantsStandIn 22 = false by kernel_rfl)
  · exact (show Tryd.prog.wantsStandIn 25 = false by kernel_rfl)

theorem card : Rows.SortChecksCardSaid :=
  Claim7.holds_tied_plain_at .later [] _ _ _ _ said (fun _ h => by cases h) (by kernel_rfl) (fun _ h => by cases h) sortChecks_row_tie rfl ⟨rfl, rfl⟩ (by kernel_rfl) rfl plain (by kernel_rfl)
end Go.Proofs.YtegognbnphpigaaDoor.sortChecks
