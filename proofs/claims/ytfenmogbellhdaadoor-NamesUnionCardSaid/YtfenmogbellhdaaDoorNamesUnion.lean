/-
  THE STATEMENT NamesUnion IS PROVED: for every two lists of texts (the listed tables holding what the program's text lays, tied by the card), the law returns true and its arguments read as before.
-/
import Derived.Test.YtfenmogbellhdaaDoorCards
import Derived.Test.YtfenmogbellhdaaDoorTie
import Derived.Test.YtfenmogbellhdaaDoorNmLaid
import Derived.Test.YtfenmogbellhdaaDoorNmRD
namespace Go.Proofs.YtfenmogbellhdaaDoor.namesUnion
open Go.ChangeShapes Go.WideShapes Go.ChangeAt Go.RowKit
open Go.ChangeMaps (open_string shut_string)

theorem rev_at {l : List Txt} {i : Nat} (hi : i < l.length) : l.reverse.take (i + 1) = l.reverse.take i ++ [l.getD (l.length - 1 - i) []] := by
  rw [take_snoc (by rw [List.length_reverse]; exact hi)]
  congr 2
  have h2 : l.length - 1 - i < l.length := by omega
  simp [List.getD, hi, h2]
set_option maxRecDepth 100000 in
set_option maxHeartbeats 8000000 in
theorem walk (A : Option Addr) (n c : Nat) (xs : List Txt) (B : Option Addr) (m d : Nat) (ys : List Txt) (w : World) (hs : Ss w A n c xs) (ht : Ss w B m d ys) (henv : Env w) (htab : Tabx w) :
    Calls Tryd.prog 6 #[.slice A n c, .slice B m d] w fun e w' => e = .returned (.bool true) ∧ Below w.heap.size w w' := by
  have HS := Lib.hid hs
  have HT := Lib.hid ht
  have HE := Lib.hid henv
  have HTB := Lib.hid htab
  have CF := few_any A n c xs w hs
  have CG := few_any B m d ys w ht
  cases hf : fewB xs with
  | false =>
    rw [hf] at CF
    clear hs ht henv htab hf
    go_enter Tryd.func6, Tryd.ntmps6
    go_wp2_with fail
    ((with_reducible refine (CF).mono ?_); rintro e wx ⟨rfl, rfl⟩)
    go_wp2_with fail
    (refine (alive_any w HE.out HTB.out).mono ?_); rintro e w9 ⟨rfl, hb⟩
    have HB9 := Lib.hid (hb)
    clear hb
    go_wp2_with fail
    go_ret
    exact ⟨rfl, HB9.out⟩
  | true =>
    rw [hf] at CF
    cases hf2 : fewB ys with
    | false =>
      rw [hf2] at CG
      clear hs ht henv htab hf hf2
      go_enter Tryd.func6, Tryd.ntmps6
      go_wp2_with fail
      ((with_reducible refine (CF).mono ?_); rintro e wx ⟨rfl, rfl⟩)
      go_wp2_with fail
      ((with_reducible refine (CG).mono ?_); rintro e wx ⟨rfl, rfl⟩)
      go_wp2_with fail
      (refine (alive_any w HE.out HTB.out).mono ?_); rintro e w9 ⟨rfl, hb⟩
      have HB9 := Lib.hid (hb)
      clear hb
      go_wp2_with fail
      go_ret
      exact ⟨rfl, HB9.out⟩
    | true =>
      rw [hf2] at CG
      have FX := Lib.hid (few_of hf)
      have FY := Lib.hid (few_of hf2)
      have CU := union_any A n c xs B m d ys w hs ht FX.out.fit FY.out.fit (by have := FX.out.1; have := FY.out.1; omega)
      have hn3 : n ≤ 300 := by rw [← hs.len]; exact FX.out.1
      clear hs ht henv htab hf hf2
      go_enter Tryd.func6, Tryd.ntmps6
      go_wp2_with fail
      ((with_reducible refine (CF).mono ?_); rintro e wx ⟨rfl, rfl⟩)
      go_wp2_with fail
      ((with_reducible refine (CG).mono ?_); rintro e wx ⟨rfl, rfl⟩)
      go_wp2_with fail
      (refine CU.mono ?_); rintro e w1 ⟨C, k, r, rfl, hu, hb⟩
      have HU := Lib.hid hu
      have HB1 := Lib.hid hb
      clear hu hb CF CG CU
      go_wp2_with fail
      go_loopw [6, 22] (fun tv iv wr => ∃ i : Nat, i ≤ n ∧ iv = .int .i64 (i : Int) ∧ wr.ownsRow w1.heap.size 9 1 tv (xs.reverse.take i).length ((xs.reverse.take i).map encStr) ∧ Below w1.heap.size w1 wr) (fun _ iv _ => n - (intOf iv).toNat)
      case atStart => exact ⟨0, Nat.zero_le _, rfl, by simpa using row_nil w1 w1.heap.size, Below.refl _ _⟩
      case round =>
        obtain ⟨i, hi, rfl, ho, hb⟩ := hrel
        have HO := Lib.hid ho
        have HB := Lib.hid hb
        have HBW := Lib.hid (nbelow_on HB1.out hb)
        clear ho hb
        by_cases hlt : i < n
        · have hnl := HS.out.len
          have hil : i < xs.length := by rw [hnl]; exact hlt
          have HRV := Lib.hid (rev_at hil)
          obtain ⟨g, o, x, rfl, hg, hc0, hx⟩ := (HS.out.below HBW.out).at_ (k := n - 1 - i) (by omega)
          have HX : Hid (x.data.toList = xs.getD (xs.length - 1 - i) []) := by show _ = _; rw [hnl]; exact hx.out
          have q1 : (i : Int) < n := by omega
          have q2 : (0 : Int) ≤ (n : Int) - 1 - (i : Int) := by omega
          have q3 : (n : Int) - 1 - (i : Int) < n := by omega
          have e1 : ((n : Int) - 1 - (i : Int)).toNat = n - 1 - i := by omega
          have hc1 : wr.cell? ⟨g, o + ((n : Int) - 1 - (i : Int)).toNat, none⟩ = some (.string x) := by rw [e1]; exact hc0
          have HBS := Lib.hid (below_alloc (w := wr) (.cells #[.string x] 9))
          have HOS := Lib.hid (row_below HO.out HBS.out)
          have HBV := Lib.hid (HB.out.trans (HBS.out.mono HB.out.size))
          have hlr : (xs.reverse.take i).length ≤ 300 := by rw [List.length_take]; omega
          clear hx hg hnl hil
          go_wp2_with (at_builtin; refine wpList_append_txts _ rfl _ _ rfl w1.heap.size HBV.out.size _ (xs.reverse.take i) rfl HOS.out _ 1 1 [x.data.toList] rfl (one_txt x) (by simp; omega) ?_; intro v2 w2 hr2 hg2 ho2)
          rw [HX.out, ← HRV.out] at hr2
          have HR2 := Lib.hid hr2
          have HB2 : Hid (Below w1.heap.size w1 w2) := HBV.out.grown hg2 HBV.out.size (fun q hq => row_ge HOS.out hq)
          clear hr2 hg2 ho2
          go_wp2_with fail
          go_roundw
          case rel => exact ⟨i + 1, by omega, by go_num, HR2.out, HB2.out⟩
          case measure => simp [intOf] <;> omega
        · obtain rfl : i = n := by omega
          have hnl := HS.out.len
          have ho := HO.out
          rw [List.take_of_length_le (by rw [List.length_reverse, hnl]; exact Nat.le_refl _)] at ho
          rw [List.length_reverse] at ho
          obtain ⟨D, p, rfl, htu⟩ := Ss.of_row List.length_reverse ho
          have HTU := Lib.hid htu
          have FR : Hid (Few xs.reverse) := by
            refine ⟨by rw [List.length_reverse]; exact FX.out.1, fun y hy => FX.out.2 y (List.mem_reverse.1 hy)⟩
          have C1 := runion_any A _ c xs B m d ys wr (HS.out.below HBW.out) (HT.out.below HBW.out) (by have := FX.out.1; omega) (by have := FY.out.1; omega)
          clear hnl ho htu
          go_wp2_with fail
          (refine C1.mono ?_); rintro e w2 ⟨C2, k2, r2, rfl, hu2, hb⟩
          have HB2 := Lib.hid (nbelow_on HBW.out hb)
          have HBA := Lib.hid (nbelow_on HB.out hb)
          have HTU2 := Lib.hid (HTU.out.below hb)
          have C3 := same_any C C2 k r k2 r2 _ _ w2 (HU.out.below HBA.out) hu2
          rw [decide_eq_true rfl] at C3
          clear hb hu2 C1
          go_wp2_with fail
          (refine C3.mono ?_); rintro e w3 ⟨rfl, hb⟩
          have HB3 := Lib.hid (nbelow_on HB2.out hb)
          have HBA3 := Lib.hid (nbelow_on HBA.out hb)
          have C4 := union_any B m d ys D _ p xs.reverse w3 (HT.out.below HB3.out) (HTU2.out.below hb) FY.out.fit FR.out.fit (by have := FR.out.1; have := FY.out.1; omega)
          rw [unB_ext (l := ys ++ xs.reverse) (r := xs ++ ys) (fun y => by simp only [List.mem_append, List.mem_reverse]; exact Or.comm)] at C4
          clear hb C3
          go_wp2_with fail
          (refine C4.mono ?_); rintro e w4 ⟨C5, k5, r5, rfl, hu5, hb⟩
          have HB4 := Lib.hid (nbelow_on HB3.out hb)
          have C6 := same_any C5 C k5 r5 k r _ _ w4 hu5 (HU.out.below (nbelow_on HBA3.out hb))
          rw [decide_eq_true rfl] at C6
          clear hb hu5 C4
          go_wp2_with fail
          (refine C6.mono ?_); rintro e w5 ⟨rfl, hb⟩
          have HB5 := Lib.hid (nbelow_on HB4.out hb)
          clear hb C6
          go_wp2_with fail
          (refine (alive_any w5 (HE.out.below HB5.out) (tabx_on HTB.out HB5.out)).mono ?_); rintro e w9 ⟨rfl, hb⟩
          have HB9 := Lib.hid (nbelow_on HB5.out hb)
          clear hb
          go_wp2_with fail
          go_ret
          exact ⟨rfl, HB9.out⟩

set_option maxRecDepth 100000 in
theorem contract (H : Type) (enc : TypeId × Value → H) (W : World) (base : Nat) (args : Array Value) (ds gs : List (DataW H)) (before : List MemPlace)
    (hval : ∀ (j : Nat) t v, Tryd.f6.params[j]? = some t → args[j]? = some v → Value.okWide Tryd.prog W .any base t v)
    (hW : DataW.Whole enc Tryd.prog Tryd.f6.params.toList Rows.namesUnionSpec.vars false W args.toList ds gs before) (hL : laidMetH Tryd.prog Rows.namesUnionRow.laid W) (hSh : W.ShapedOpen Tryd.prog) :
    Calls Tryd.prog 6 args W fun e W' => ∃ v, e = .returned v ∧ Rows.namesUnionSpec.post enc Tryd.prog Tryd.f6 false true false false W args v W' := by
  have hW' := hW
  obtain ⟨p, q, hA0, hV, rfl, hfz, hnd⟩ := hW
  have hA : DataW.TrodAll enc Tryd.prog W 0 (fun _ => true) true Tryd.f6.params.toList args.toList ds p := hA0
  have hlt : ∀ x ∈ p, x.block < W.heap.size := fun x hx => hW'.lt x (by simp [hx])
  have hAll := hA
  rw [Tryd.params6] at hA hval
  obtain ⟨v0, vs0, d0, ds0, p0, q0, hargs, rfl, rfl, h0, r0⟩ := trodAll_cons hA
  obtain ⟨v1, vs1, d1, ds1, p1, q1, rfl, rfl, rfl, h1, r1⟩ := trodAll_cons r0
  obtain ⟨rfl, rfl, rfl⟩ := trodAll_nil r1
  obtain rfl : args = #[v0, v1] := by cases args; simp_all
  obtain ⟨rfl, rfl⟩ := trodVars_none hV
  obtain ⟨A1, n1, c1, x1, rfl, g1, fit1⟩ := open_txts (hval 0 26 v0 rfl rfl) h0
  obtain ⟨A2, n2, c2, x2, rfl, g2, fit2⟩ := open_txts (hval 1 26 v1 rfl rfl) h1
  refine (walk A1 n1 c1 x1 A2 n2 c2 x2 W g1 g2 (env_of_laid hL hSh) (tabx_of_laid hL)).mono fun e W' ⟨he, hg⟩ => ?_
  subst he
  refine ⟨_, rfl, _, _, _, [], _, [], hW', trodAll_mk1 (shut_bool Tryd.underlying4 _), trodAll_below hg (fun t ht => ?_) hAll hlt, rfl, hg.frame _, fun h => by cases h⟩
  rw [Tryd.params6] at ht
  simp only [List.mem_cons, List.not_mem_nil, or_false] at ht
  rcases ht with rfl | rfl
  · exact read_txts
  · exact read_txts

set_option maxRecDepth 100000 in
theorem reads (os : Os) {H : Type} (enc : TypeId × Value → H) : ∃ places, DataW.whole enc Tryd.prog ((World.laidAll Tryd.prog os laidNames).forCall (fun _ _ => 0) ⟨#[], #[Value.slice none 0 0, Value.slice none 0 0], []⟩).memory Tryd.f6.params.toList Rows.namesUnionSpec.vars false #[Value.slice none 0 0, Value.slice none 0 0].toList 8 = some ([.nil, .nil], [], places) :=
  ⟨[], by kernel_rfl⟩

set_option maxRecDepth 100000 in
theorem lifted (os : Os) (started : os.Started) (H : Type) (enc : TypeId × Value → H) (F : Stop.Interp) :
    ReturnsInHanded {} Tryd.checked os 6 .any ((OpenSpec.ofChange Rows.namesUnionSpec).preRow enc Tryd.prog Tryd.f6 Rows.namesUnionRow.domain false Rows.namesUnionRow.laid) (((OpenSpec.ofChange Rows.namesUnionSpec).at F).post enc Tryd.prog Tryd.f6 false true false false) := by
  obtain ⟨places, hx⟩ := reads os enc
  refine returnsInHanded_of_row (C := Tryd.checked) (s := OpenSpec.ofChange Rows.namesUnionSpec) own started (by kernel_rfl) Tryd.func6
    (witness_row_at (enc := enc) (C := Tryd.checked) false (World.laidAll Tryd.prog os laidNames) #[Value.slice none 0 0, Value.slice none 0 0] rfl (by kernel_rfl) (by kernel_rfl) (by kernel_rfl)
      (OpenSpec.preRow_of_cond 8 hx (by kernel_rfl) (fun k hk => by cases hk) (by kernel_rfl) (laid_met os _))) ?_
  intro W base args ds gs before hval hW _ _ _ hL hSh _
  exact contract H enc W base args ds gs before hval hW hL hSh

theorem said : Rows.NamesUnionSaid :=
  OpenClaim.holds_of_cond 6 Tryd.f6 rfl rfl rfl rfl rfl rfl rfl ⟨rfl, rfl, rfl, rfl, rfl⟩ rfl rfl rfl rfl rfl (by kernel_rfl) Tryd.func6 (by kernel_rfl)
    (of_decide_eq_true (by kernel_rfl)) (by unfold Func.isWrapper; first | (rw [if_pos (by decide +kernel)]; kernel_rfl) | (rw [if_neg (by decide +kernel)]; exact ⟨rfl, rfl⟩))
    (fun os started H enc _ F => by rw [OpenClaim.pre_eq_preRow]; exact lifted os started H enc F)

theorem plain (f : FuncId) (fn : Func) (hf : Tryd.pinned.checked.prog.funcNamed "liquidcheck/liquidchecklaw04.NamesUnion" = some f) (hfn : Tryd.pinned.checked.prog.funcs[f]? = some fn) :
    false = Tryd.pinned.checked.prog.looks [] ∧ ∀ (j : Nat) t, fn.params[j]? = some t → Tryd.pinned.checked.prog.wantsStandIn t = false := by
  obtain rfl : f = 6 := Option.some.inj ((show Tryd.prog.funcNamed "liquidcheck/liquidchecklaw04.NamesUnion" = some 6 by kernel_rfl).symm.trans hf) |>.symm
  obtain rfl : fn = Tryd.f6 := (Option.some.inj (Tryd.func6.symm.trans hfn)).symm
  refine ⟨by kernel_rfl, fun j t ht => ?_⟩
  rw [Tryd.params6] at ht
  have hm := Array.mem_of_getElem? ht
  simp only [List.mem_toArray, List.mem_cons, List.not_mem_nil, or_false] at hm
  rcases hm with rfl | rfl
  · exact (show Tryd.prog.wantsStandIn 26 = false by kernel_rfl)
  · exact (show Tryd.prog.wantsStandIn 26 = false by kernel_rfl)

theorem card : Rows.NamesUnionCardSaid :=
  Claim7.holds_tied_plain_at .later [] _ _ _ _ said (fun _ h => by cases h) (by kernel_rfl) (fun _ h => by cases h) namesUnion_row_tie rfl ⟨rfl, rfl⟩ (by kernel_rfl) rfl plain (by kernel_rfl)
end Go.Proofs.YtfenmogbellhdaaDoor.namesUnion
