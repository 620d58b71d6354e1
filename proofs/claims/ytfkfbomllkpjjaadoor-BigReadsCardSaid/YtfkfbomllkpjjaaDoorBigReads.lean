/-
  THE STATEMENT BigReads IS PROVED: for every number and every string (the listed library tables holding what the program's text lays, tied by the card), the law returns true and its arguments read as before.
-/
import Derived.Test.YtfkfbomllkpjjaaDoorCards
import Derived.Test.YtfkfbomllkpjjaaDoorTie
import Derived.Test.YtfkfbomllkpjjaaDoorBigLaid
import Derived.Test.YtfkfbomllkpjjaaDoorBigZ
import Derived.Deep.DeepCutAuto
import Derived.ShutString
namespace Go.Proofs.YtfkfbomllkpjjaaDoor.bigReads
open Go.ChangeShapes Go.WideShapes Go.ChangeAt Go.RowKit
open Go.ChangeMaps (open_string shut_string)

theorem dig0_len {u : Nat} : ∀ (m : Nat), (digs u).length ≤ m → (dig0 u).length ≤ 4 * m := by
  intro m
  induction m generalizing u with
  | zero =>
    intro hu
    have := digs_eq_nil.1 (List.eq_nil_of_length_eq_zero (by omega : (digs u).length = 0))
    subst this; rw [dig0_zero]; simp
  | succ m ih =>
    intro hu
    by_cases h0 : u = 0
    · subst h0; rw [dig0_zero]; simp
    · rw [dig0_pos h0]
      by_cases hs : u < 10000
      · have := dec_len4 hs; omega
      · have e : Lib.decDigits u = Lib.decDigits (u / 10000) ++ pad4 (u % 10000) := by
          rw [← dec_pad (by omega) (by omega)]; congr 1; omega
        rw [digs_pos h0, List.length_cons] at hu
        have := ih (u := u / 10000) (by omega)
        rw [dig0_pos (by omega)] at this
        rw [e, List.length_append]
        have : (pad4 (u % 10000)).length = 4 := rfl
        omega
theorem itoa_len {z : Int} (h : fitB z = true) : (⟨(Lib.itoa z).toArray⟩ : ByteArray).size ≤ 1000 := by
  show (Lib.itoa z).toArray.size ≤ 1000
  have h1 := dig0_len (u := z.natAbs) 200 (lOf_len h)
  by_cases h0 : z = 0
  · subst h0
    rw [itoa_form, if_neg (by omega), dec_small (by decide)]; decide
  · rw [dig0_pos (by omega)] at h1
    rw [itoa_form]
    split <;> simp <;> omega

set_option maxRecDepth 100000 in
set_option maxHeartbeats 4000000 in
theorem walk (s1 : Bool) (A1 : Option Addr) (n1 c1 : Nat) (x1 : List Int) (s : ByteArray) (w : World) (h1 : Sl w A1 n1 c1 x1) (hs : s.size ≤ maxLen) (htab : Tab w) :
    Calls Tryd.prog 8 #[.agg #[.bool s1, .slice A1 n1 c1], .string s] w fun e w' => e = .returned (.bool true) ∧ Below w.heap.size w w' := by
  unfold maxLen at hs
  have TB := Lib.hid htab
  have BW := Lib.hid (Below.refl w.heap.size w)
  have S1 := Lib.hid h1
  have l1 := Lib.hid h1.len
  clear htab h1
  go_enter Tryd.func8, Tryd.ntmps8
  go_upto_region 1 with fail
  have S1 := Lib.hid (S1.out.alloc (.cells #[.bool s1, .slice A1 n1 c1] 24))
  have X1 := Lib.hid (Bx.new w (.bool s1) (.slice A1 n1 c1))
  have TB : Hid (Tab (w.alloc (.cells #[.bool s1, .slice A1 n1 c1] 24))) := tab_on TB.out ((Below.refl _ _).alloc (Nat.le_refl _) _)
  have BW := Lib.hid (BW.out.alloc BW.out.size (.cells #[.bool s1, .slice A1 n1 c1] 24))
  generalize hWW : (w.alloc (.cells #[.bool s1, .slice A1 n1 c1] 24)) = W0 at *
  clear hWW
  by_cases g1 : 200 < n1
  · have b1 : decide ((200 : Int) < (n1 : Int)) = true := decide_eq_true (by omega)
    have e0 := X1.out.c0
    have e1 := X1.out.c1
    go_wp2_with fail
    (refine (long_any s1 A1 n1 c1 200 _).mono ?_; rintro e v1 ⟨rfl, hb⟩)
    rw [b1]
    clear e0 e1
    have S1 := Lib.hid (S1.out.below hb)
    have X1 := Lib.hid (X1.out.below hb)
    have TB := Lib.hid (tab_on TB.out hb)
    have BW := Lib.hid (below_on BW.out hb)
    clear hb
    go_wp2_with fail
    (refine (awake_any _ TB.out).mono ?_; rintro e vv ⟨rfl, hb⟩)
    have S1 := Lib.hid (S1.out.below hb)
    have X1 := Lib.hid (X1.out.below hb)
    have TB := Lib.hid (tab_on TB.out hb)
    have BW := Lib.hid (below_on BW.out hb)
    clear hb
    go_wp2_with fail
    go_ret
    exact ⟨rfl, BW.out⟩
  have b1 : decide ((200 : Int) < (n1 : Int)) = false := decide_eq_false (by omega)
  by_cases g2 : 1000 < s.size
  · have b2 : decide ((1000 : Int) < (s.size : Int)) = true := decide_eq_true (by omega)
    have e0 := X1.out.c0
    have e1 := X1.out.c1
    go_wp2_with fail
    (refine (long_any s1 A1 n1 c1 200 _).mono ?_; rintro e v1 ⟨rfl, hb⟩)
    rw [b1]
    clear e0 e1
    have S1 := Lib.hid (S1.out.below hb)
    have X1 := Lib.hid (X1.out.below hb)
    have TB := Lib.hid (tab_on TB.out hb)
    have BW := Lib.hid (below_on BW.out hb)
    clear hb
    go_wp2_with fail
    (refine (awake_any _ TB.out).mono ?_; rintro e vv ⟨rfl, hb⟩)
    have S1 := Lib.hid (S1.out.below hb)
    have X1 := Lib.hid (X1.out.below hb)
    have TB := Lib.hid (tab_on TB.out hb)
    have BW := Lib.hid (below_on BW.out hb)
    clear hb
    go_wp2_with fail
    go_ret
    exact ⟨rfl, BW.out⟩
  have b2 : decide ((1000 : Int) < (s.size : Int)) = false := decide_eq_false (by omega)
  have e0 := X1.out.c0
  have e1 := X1.out.c1
  go_wp2_with fail
  (refine (long_any s1 A1 n1 c1 200 _).mono ?_; rintro e v1 ⟨rfl, hb⟩)
  rw [b1]
  clear e0 e1
  have S1 := Lib.hid (S1.out.below hb)
  have X1 := Lib.hid (X1.out.below hb)
  have TB := Lib.hid (tab_on TB.out hb)
  have BW := Lib.hid (below_on BW.out hb)
  clear hb
  have e0 := X1.out.c0
  have e1 := X1.out.c1
  go_wp2_with fail
  (refine (valid_any s1 A1 n1 c1 x1 _ S1.out).mono ?_; rintro e v2 ⟨rfl, hb⟩)
  clear e0 e1
  have S1 := Lib.hid (S1.out.below hb)
  have X1 := Lib.hid (X1.out.below hb)
  have TB := Lib.hid (tab_on TB.out hb)
  have BW := Lib.hid (below_on BW.out hb)
  clear hb
  go_upto_if 18 with fail
  go_cut [] (fun wx => Below v2.heap.size v2 wx)
  case first =>
    cases hv : validB s1 x1 with
    | false =>
      go_wp2_with fail
      go_meet
      exact Below.refl _ _
    | true =>
      obtain ⟨f1, f2, f3⟩ := form_of_valid hv
      have FF := Lib.hid f3
      have F1 := Lib.hid f1
      have F2 := Lib.hid f2
      have HL := Lib.hid (itoa_len f3)
      clear f1 f2 f3
      have B0 := Lib.hid (Below.refl v2.heap.size v2)
      have e0 := X1.out.c0
      have e1 := X1.out.c1
      go_wp2_with fail
      (refine (text_big s1 A1 n1 c1 x1 _ S1.out TB.out).mono ?_; rintro e v3 ⟨rfl, hb⟩)
      clear e0 e1
      have B0 := Lib.hid (below_on B0.out hb)
      have S1 := Lib.hid (S1.out.below hb)
      have X1 := Lib.hid (X1.out.below hb)
      have TB := Lib.hid (tab_on TB.out hb)
      have BW := Lib.hid (below_on BW.out hb)
      clear hb
      go_wp2_with fail
      (refine (parse_big _ _ HL.out TB.out).mono ?_; rintro e v4 ⟨zp, okp, T4, k4, r4, rfl, hsl, hp, hb⟩)
      obtain ⟨e1, e2⟩ := hp.same (.inl ⟨rfl, FF.out, by simp⟩ : PSpec _ true (zOf s1 x1))
      subst e1; subst e2
      clear hp
      have R4 := Lib.hid hsl
      clear hsl
      have B0 := Lib.hid (below_on B0.out hb)
      have S1 := Lib.hid (S1.out.below hb)
      have X1 := Lib.hid (X1.out.below hb)
      have TB := Lib.hid (tab_on TB.out hb)
      have BW := Lib.hid (below_on BW.out hb)
      clear hb
      go_upto_region 5 with fail
      have B0 := Lib.hid (B0.out.alloc B0.out.size (.cells #[.bool (nOf (zOf s1 x1)), .slice T4 k4 r4] 24))
      have S1 := Lib.hid (S1.out.alloc (.cells #[.bool (nOf (zOf s1 x1)), .slice T4 k4 r4] 24))
      have X1 := Lib.hid (X1.out.alloc (.cells #[.bool (nOf (zOf s1 x1)), .slice T4 k4 r4] 24))
      have R4 := Lib.hid (R4.out.alloc (.cells #[.bool (nOf (zOf s1 x1)), .slice T4 k4 r4] 24))
      have Y4 := Lib.hid (Bx.new v4 (.bool (nOf (zOf s1 x1))) (.slice T4 k4 r4))
      have TB : Hid (Tab (v4.alloc (.cells #[.bool (nOf (zOf s1 x1)), .slice T4 k4 r4] 24))) := tab_on TB.out ((Below.refl _ _).alloc (Nat.le_refl _) _)
      have BW := Lib.hid (BW.out.alloc BW.out.size (.cells #[.bool (nOf (zOf s1 x1)), .slice T4 k4 r4] 24))
      generalize hWW : (v4.alloc (.cells #[.bool (nOf (zOf s1 x1)), .slice T4 k4 r4] 24)) = V4 at *
      clear hWW
      have e0 := Y4.out.c0
      have e1 := Y4.out.c1
      have e2 := X1.out.c0
      have e3 := X1.out.c1
      go_wp2_with fail
      (refine (same_ok _ _ _ _ _ _ _ _ _ x1 _ R4.out S1.out F1.out.symm F2.out.symm).mono ?_; rintro e v5 ⟨rfl, hb⟩)
      clear e0 e1 e2 e3
      have B0 := Lib.hid (below_on B0.out hb)
      clear hb
      go_wp2_with fail
      go_meet
      exact B0.out
  case rest =>
    have hb := hcut
    clear hcut
    have S1 := Lib.hid (S1.out.below hb)
    have X1 := Lib.hid (X1.out.below hb)
    have TB := Lib.hid (tab_on TB.out hb)
    have BW := Lib.hid (below_on BW.out hb)
    clear hb
    go_wp2_with fail
    (refine (parse_big s _ (by omega) TB.out).mono ?_; rintro e v6 ⟨z, ok, T6, k6, r6, rfl, hsl, hp, hb⟩)
    have R6 := Lib.hid hsl
    have HP := Lib.hid hp
    clear hsl hp
    have S1 := Lib.hid (S1.out.below hb)
    have X1 := Lib.hid (X1.out.below hb)
    have TB := Lib.hid (tab_on TB.out hb)
    have BW := Lib.hid (below_on BW.out hb)
    clear hb
    go_upto_region 8 with fail
    have S1 := Lib.hid (S1.out.alloc (.cells #[.bool (nOf z), .slice T6 k6 r6] 24))
    have X1 := Lib.hid (X1.out.alloc (.cells #[.bool (nOf z), .slice T6 k6 r6] 24))
    have R6 := Lib.hid (R6.out.alloc (.cells #[.bool (nOf z), .slice T6 k6 r6] 24))
    have Y6 := Lib.hid (Bx.new v6 (.bool (nOf z)) (.slice T6 k6 r6))
    have TB : Hid (Tab (v6.alloc (.cells #[.bool (nOf z), .slice T6 k6 r6] 24))) := tab_on TB.out ((Below.refl _ _).alloc (Nat.le_refl _) _)
    have BW := Lib.hid (BW.out.alloc BW.out.size (.cells #[.bool (nOf z), .slice T6 k6 r6] 24))
    generalize hWW : (v6.alloc (.cells #[.bool (nOf z), .slice T6 k6 r6] 24)) = V6 at *
    clear hWW
    rcases HP.out with ⟨h1, h2, h3⟩ | ⟨h1, h2, h3⟩
    · subst h1
      have FF := Lib.hid h2
      have he : (Lib.itoa z == s.toList) = true := beq_iff_eq.2 (h3.trans (ByteArray.toList_eq s).symm)
      clear h2 h3 HP
      have e0 := Y6.out.c0
      have e1 := Y6.out.c1
      go_wp2_with fail
      (refine (valid_ok z T6 k6 r6 _ R6.out FF.out).mono ?_; rintro e v7 ⟨rfl, hb⟩)
      clear e0 e1
      have S1 := Lib.hid (S1.out.below hb)
      have X1 := Lib.hid (X1.out.below hb)
      have R6 := Lib.hid (R6.out.below hb)
      have Y6 := Lib.hid (Y6.out.below hb)
      have TB := Lib.hid (tab_on TB.out hb)
      have BW := Lib.hid (below_on BW.out hb)
      clear hb
      have e0 := Y6.out.c0
      have e1 := Y6.out.c1
      go_wp2_with fail
      (refine (text_lit _ _ _ _ _ z _ _ R6.out TB.out (zOf_lOf FF.out) rfl).mono ?_; rintro e v8 ⟨rfl, hb⟩)
      clear e0 e1
      have S1 := Lib.hid (S1.out.below hb)
      have X1 := Lib.hid (X1.out.below hb)
      have R6 := Lib.hid (R6.out.below hb)
      have Y6 := Lib.hid (Y6.out.below hb)
      have TB := Lib.hid (tab_on TB.out hb)
      have BW := Lib.hid (below_on BW.out hb)
      clear hb
      go_wp2_with fail
      (refine (awake_any _ TB.out).mono ?_; rintro e vv ⟨rfl, hb⟩)
      have S1 := Lib.hid (S1.out.below hb)
      have X1 := Lib.hid (X1.out.below hb)
      have R6 := Lib.hid (R6.out.below hb)
      have Y6 := Lib.hid (Y6.out.below hb)
      have TB := Lib.hid (tab_on TB.out hb)
      have BW := Lib.hid (below_on BW.out hb)
      clear hb
      go_wp2_with fail
      go_ret
      exact ⟨rfl, BW.out⟩
    · subst h1; subst h2
      obtain rfl : k6 = 0 := R6.out.zero_len rfl
      clear h3 HP
      rw [nOf_zero] at Y6
      have e0 := Y6.out.c0
      have e1 := Y6.out.c1
      go_wp2_with fail
      (refine (awake_any _ TB.out).mono ?_; rintro e vv ⟨rfl, hb⟩)
      have S1 := Lib.hid (S1.out.below hb)
      have X1 := Lib.hid (X1.out.below hb)
      have R6 := Lib.hid (R6.out.below hb)
      have Y6 := Lib.hid (Y6.out.below hb)
      have TB := Lib.hid (tab_on TB.out hb)
      have BW := Lib.hid (below_on BW.out hb)
      clear hb
      go_wp2_with fail
      go_ret
      exact ⟨rfl, BW.out⟩

theorem contract (H : Type) (enc : TypeId × Value → H) (W : World) (base : Nat) (args : Array Value) (ds gs : List (DataW H)) (before : List MemPlace)
    (hval : ∀ (j : Nat) t v, Tryd.f8.params[j]? = some t → args[j]? = some v → Value.okWide Tryd.prog W .any base t v)
    (hW : DataW.Whole enc Tryd.prog Tryd.f8.params.toList Rows.bigReadsSpec.vars false W args.toList ds gs before) (hL : laidMetH Tryd.prog Rows.bigReadsRow.laid W) :
    Calls Tryd.prog 8 args W fun e W' => ∃ v, e = .returned v ∧ Rows.bigReadsSpec.post enc Tryd.prog Tryd.f8 false true false false W args v W' := by
  have hW' := hW
  obtain ⟨p, q, hA0, hV, rfl, hfz, hnd⟩ := hW
  have hA : DataW.TrodAll enc Tryd.prog W 0 (fun _ => true) true Tryd.f8.params.toList args.toList ds p := hA0
  have hlt : ∀ x ∈ p, x.block < W.heap.size := fun x hx => hW'.lt x (by simp [hx])
  have hAll := hA
  rw [Tryd.params8] at hA hval
  obtain ⟨v0, vs0, d0, ds0, p0, q0, hargs, rfl, rfl, h0, r0⟩ := trodAll_cons hA
  obtain ⟨v1, vs1, d1, ds1, p1, q1, rfl, rfl, rfl, h1, r1⟩ := trodAll_cons r0
  obtain ⟨rfl, rfl, rfl⟩ := trodAll_nil r1
  obtain rfl : args = #[v0, v1] := by cases args; simp_all
  obtain ⟨rfl, rfl⟩ := trodVars_none hV
  obtain ⟨s1, A1, n1, c1, x1, rfl, g1⟩ := open_big (hval 0 24 v0 rfl rfl) h0
  obtain ⟨t2, rfl, _, _, g2⟩ := open_string Tryd.underlying9 (hval 1 9 v1 rfl rfl) h1
  refine (walk s1 A1 n1 c1 x1 t2 W g1 g2 (tab_of_laid hL)).mono fun e W' ⟨he, hg⟩ => ?_
  subst he
  refine ⟨_, rfl, _, _, _, [], _, [], hW', trodAll_mk1 (shut_bool Tryd.underlying4 _), trodAll_below hg (fun t ht => ?_) hAll hlt, rfl, hg.frame _, fun h => by cases h⟩
  rw [Tryd.params8] at ht
  simp only [List.mem_cons, List.not_mem_nil, or_false] at ht
  rcases ht with rfl | rfl
  · exact read_big
  · exact read_string

theorem reads (os : Os) {H : Type} (enc : TypeId × Value → H) : ∃ places, DataW.whole enc Tryd.prog ((World.doorLaid Tryd.prog 24 os).forCall (fun _ _ => 0) ⟨#[], #[Value.agg #[.bool false, .slice none 0 0], Value.string ByteArray.empty], []⟩).memory Tryd.f8.params.toList Rows.bigReadsSpec.vars false #[Value.agg #[.bool false, .slice none 0 0], Value.string ByteArray.empty].toList 8 = some ([.agg [.lit (.bool false), .nil], .lit (.string [])], [], places) :=
  ⟨[], by kernel_rfl⟩

set_option maxRecDepth 100000 in
theorem lifted (os : Os) (started : os.Started) (H : Type) (enc : TypeId × Value → H) (F : Stop.Interp) :
    ReturnsInHanded {} Tryd.checked os 8 .any ((OpenSpec.ofChange Rows.bigReadsSpec).preRow enc Tryd.prog Tryd.f8 Rows.bigReadsRow.domain false Rows.bigReadsRow.laid) (((OpenSpec.ofChange Rows.bigReadsSpec).at F).post enc Tryd.prog Tryd.f8 false true false false) := by
  obtain ⟨places, hx⟩ := reads os enc
  refine returnsInHanded_of_row (C := Tryd.checked) (s := OpenSpec.ofChange Rows.bigReadsSpec) own started (by kernel_rfl) Tryd.func8
    (witness_row_at (enc := enc) (C := Tryd.checked) false (World.doorLaid Tryd.prog 24 os) #[Value.agg #[.bool false, .slice none 0 0], Value.string ByteArray.empty] rfl (by kernel_rfl) (by kernel_rfl) (by kernel_rfl)
      (OpenSpec.preRow_of_cond 8 hx (by kernel_rfl) (fun k hk => by cases hk) (by kernel_rfl) (laid_met os _))) ?_
  intro W base args ds gs before hval hW _ _ _ hL _ _
  exact contract H enc W base args ds gs before hval hW hL

theorem said : Rows.BigReadsSaid :=
  OpenClaim.holds_of_cond 8 Tryd.f8 rfl rfl rfl rfl rfl rfl rfl ⟨rfl, rfl, rfl, rfl, rfl⟩ rfl rfl rfl rfl rfl (by kernel_rfl) Tryd.func8 (by kernel_rfl)
    (of_decide_eq_true (by kernel_rfl)) (by unfold Func.isWrapper; first | (rw [if_pos (by decide +kernel)]; kernel_rfl) | (rw [if_neg (by decide +kernel)]; exact ⟨rfl, rfl⟩))
    (fun os started H enc _ F => by rw [OpenClaim.pre_eq_preRow]; exact lifted os started H enc F)

theorem plain (f : FuncId) (fn : Func) (hf : Tryd.pinned.checked.prog.funcNamed "liquidcheck/liquidchecklaw02.BigReads" = some f) (hfn : Tryd.pinned.checked.prog.funcs[f]? = some fn) :
    false = Tryd.pinned.checked.prog.looks [] ∧ ∀ (j : Nat) t, fn.params[j]? = some t → Tryd.pinned.checked.prog.wantsStandIn t = false := by
  obtain rfl : f = 8 := Option.some.inj ((show Tryd.prog.funcNamed "liquidcheck/liquidchecklaw02.BigReads" = some 8 by kernel_rfl).symm.trans hf) |>.symm
  obtain rfl : fn = Tryd.f8 := (Option.some.inj (Tryd.func8.symm.trans hfn)).symm
  refine ⟨by kernel_rfl, fun j t ht => ?_⟩
  rw [Tryd.params8] at ht
  have hm := Array.mem_of_getElem? ht
  simp only [List.mem_toArray, List.mem_cons, List.not_mem_nil, or_false] at hm
  rcases hm with rfl | rfl
  · exact (show Tryd.prog.wantsStandIn 24 = false by kernel_rfl)
  · exact (show Tryd.prog.wantsStandIn 9 = false by kernel_rfl)

theorem card : Rows.BigReadsCardSaid :=
  Claim7.holds_tied_plain_at .later [] _ _ _ _ said (fun _ h => by cases h) (by kernel_rfl) (fun _ h => by cases h) bigReads_row_tie rfl ⟨rfl, rfl⟩ (by kernel_rfl) rfl plain (by kernel_rfl)
end Go.Proofs.YtfkfbomllkpjjaaDoor.bigReads
