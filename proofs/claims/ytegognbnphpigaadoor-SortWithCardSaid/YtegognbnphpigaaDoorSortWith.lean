/-
  THE STATEMENT SortWith IS PROVED: for every environment and every variable (the listed tables holding what the program's text lays, tied by the card), the law returns true and its arguments read as before.
-/
import Derived.Test.YtegognbnphpigaaDoorCards
import Derived.Test.YtegognbnphpigaaDoorTie
import Derived.Test.YtegognbnphpigaaDoorSoLaid
import Derived.Test.YtegognbnphpigaaDoorSoS
namespace Go.Proofs.YtegognbnphpigaaDoor.sortWith
open Go.ChangeShapes Go.WideShapes Go.ChangeAt Go.RowKit
open Go.ChangeMaps (open_string shut_string)

set_option maxRecDepth 100000 in
set_option maxHeartbeats 8000000 in
theorem walk (A : Option Addr) (n c : Nat) (B : Option Addr) (m d : Nat) (C : Option Addr) (p q : Nat) (v : En) (x y : ByteArray) (w : World) (henv : Env w) (ha : Vs w A n c v.vars) (hb : Ys w B m d v.syms) (hc : Hs w C p q v.holes) : Calls Tryd.prog 7 #[.agg #[.slice A n c, .slice B m d, .slice C p q], .agg #[.string x, .string y]] w fun e w' => e = .returned (.bool true) ∧ Below w.heap.size w w' := by
  have HB0 : Hid (Below w.heap.size w w) := Below.refl _ _
  have HE0 := Lib.hid henv
  have HV_0 := Lib.hid ha
  have HY_0 := Lib.hid hb
  have HH_0 := Lib.hid hc
  clear henv ha hb hc
  have HB1 : Hid (Below w.heap.size w (w.alloc (.cells #[.slice A n c, .slice B m d, .slice C p q] 36))) := nbelow_on HB0.out (below_alloc _)
  have HE1 : Hid (Env (w.alloc (.cells #[.slice A n c, .slice B m d, .slice C p q] 36))) := HE0.out.below (below_alloc _)
  have HV_1 := Lib.hid (HV_0.out.below (below_alloc (w := w) (.cells #[.slice A n c, .slice B m d, .slice C p q] 36)))
  have HY_1 := Lib.hid (HY_0.out.below (below_alloc (w := w) (.cells #[.slice A n c, .slice B m d, .slice C p q] 36)))
  have HH_1 := Lib.hid (HH_0.out.below (below_alloc (w := w) (.cells #[.slice A n c, .slice B m d, .slice C p q] 36)))
  clear HV_0 HY_0 HH_0
  have K0_1 : Hid (Bk 36 (w.alloc (.cells #[.slice A n c, .slice B m d, .slice C p q] 36)) (w.heap.size) #[.slice A n c, .slice B m d, .slice C p q]) := Bk.at _ (by simp)
  have HB2 : Hid (Below w.heap.size w ((w.alloc (.cells #[.slice A n c, .slice B m d, .slice C p q] 36)).alloc (.cells #[.string x, .string y] 62))) := nbelow_on HB1.out (below_alloc _)
  have HE2 : Hid (Env ((w.alloc (.cells #[.slice A n c, .slice B m d, .slice C p q] 36)).alloc (.cells #[.string x, .string y] 62))) := HE1.out.below (below_alloc _)
  have HV_2 := Lib.hid (HV_1.out.below (below_alloc (w := (w.alloc (.cells #[.slice A n c, .slice B m d, .slice C p q] 36))) (.cells #[.string x, .string y] 62)))
  have HY_2 := Lib.hid (HY_1.out.below (below_alloc (w := (w.alloc (.cells #[.slice A n c, .slice B m d, .slice C p q] 36))) (.cells #[.string x, .string y] 62)))
  have HH_2 := Lib.hid (HH_1.out.below (below_alloc (w := (w.alloc (.cells #[.slice A n c, .slice B m d, .slice C p q] 36))) (.cells #[.string x, .string y] 62)))
  have K0_2 := Lib.hid (K0_1.out.below (below_alloc (w := (w.alloc (.cells #[.slice A n c, .slice B m d, .slice C p q] 36))) (.cells #[.string x, .string y] 62)))
  clear HV_1 HY_1 HH_1 K0_1
  have K1_2 : Hid (Bk 62 ((w.alloc (.cells #[.slice A n c, .slice B m d, .slice C p q] 36)).alloc (.cells #[.string x, .string y] 62)) (w.heap.size + 1) #[.string x, .string y]) := Bk.at _ (by simp)
  have CL := light_any A n c B m d C p q v ((w.alloc (.cells #[.slice A n c, .slice B m d, .slice C p q] 36)).alloc (.cells #[.string x, .string y] 62)) HV_2.out HY_2.out HH_2.out
  cases hl : liB v with
  | false =>
    rw [hl] at CL
    clear hl
    go_enter Tryd.func7, Tryd.ntmps7
    go_wp2_with fail
    (refine (CL).mono ?_); rintro e w3 ⟨rfl, hb⟩
    have HB3 := Lib.hid (nbelow_on HB2.out hb)
    have HE3 := Lib.hid (HE2.out.below hb)
    have HV_3 := Lib.hid (HV_2.out.below hb)
    have HY_3 := Lib.hid (HY_2.out.below hb)
    have HH_3 := Lib.hid (HH_2.out.below hb)
    have K0_3 := Lib.hid (K0_2.out.below hb)
    have K1_3 := Lib.hid (K1_2.out.below hb)
    clear hb HV_2 HY_2 HH_2 K0_2 K1_2 CL
    go_wp2_with fail
    (refine (awake_any w3 HE3.out).mono ?_); rintro e w4 ⟨rfl, hb⟩
    have HB4 := Lib.hid (nbelow_on HB3.out hb)
    have HE4 := Lib.hid (HE3.out.below hb)
    have HV_4 := Lib.hid (HV_3.out.below hb)
    have HY_4 := Lib.hid (HY_3.out.below hb)
    have HH_4 := Lib.hid (HH_3.out.below hb)
    have K0_4 := Lib.hid (K0_3.out.below hb)
    have K1_4 := Lib.hid (K1_3.out.below hb)
    clear hb HV_3 HY_3 HH_3 K0_3 K1_3
    go_wp2_with fail
    go_ret
    exact ⟨rfl, HB4.out⟩
  | true =>
    have HLI := Lib.hid (li_of hl)
    rw [hl] at CL
    clear hl
    cases hs : shB [⟨x.data.toList, y.data.toList⟩] with
    | false =>
      go_enter Tryd.func7, Tryd.ntmps7
      go_wp2_with fail
      (refine (CL).mono ?_); rintro e w3 ⟨rfl, hb⟩
      have HB3 := Lib.hid (nbelow_on HB2.out hb)
      have HE3 := Lib.hid (HE2.out.below hb)
      have HV_3 := Lib.hid (HV_2.out.below hb)
      have HY_3 := Lib.hid (HY_2.out.below hb)
      have HH_3 := Lib.hid (HH_2.out.below hb)
      have K0_3 := Lib.hid (K0_2.out.below hb)
      have K1_3 := Lib.hid (K1_2.out.below hb)
      clear hb HV_2 HY_2 HH_2 K0_2 K1_2 CL
      have a0 := K1_3.out.c 0 (v := .string x) rfl
      have a1 := K1_3.out.c 1 (v := .string y) rfl
      have CS := short_any (some ⟨w3.heap.size, 0, none⟩) 1 1 _ _ (one_vs w3 x y rfl)
      rw [hs] at CS
      have HB4 : Hid (Below w.heap.size w (w3.alloc (.cells #[.string x, .string y] 62))) := nbelow_on HB3.out (below_alloc _)
      have HE4 : Hid (Env (w3.alloc (.cells #[.string x, .string y] 62))) := HE3.out.below (below_alloc _)
      have HV_4 := Lib.hid (HV_3.out.below (below_alloc (w := w3) (.cells #[.string x, .string y] 62)))
      have HY_4 := Lib.hid (HY_3.out.below (below_alloc (w := w3) (.cells #[.string x, .string y] 62)))
      have HH_4 := Lib.hid (HH_3.out.below (below_alloc (w := w3) (.cells #[.string x, .string y] 62)))
      have K0_4 := Lib.hid (K0_3.out.below (below_alloc (w := w3) (.cells #[.string x, .string y] 62)))
      have K1_4 := Lib.hid (K1_3.out.below (below_alloc (w := w3) (.cells #[.string x, .string y] 62)))
      clear HV_3 HY_3 HH_3 K0_3 K1_3
      clear hs
      go_wp2_with fail
      (refine (CS).mono ?_); rintro e wx ⟨rfl, rfl⟩
      clear CS a0 a1
      go_wp2_with fail
      (refine (awake_any (w3.alloc (.cells #[.string x, .string y] 62)) HE4.out).mono ?_); rintro e w5 ⟨rfl, hb⟩
      have HB5 := Lib.hid (nbelow_on HB4.out hb)
      have HE5 := Lib.hid (HE4.out.below hb)
      have HV_5 := Lib.hid (HV_4.out.below hb)
      have HY_5 := Lib.hid (HY_4.out.below hb)
      have HH_5 := Lib.hid (HH_4.out.below hb)
      have K0_5 := Lib.hid (K0_4.out.below hb)
      have K1_5 := Lib.hid (K1_4.out.below hb)
      clear hb HV_4 HY_4 HH_4 K0_4 K1_4
      go_wp2_with fail
      go_ret
      exact ⟨rfl, HB5.out⟩
    | true =>
      have HX3 : Hid (x.size ≤ 300) := by rw [size_list]; exact (shB_at hs (List.mem_singleton.2 rfl)).1
      go_enter Tryd.func7, Tryd.ntmps7
      go_wp2_with fail
      (refine (CL).mono ?_); rintro e w3 ⟨rfl, hb⟩
      have HB3 := Lib.hid (nbelow_on HB2.out hb)
      have HE3 := Lib.hid (HE2.out.below hb)
      have HV_3 := Lib.hid (HV_2.out.below hb)
      have HY_3 := Lib.hid (HY_2.out.below hb)
      have HH_3 := Lib.hid (HH_2.out.below hb)
      have K0_3 := Lib.hid (K0_2.out.below hb)
      have K1_3 := Lib.hid (K1_2.out.below hb)
      clear hb HV_2 HY_2 HH_2 K0_2 K1_2 CL
      have a0 := K1_3.out.c 0 (v := .string x) rfl
      have a1 := K1_3.out.c 1 (v := .string y) rfl
      have CS := short_any (some ⟨w3.heap.size, 0, none⟩) 1 1 _ _ (one_vs w3 x y rfl)
      rw [hs] at CS
      have HB4 : Hid (Below w.heap.size w (w3.alloc (.cells #[.string x, .string y] 62))) := nbelow_on HB3.out (below_alloc _)
      have HE4 : Hid (Env (w3.alloc (.cells #[.string x, .string y] 62))) := HE3.out.below (below_alloc _)
      have HV_4 := Lib.hid (HV_3.out.below (below_alloc (w := w3) (.cells #[.string x, .string y] 62)))
      have HY_4 := Lib.hid (HY_3.out.below (below_alloc (w := w3) (.cells #[.string x, .string y] 62)))
      have HH_4 := Lib.hid (HH_3.out.below (below_alloc (w := w3) (.cells #[.string x, .string y] 62)))
      have K0_4 := Lib.hid (K0_3.out.below (below_alloc (w := w3) (.cells #[.string x, .string y] 62)))
      have K1_4 := Lib.hid (K1_3.out.below (below_alloc (w := w3) (.cells #[.string x, .string y] 62)))
      clear HV_3 HY_3 HH_3 K0_3 K1_3
      clear hs
      go_wp2_with fail
      (refine (CS).mono ?_); rintro e wx ⟨rfl, rfl⟩
      clear CS a0 a1
      have s0 := K0_4.out.c 0 (v := .slice A n c) rfl
      have s1 := K0_4.out.c 1 (v := .slice B m d) rfl
      have s2 := K0_4.out.c 2 (v := .slice C p q) rfl
      have s3 := K1_4.out.c 0 (v := .string x) rfl
      have s4 := K1_4.out.c 1 (v := .string y) rfl
      obtain ⟨W, hW⟩ : ∃ W, (w3.alloc (.cells #[.string x, .string y] 62)) = W := ⟨_, rfl⟩
      rw [hW] at HB4 HE4 HV_4 HY_4 HH_4 K0_4 K1_4 s0 s1 s2 s3 s4
      have HWW := Lib.hid hW
      clear hW
      go_upto_region 3 with fail
      rw [HWW.out]
      clear HWW
      go_region_held3 (fun w' => w'.cell? ⟨w.heap.size, 0, none⟩ = some (.slice A n c) ∧ w'.cell? ⟨w.heap.size, 1, none⟩ = some (.slice B m d) ∧ w'.cell? ⟨w.heap.size, 2, none⟩ = some (.slice C p q) ∧ w'.cell? ⟨w.heap.size + 1, 0, none⟩ = some (.string x) ∧ w'.cell? ⟨w.heap.size + 1, 1, none⟩ = some (.string y)) (go_keep)
        (first
          | (go_at_call 31; refine (with_at W _ (by first | exact Below.refl _ _ | exact (Below.refl _ _).drew) A n c B m d C p q v x y HV_4.out HY_4.out HH_4.out HLI.out HX3.out).mono ?_; rintro e w11 ⟨A1, n1, c1, B1, m1, d1, C1, p1, q1, rfl, u1, u2, u3, hb⟩; have BB1 := Lib.hid hb; have i0 := (K0_4.out.below BB1.out).c 0 (v := .slice A n c) rfl; have i1 := (K0_4.out.below BB1.out).c 1 (v := .slice B m d) rfl; have i2 := (K0_4.out.below BB1.out).c 2 (v := .slice C p q) rfl; have i3 := (K1_4.out.below BB1.out).c 0 (v := .string x) rfl; have i4 := (K1_4.out.below BB1.out).c 1 (v := .string y) rfl; clear hb)
          | (go_at_call 32; refine (rwith_at W _ (by first | exact BB1.out | exact nbelow_on BB1.out (Below.refl _ _).drew) A n c B m d C p q v x y HV_4.out HY_4.out HH_4.out HLI.out A1 n1 c1 B1 m1 d1 C1 p1 q1 ⟨withV v.vars ⟨x.data.toList, y.data.toList⟩, v.syms, v.holes⟩ (by first | exact u1.out | exact u1.out.below (Below.refl _ _).drew) (by first | exact u2.out | exact u2.out.below (Below.refl _ _).drew) (by first | exact u3.out | exact u3.out.below (Below.refl _ _).drew)).mono ?_; rintro e w12 ⟨A2, n2, c2, B2, m2, d2, C2, p2, q2, rfl, t1, t2, t3, hb, r1, r2, r3⟩; have BB2 := Lib.hid hb; have j0 := (K0_4.out.below BB2.out).c 0 (v := .slice A n c) rfl; have j1 := (K0_4.out.below BB2.out).c 1 (v := .slice B m d) rfl; have j2 := (K0_4.out.below BB2.out).c 2 (v := .slice C p q) rfl; have j3 := (K1_4.out.below BB2.out).c 0 (v := .string x) rfl; have j4 := (K1_4.out.below BB2.out).c 1 (v := .string y) rfl; clear hb)
          | (go_at_call 30; refine (same_at W _ (by first | exact BB2.out | exact nbelow_on BB2.out (Below.refl _ _).drew) A1 n1 c1 B1 m1 d1 C1 p1 q1 A2 n2 c2 B2 m2 d2 C2 p2 q2 ⟨withV v.vars ⟨x.data.toList, y.data.toList⟩, v.syms, v.holes⟩ (by first | exact r1.out | exact r1.out.below (Below.refl _ _).drew) (by first | exact r2.out | exact r2.out.below (Below.refl _ _).drew) (by first | exact r3.out | exact r3.out.below (Below.refl _ _).drew) (by first | exact t1.out | exact t1.out.below (Below.refl _ _).drew) (by first | exact t2.out | exact t2.out.below (Below.refl _ _).drew) (by first | exact t3.out | exact t3.out.below (Below.refl _ _).drew)).mono ?_; rintro e w13 ⟨rfl, hb⟩; have BB3 := Lib.hid hb; have k0 := (K0_4.out.below BB3.out).c 0 (v := .slice A n c) rfl; have k1 := (K0_4.out.below BB3.out).c 1 (v := .slice B m d) rfl; have k2 := (K0_4.out.below BB3.out).c 2 (v := .slice C p q) rfl; have k3 := (K1_4.out.below BB3.out).c 0 (v := .string x) rfl; have k4 := (K1_4.out.below BB3.out).c 1 (v := .string y) rfl; clear hb)
          | (go_at_call 11; refine (awake_at W _ (by first | exact BB3.out | exact nbelow_on BB3.out (Below.refl _ _).drew) HE4.out).mono ?_; rintro e w14 ⟨rfl, hb⟩; have BB4 := Lib.hid hb; have l0 := (K0_4.out.below BB4.out).c 0 (v := .slice A n c) rfl; have l1 := (K0_4.out.below BB4.out).c 1 (v := .slice B m d) rfl; have l2 := (K0_4.out.below BB4.out).c 2 (v := .slice C p q) rfl; have l3 := (K1_4.out.below BB4.out).c 0 (v := .string x) rfl; have l4 := (K1_4.out.below BB4.out).c 1 (v := .string y) rfl; clear hb))
      all_goals
        go_wp2_with fail
        go_ret
        exact ⟨rfl, nbelow_on HB4.out BB4.out⟩

set_option maxRecDepth 100000 in
theorem contract (H : Type) (enc : TypeId × Value → H) (W : World) (base : Nat) (args : Array Value) (ds gs : List (DataW H)) (before : List MemPlace)
    (hval : ∀ (j : Nat) t v, Tryd.f7.params[j]? = some t → args[j]? = some v → Value.okWide Tryd.prog W .any base t v)
    (hW : DataW.Whole enc Tryd.prog Tryd.f7.params.toList Rows.sortWithSpec.vars false W args.toList ds gs before) (hL : laidMetH Tryd.prog Rows.sortWithRow.laid W) (hSh : W.ShapedOpen Tryd.prog) :
    Calls Tryd.prog 7 args W fun e W' => ∃ v, e = .returned v ∧ Rows.sortWithSpec.post enc Tryd.prog Tryd.f7 false true false false W args v W' := by
  have hW' := hW
  obtain ⟨p, q, hA0, hV, rfl, hfz, hnd⟩ := hW
  have hA : DataW.TrodAll enc Tryd.prog W 0 (fun _ => true) true Tryd.f7.params.toList args.toList ds p := hA0
  have hlt : ∀ x ∈ p, x.block < W.heap.size := fun x hx => hW'.lt x (by simp [hx])
  have hAll := hA
  rw [Tryd.params7] at hA hval
  obtain ⟨v0, vs0, d0, ds0, p0, q0, hargs, rfl, rfl, h0, r0⟩ := trodAll_cons hA
  obtain ⟨v1, vs1, d1, ds1, p1, q1, rfl, rfl, rfl, h1, r1⟩ := trodAll_cons r0
  obtain ⟨rfl, rfl, rfl⟩ := trodAll_nil r1
  obtain rfl : args = #[v0, v1] := by cases args; simp_all
  obtain ⟨rfl, rfl⟩ := trodVars_none hV
  obtain ⟨A1, n1, c1, B1, m1, d1', C1, p1', q1', e1, rfl, ga1, gb1, gc1⟩ := open_env (hval 0 36 v0 rfl rfl) h0
  obtain ⟨x2, y2, rfl⟩ := open_varv (hval 1 62 v1 rfl rfl) h1
  refine (walk A1 n1 c1 B1 m1 d1' C1 p1' q1' e1 x2 y2 W (env_of_laid hL hSh) ga1 gb1 gc1).mono fun e W' ⟨he, hg⟩ => ?_
  subst he
  refine ⟨_, rfl, _, _, _, [], _, [], hW', trodAll_mk1 (shut_bool Tryd.underlying4 _), trodAll_below hg (fun t ht => ?_) hAll hlt, rfl, hg.frame _, fun h => by cases h⟩
  rw [Tryd.params7] at ht
  simp only [List.mem_cons, List.not_mem_nil, or_false] at ht
  rcases ht with rfl | rfl
  · exact read_env
  · exact read_var

set_option maxRecDepth 100000 in
theorem reads (os : Os) {H : Type} (enc : TypeId × Value → H) : ∃ places, DataW.whole enc Tryd.prog ((World.laidAll Tryd.prog os laidNames).forCall (fun _ _ => 0) ⟨#[], #[Value.agg #[.slice none 0 0, .slice none 0 0, .slice none 0 0], Value.agg #[.string ByteArray.empty, .string ByteArray.empty]], []⟩).memory Tryd.f7.params.toList Rows.sortWithSpec.vars false #[Value.agg #[.slice none 0 0, .slice none 0 0, .slice none 0 0], Value.agg #[.string ByteArray.empty, .string ByteArray.empty]].toList 8 = some ([.agg [.nil, .nil, .nil], .agg [.lit (.string []), .lit (.string [])]], [], places) :=
  ⟨[], by kernel_rfl⟩

set_option maxRecDepth 100000 in
theorem lifted (os : Os) (started : os.Started) (H : Type) (enc : TypeId × Value → H) (F : Stop.Interp) :
    ReturnsInHanded {} Tryd.checked os 7 .any ((OpenSpec.ofChange Rows.sortWithSpec).preRow enc Tryd.prog Tryd.f7 Rows.sortWithRow.domain false Rows.sortWithRow.laid) (((OpenSpec.ofChange Rows.sortWithSpec).at F).post enc Tryd.prog Tryd.f7 false true false false) := by
  obtain ⟨places, hx⟩ := reads os enc
  refine returnsInHanded_of_row (C := Tryd.checked) (s := OpenSpec.ofChange Rows.sortWithSpec) own started (by kernel_rfl) Tryd.func7
    (witness_row_at (enc := enc) (C := Tryd.checked) false (World.laidAll Tryd.prog os laidNames) #[Value.agg #[.slice none 0 0, .slice none 0 0, .slice none 0 0], Value.agg #[.string ByteArray.empty, .string ByteArray.empty]] rfl (by kernel_rfl) (by kernel_rfl) (by kernel_rfl)
      (OpenSpec.preRow_of_cond 8 hx (by kernel_rfl) (fun k hk => by cases hk) (by kernel_rfl) (laid_met os _))) ?_
  intro W base args ds gs before hval hW _ _ _ hL hSh _
  exact contract H enc W base args ds gs before hval hW hL hSh

theorem said : Rows.SortWithSaid :=
  OpenClaim.holds_of_cond 7 Tryd.f7 rfl rfl rfl rfl rfl rfl rfl ⟨rfl, rfl, rfl, rfl, rfl⟩ rfl rfl rfl rfl rfl (by kernel_rfl) Tryd.func7 (by kernel_rfl)
    (of_decide_eq_true (by kernel_rfl)) (by unfold Func.isWrapper; first | (rw [if_pos (by decide +kernel)]; kernel_rfl) | (rw [if_neg (by decide +kernel)]; exact ⟨rfl, rfl⟩))
    (fun os started H enc _ F => by rw [OpenClaim.pre_eq_preRow]; exact lifted os started H enc F)

theorem plain (f : FuncId) (fn : Func) (hf : Tryd.pinned.checked.prog.funcNamed "liquidcheck/liquidchecklaw06.SortWith" = some f) (hfn : Tryd.pinned.checked.prog.funcs[f]? = some fn) :
    false = Tryd.pinned.checked.prog.looks [] ∧ ∀ (j : Nat) t, fn.params[j]? = some t → Tryd.pinned.checked.prog.wantsStandIn t = false := by
  obtain rfl : f = 7 := Option.some.inj ((show Tryd.prog.funcNamed "liquidcheck/liquidchecklaw06.SortWith" = some 7 by kernel_rfl).symm.trans hf) |>.symm
  obtain rfl : fn = Tryd.f7 := (Option.some.inj (Tryd.func7.symm.trans hfn)).symm
  refine ⟨by kernel_rfl, fun j t ht => ?_⟩
  rw [Tryd.params7] at ht
  have hm := Array.mem_of_getElem? ht
  simp only [List.mem_toArray, List.mem_cons, List.not_mem_nil, or_false] at hm
  rcases hm with rfl | rfl
  · exact (show Tryd.prog.wantsStandIn 36 = false by kernel_rfl)
  · exact (show Tryd.prog.wantsStandIn 62 = false by kernel_rfl)

theorem card : Rows.SortWithCardSaid :=
  Claim7.holds_tied_plain_at .later [] _ _ _ _ said (fun _ h => by cases h) (by kernel_rfl) (fun _ h => by cases h) sortWith_row_tie rfl ⟨rfl, rfl⟩ (by kernel_rfl) rfl plain (by kernel_rfl)
end Go.Proofs.YtegognbnphpigaaDoor.sortWith
