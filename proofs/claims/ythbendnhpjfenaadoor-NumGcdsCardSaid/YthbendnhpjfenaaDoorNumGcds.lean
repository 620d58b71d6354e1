/-
  THE STATEMENT NumGcds IS PROVED: for every three ints (the listed library tables holding what the program's text lays, tied by the card), the law returns true and its arguments read as before.
-/
import Derived.Test.YthbendnhpjfenaaDoorCards
import Derived.Test.YthbendnhpjfenaaDoorTie
import Derived.Test.YthbendnhpjfenaaDoorLaid
namespace Go.Proofs.YthbendnhpjfenaaDoor.numGcds
open Go.ChangeShapes Go.WideShapes Go.ChangeAt Go.RowKit

theorem mag_nat {n : Int} (h : -9223372036854775808 < n) : (mag n).toNat = n.natAbs := by
  unfold mag; rw [if_neg (by omega)]; split <;> omega
theorem gcd_nat {a b : Int} (ha : -9223372036854775808 < a) (hb : -9223372036854775808 < b) : gcdV a b = (Nat.gcd a.natAbs b.natAbs : Nat) := by
  unfold gcdV; rw [mag_nat ha, mag_nat hb]
theorem gcd_swap (a b : Int) (w : World) (h1 : -9223372036854775808 ≤ a) (h2 : a ≤ 9223372036854775807) (h3 : -9223372036854775808 ≤ b) (h4 : b ≤ 9223372036854775807) :
    Calls Tryd.prog 22 #[.int .i64 b, .int .i64 a] w fun e w' => e = .returned (.int .i64 (gcdV a b)) ∧ w = w' := by
  have e : gcdV b a = gcdV a b := by unfold gcdV; rw [Nat.gcd_comm]
  have := gcd_any b a w h3 h4 h1 h2
  rwa [e] at this
theorem facts (a b d : Int) (ha : -9223372036854775808 < a) (hb : -9223372036854775808 < b) (hz : ¬ (a = 0 ∧ b = 0)) (hd : 1 ≤ d) :
    1 ≤ gcdV a b ∧ (a.tmod (gcdV a b) != 0) = false ∧ (b.tmod (gcdV a b) != 0) = false ∧ ((a.tmod d != 0) = false → (b.tmod d != 0) = false → (gcdV a b % d == 0) = true) := by
  rw [gcd_nat ha hb]
  have hpos : 0 < Nat.gcd a.natAbs b.natAbs := by
    rcases Nat.eq_zero_or_pos (Nat.gcd a.natAbs b.natAbs) with h | h
    · rw [Nat.gcd_eq_zero_iff] at h
      exact absurd ⟨by omega, by omega⟩ hz
    · exact h
  refine ⟨by omega, ?_, ?_, fun h1 h2 => ?_⟩
  · have : a.tmod (Nat.gcd a.natAbs b.natAbs : Nat) = 0 := Int.tmod_eq_zero_of_dvd (Int.ofNat_dvd_left.2 (Nat.gcd_dvd_left _ _))
    simpa using this
  · have : b.tmod (Nat.gcd a.natAbs b.natAbs : Nat) = 0 := Int.tmod_eq_zero_of_dvd (Int.ofNat_dvd_left.2 (Nat.gcd_dvd_right _ _))
    simpa using this
  · obtain ⟨n, rfl⟩ : ∃ n : Nat, d = n := ⟨d.toNat, by omega⟩
    have k1 : a.tmod n = 0 := by simpa using h1
    have k2 : b.tmod n = 0 := by simpa using h2
    have l1 : n ∣ a.natAbs := Int.ofNat_dvd_left.1 (Int.dvd_of_tmod_eq_zero k1)
    have l2 : n ∣ b.natAbs := Int.ofNat_dvd_left.1 (Int.dvd_of_tmod_eq_zero k2)
    have l3 : (n : Int) ∣ (Nat.gcd a.natAbs b.natAbs : Nat) := Int.ofNat_dvd.2 (Nat.dvd_gcd l1 l2)
    rw [beq_iff_eq]; exact Int.emod_eq_zero_of_dvd l3

theorem gcd_top (a b : Int) (a1 : -9223372036854775808 ≤ a) (a2 : a ≤ 9223372036854775807) (b1 : -9223372036854775808 ≤ b) (b2 : b ≤ 9223372036854775807) : gcdV a b ≤ 9223372036854775807 := by
  obtain ⟨m1, m2⟩ := mag_in a1 a2
  obtain ⟨m3, m4⟩ := mag_in b1 b2
  unfold gcdV
  rcases Nat.eq_zero_or_pos (mag a).toNat with h | h
  · rw [h, Nat.gcd_zero_left]; omega
  · have := Nat.gcd_le_left (mag b).toNat h
    omega

set_option maxHeartbeats 2000000 in
theorem walk (a b d : Int) (w : World) (htab : Tab w) (w0 : (Lit.int .i64 a).wf = true) (w1 : (Lit.int .i64 b).wf = true) : Calls Tryd.prog 8 #[.int .i64 a, .int .i64 b, .int .i64 d] w fun e w' => e = .returned (.bool true) ∧ Below w.heap.size w w' := by
  have H0 := Lib.hid htab
  obtain ⟨a1, a2⟩ := bounds_i64 w0
  obtain ⟨b1, b2⟩ := bounds_i64 w1
  clear htab w0 w1
  cases c1 : decide (a < -1099511627776) with
  | true =>
    go_enter Tryd.func8, Tryd.ntmps8
    go_wp2_with fail
    (refine (alive_any _ H0.out).mono ?_; rintro e w1 ⟨rfl, hb⟩)
    have B := Lib.hid hb
    clear hb
    go_wp2_with fail
    go_ret
    exact ⟨rfl, B.out⟩
  | false =>
    cases c2 : decide (1099511627776 < a) with
    | true =>
      go_enter Tryd.func8, Tryd.ntmps8
      go_wp2_with fail
      (refine (alive_any _ H0.out).mono ?_; rintro e w1 ⟨rfl, hb⟩)
      have B := Lib.hid hb
      clear hb
      go_wp2_with fail
      go_ret
      exact ⟨rfl, B.out⟩
    | false =>
      cases c3 : decide (b < -1099511627776) with
      | true =>
        go_enter Tryd.func8, Tryd.ntmps8
        go_wp2_with fail
        (refine (alive_any _ H0.out).mono ?_; rintro e w1 ⟨rfl, hb⟩)
        have B := Lib.hid hb
        clear hb
        go_wp2_with fail
        go_ret
        exact ⟨rfl, B.out⟩
      | false =>
        cases c4 : decide (1099511627776 < b) with
        | true =>
          go_enter Tryd.func8, Tryd.ntmps8
          go_wp2_with fail
          (refine (alive_any _ H0.out).mono ?_; rintro e w1 ⟨rfl, hb⟩)
          have B := Lib.hid hb
          clear hb
          go_wp2_with fail
          go_ret
          exact ⟨rfl, B.out⟩
        | false =>
          cases c5 : (a == 0) with
          | true =>
            cases c7 : (b == 0) with
            | true =>
              go_enter Tryd.func8, Tryd.ntmps8
              go_wp2_with fail
              (refine (alive_any _ H0.out).mono ?_; rintro e w1 ⟨rfl, hb⟩)
              have B := Lib.hid hb
              clear hb
              go_wp2_with fail
              go_ret
              exact ⟨rfl, B.out⟩
            | false =>
              cases c6 : decide (d < 1) with
              | true =>
                go_enter Tryd.func8, Tryd.ntmps8
                go_wp2_with fail
                (refine (alive_any _ H0.out).mono ?_; rintro e w1 ⟨rfl, hb⟩)
                have B := Lib.hid hb
                clear hb
                go_wp2_with fail
                go_ret
                exact ⟨rfl, B.out⟩
              | false =>
                have hd : 1 ≤ d := by have := of_decide_eq_false c6; omega
                have F := Lib.hid (facts a b d (by have := of_decide_eq_false c1; omega) (by have := of_decide_eq_false c3; omega) (by simp_all) hd)
                have g1 := F.out.1
                have g2 := F.out.2.1
                have g3 := F.out.2.2.1
                have gb : gcdV a b ≤ 9223372036854775807 := gcd_top a b a1 a2 b1 b2
                cases e1 : (a.tmod d != 0) with
                | true =>
                  go_enter Tryd.func8, Tryd.ntmps8
                  go_wp2_with fail
                  (refine (gcd_any _ _ _ a1 a2 b1 b2).mono ?_; rintro e w' ⟨rfl, rfl⟩)
                  go_wp2_with fail
                  (refine (gcd_swap _ _ _ a1 a2 b1 b2).mono ?_; rintro e w' ⟨rfl, rfl⟩)
                  go_wp2_with fail
                  (refine (alive_any _ H0.out).mono ?_; rintro e w1 ⟨rfl, hb⟩)
                  have B := Lib.hid hb
                  clear hb
                  go_wp2_with fail
                  go_ret
                  exact ⟨rfl, B.out⟩
                | false =>
                  cases e2 : (b.tmod d != 0) with
                  | true =>
                    go_enter Tryd.func8, Tryd.ntmps8
                    go_wp2_with fail
                    (refine (gcd_any _ _ _ a1 a2 b1 b2).mono ?_; rintro e w' ⟨rfl, rfl⟩)
                    go_wp2_with fail
                    (refine (gcd_swap _ _ _ a1 a2 b1 b2).mono ?_; rintro e w' ⟨rfl, rfl⟩)
                    go_wp2_with fail
                    (refine (alive_any _ H0.out).mono ?_; rintro e w1 ⟨rfl, hb⟩)
                    have B := Lib.hid hb
                    clear hb
                    go_wp2_with fail
                    go_ret
                    exact ⟨rfl, B.out⟩
                  | false =>
                    have g4 := F.out.2.2.2 e1 e2
                    go_enter Tryd.func8, Tryd.ntmps8
                    go_wp2_with fail
                    (refine (gcd_any _ _ _ a1 a2 b1 b2).mono ?_; rintro e w' ⟨rfl, rfl⟩)
                    go_wp2_with fail
                    (refine (gcd_swap _ _ _ a1 a2 b1 b2).mono ?_; rintro e w' ⟨rfl, rfl⟩)
                    go_wp2_with fail
                    (refine (alive_any _ H0.out).mono ?_; rintro e w1 ⟨rfl, hb⟩)
                    have B := Lib.hid hb
                    clear hb
                    go_wp2_with fail
                    go_ret
                    exact ⟨rfl, B.out⟩
          | false =>
            cases c6 : decide (d < 1) with
            | true =>
              go_enter Tryd.func8, Tryd.ntmps8
              go_wp2_with fail
              (refine (alive_any _ H0.out).mono ?_; rintro e w1 ⟨rfl, hb⟩)
              have B := Lib.hid hb
              clear hb
              go_wp2_with fail
              go_ret
              exact ⟨rfl, B.out⟩
            | false =>
              have hd : 1 ≤ d := by have := of_decide_eq_false c6; omega
              have F := Lib.hid (facts a b d (by have := of_decide_eq_false c1; omega) (by have := of_decide_eq_false c3; omega) (by simp_all) hd)
              have g1 := F.out.1
              have g2 := F.out.2.1
              have g3 := F.out.2.2.1
              have gb : gcdV a b ≤ 9223372036854775807 := gcd_top a b a1 a2 b1 b2
              cases e1 : (a.tmod d != 0) with
              | true =>
                go_enter Tryd.func8, Tryd.ntmps8
                go_wp2_with fail
                (refine (gcd_any _ _ _ a1 a2 b1 b2).mono ?_; rintro e w' ⟨rfl, rfl⟩)
                go_wp2_with fail
                (refine (gcd_swap _ _ _ a1 a2 b1 b2).mono ?_; rintro e w' ⟨rfl, rfl⟩)
                go_wp2_with fail
                (refine (alive_any _ H0.out).mono ?_; rintro e w1 ⟨rfl, hb⟩)
                have B := Lib.hid hb
                clear hb
                go_wp2_with fail
                go_ret
                exact ⟨rfl, B.out⟩
              | false =>
                cases e2 : (b.tmod d != 0) with
                | true =>
                  go_enter Tryd.func8, Tryd.ntmps8
                  go_wp2_with fail
                  (refine (gcd_any _ _ _ a1 a2 b1 b2).mono ?_; rintro e w' ⟨rfl, rfl⟩)
                  go_wp2_with fail
                  (refine (gcd_swap _ _ _ a1 a2 b1 b2).mono ?_; rintro e w' ⟨rfl, rfl⟩)
                  go_wp2_with fail
                  (refine (alive_any _ H0.out).mono ?_; rintro e w1 ⟨rfl, hb⟩)
                  have B := Lib.hid hb
                  clear hb
                  go_wp2_with fail
                  go_ret
                  exact ⟨rfl, B.out⟩
                | false =>
                  have g4 := F.out.2.2.2 e1 e2
                  go_enter Tryd.func8, Tryd.ntmps8
                  go_wp2_with fail
                  (refine (gcd_any _ _ _ a1 a2 b1 b2).mono ?_; rintro e w' ⟨rfl, rfl⟩)
                  go_wp2_with fail
                  (refine (gcd_swap _ _ _ a1 a2 b1 b2).mono ?_; rintro e w' ⟨rfl, rfl⟩)
                  go_wp2_with fail
                  (refine (alive_any _ H0.out).mono ?_; rintro e w1 ⟨rfl, hb⟩)
                  have B := Lib.hid hb
                  clear hb
                  go_wp2_with fail
                  go_ret
                  exact ⟨rfl, B.out⟩

theorem contract (H : Type) (enc : TypeId × Value → H) (W : World) (base : Nat) (args : Array Value) (ds gs : List (DataW H)) (before : List MemPlace)
    (hval : ∀ (j : Nat) t v, Tryd.f8.params[j]? = some t → args[j]? = some v → Value.okWide Tryd.prog W .any base t v)
    (hW : DataW.Whole enc Tryd.prog Tryd.f8.params.toList Rows.numGcdsSpec.vars false W args.toList ds gs before) (hL : laidMetH Tryd.prog Rows.numGcdsRow.laid W) :
    Calls Tryd.prog 8 args W fun e W' => ∃ v, e = .returned v ∧ Rows.numGcdsSpec.post enc Tryd.prog Tryd.f8 false true false false W args v W' := by
  have hW' := hW
  obtain ⟨p, q, hA0, hV, rfl, hfz, hnd⟩ := hW
  have hA : DataW.TrodAll enc Tryd.prog W 0 (fun _ => true) true Tryd.f8.params.toList args.toList ds p := hA0
  rw [Tryd.params8] at hA hval
  obtain ⟨v0, vs0, d0, ds0, p0, q0, hargs, rfl, rfl, h0, r0⟩ := trodAll_cons hA
  obtain ⟨v1, vs1, d1, ds1, p1, q1, rfl, rfl, rfl, h1, r1⟩ := trodAll_cons r0
  obtain ⟨v2, vs2, d2, ds2, p2, q2, rfl, rfl, rfl, h2, r2⟩ := trodAll_cons r1
  obtain ⟨rfl, rfl, rfl⟩ := trodAll_nil r2
  obtain rfl : args = #[v0, v1, v2] := by cases args; simp_all
  obtain ⟨rfl, rfl⟩ := trodVars_none hV
  obtain ⟨a, rfl, rfl, rfl, w0⟩ := open_int Tryd.underlying3 (hval 0 3 v0 rfl rfl) h0
  obtain ⟨b, rfl, rfl, rfl, w1⟩ := open_int Tryd.underlying3 (hval 1 3 v1 rfl rfl) h1
  obtain ⟨d, rfl, rfl, rfl, w2⟩ := open_int Tryd.underlying3 (hval 2 3 v2 rfl rfl) h2
  clear hA0
  simp only [List.append_nil] at hW'
  refine (walk a b d W (tab_of_laid hL) w0 w1).mono fun e W' ⟨he, hg⟩ => ?_
  subst he
  exact ⟨_, rfl, _, _, _, [], [], [], hW', trodAll_mk1 (shut_bool Tryd.underlying4 _), (trodAll_cons_mk (shut_int Tryd.underlying3 w0) (trodAll_cons_mk (shut_int Tryd.underlying3 w1) (trodAll_cons_mk (shut_int Tryd.underlying3 w2) trodAll_mk0))), rfl, hg.frame _, fun h => by cases h⟩

theorem reads (os : Os) {H : Type} (enc : TypeId × Value → H) : ∃ places, DataW.whole enc Tryd.prog ((World.doorLaid Tryd.prog 24 os).forCall (fun _ _ => 0) ⟨#[], #[.int .i64 0, .int .i64 0, .int .i64 0], []⟩).memory Tryd.f8.params.toList Rows.numGcdsSpec.vars false #[Value.int .i64 0, Value.int .i64 0, Value.int .i64 0].toList 8 = some ([.lit (.int .i64 0), .lit (.int .i64 0), .lit (.int .i64 0)], [], places) :=
  ⟨[], by kernel_rfl⟩

set_option maxRecDepth 100000 in
theorem lifted (os : Os) (started : os.Started) (H : Type) (enc : TypeId × Value → H) (F : Stop.Interp) :
    ReturnsInHanded {} Tryd.checked os 8 .any ((OpenSpec.ofChange Rows.numGcdsSpec).preRow enc Tryd.prog Tryd.f8 Rows.numGcdsRow.domain false Rows.numGcdsRow.laid) (((OpenSpec.ofChange Rows.numGcdsSpec).at F).post enc Tryd.prog Tryd.f8 false true false false) := by
  obtain ⟨places, hx⟩ := reads os enc
  refine returnsInHanded_of_row (C := Tryd.checked) (s := OpenSpec.ofChange Rows.numGcdsSpec) own started (by kernel_rfl) Tryd.func8
    (witness_row_at (enc := enc) (C := Tryd.checked) false (World.doorLaid Tryd.prog 24 os) #[.int .i64 0, .int .i64 0, .int .i64 0] rfl (by kernel_rfl) (by kernel_rfl) (by kernel_rfl)
      (OpenSpec.preRow_of_cond 8 hx (by kernel_rfl) (fun k hk => by cases hk) (by kernel_rfl) (laid_met os _))) ?_
  intro W base args ds gs before hval hW _ _ _ hL _ _
  exact contract H enc W base args ds gs before hval hW hL

theorem said : Rows.NumGcdsSaid :=
  OpenClaim.holds_of_cond 8 Tryd.f8 rfl rfl rfl rfl rfl rfl rfl ⟨rfl, rfl, rfl, rfl, rfl⟩ rfl rfl rfl rfl rfl (by kernel_rfl) Tryd.func8 (by kernel_rfl)
    (of_decide_eq_true (by kernel_rfl)) (by unfold Func.isWrapper; first | (rw [if_pos (by decide +kernel)]; kernel_rfl) | (rw [if_neg (by decide +kernel)]; exact ⟨rfl, rfl⟩))
    (fun os started H enc _ F => by rw [OpenClaim.pre_eq_preRow]; exact lifted os started H enc F)

theorem plain (f : FuncId) (fn : Func) (hf : Tryd.pinned.checked.prog.funcNamed "liquidcheck/liquidchecklaw01.NumGcds" = some f) (hfn : Tryd.pinned.checked.prog.funcs[f]? = some fn) :
    false = Tryd.pinned.checked.prog.looks [] ∧ ∀ (j : Nat) t, fn.params[j]? = some t → Tryd.pinned.checked.prog.wantsStandIn t = false := by
  obtain rfl : f = 8 := Option.some.inj ((show Tryd.prog.funcNamed "liquidcheck/liquidchecklaw01.NumGcds" = some 8 by kernel_rfl).symm.trans hf) |>.symm
  obtain rfl : fn = Tryd.f8 := (Option.some.inj (Tryd.func8.symm.trans hfn)).symm
  refine ⟨by kernel_rfl, fun j t ht => ?_⟩
  rw [Tryd.params8] at ht
  have hm : t ∈ [3] := by simpa using Array.mem_of_getElem? ht
  obtain rfl : t = 3 := by simpa using hm
  exact (show Tryd.prog.wantsStandIn 3 = false by kernel_rfl)

theorem card : Rows.NumGcdsCardSaid :=
  Claim7.holds_tied_plain_at .later [] _ _ _ _ said (fun _ h => by cases h) (by kernel_rfl) (fun _ h => by cases h) numGcds_row_tie rfl ⟨rfl, rfl⟩ (by kernel_rfl) rfl plain (by kernel_rfl)
end Go.Proofs.YthbendnhpjfenaaDoor.numGcds
