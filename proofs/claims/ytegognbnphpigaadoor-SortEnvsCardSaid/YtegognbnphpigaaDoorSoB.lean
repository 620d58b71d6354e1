/-
  Sym of sort, and of the reference.
-/
import Derived.Test.YtegognbnphpigaaDoorSoA
namespace Go.Proofs.YtegognbnphpigaaDoor
open Go.RowKit

theorem symI_name {y : Sy} (h : coreB y.name = false) : symI y = 3 := if_pos h
theorem symI_arity {y : Sy} (h : coreB y.name = true) (h2 : y.args.length < 1 ∨ 6 < y.args.length) : symI y = 13 := by
  unfold symI; rw [if_neg (by rw [h]; decide), if_pos h2]
theorem symI_bad {y : Sy} (h : coreB y.name = true) (h2 : ¬ (y.args.length < 1 ∨ 6 < y.args.length)) (h3 : y.args.all sortB = false) : symI y = 11 := by
  unfold symI; rw [if_neg (by rw [h]; decide), if_neg h2, if_pos h3]
theorem symI_end {y : Sy} (h : coreB y.name = true) (h2 : ¬ (y.args.length < 1 ∨ 6 < y.args.length)) (h3 : y.args.all sortB = true) : symI y = sortI y.res := by
  unfold symI; rw [if_neg (by rw [h]; decide), if_neg h2, if_neg (by rw [h3]; decide)]
theorem sortI_yes {l : Txt} (h : sortB l = true) : sortI l = 0 := by unfold sortI; rw [h]; rfl
theorem sortI_no {l : Txt} (h : sortB l = false) : sortI l = 11 := by unfold sortI; rw [h]; rfl
theorem belowD2 {B : Nat} {w w' : World} (h : Below B w w') : w.heap.size ≤ w'.heap.size := h.size
set_option maxRecDepth 100000 in
set_option maxHeartbeats 2000000 in
theorem sym_any (x y : ByteArray) (A : Option Addr) (n c : Nat) (ls : List Txt) (w : World) (henv : Env w) (hs : Ss w A n c ls) : Calls Tryd.prog 14 #[.agg #[.string x, .slice A n c, .string y]] w fun e w' => e = .returned (.int .i64 (symI (⟨x.data.toList, ls, y.data.toList⟩ : Sy))) ∧ Below w.heap.size w w' := by
  have HS := Lib.hid hs
  have HL := Lib.hid hs.len
  have HE := Lib.hid henv
  have h47 : n ≤ 9223372036854775807 := Nat.le_trans hs.cap hs.top
  have BK := Lib.hid (Bk.new 25 w #[.string x, .slice A n c, .string y])
  have HB0 : Hid (Below w.heap.size w (w.alloc (.cells #[.string x, .slice A n c, .string y] 25))) := below_alloc _
  clear hs henv
  cases hc : coreB x.data.toList with
  | false =>
    have HC := Lib.hid hc
    have HR : Hid (symI (⟨x.data.toList, ls, y.data.toList⟩ : Sy) = 3) := symI_name hc
    clear hc
    go_enter Tryd.func14, Tryd.ntmps14
    go_wp2_with fail
    (refine (core_any x _ (HE.out.below HB0.out)).mono ?_); rintro e w1 ⟨rfl, hb⟩
    rw [HC.out, show errI false = 3 from rfl]
    go_wp2_with fail
    go_ret
    exact ⟨nret_int HR.out.symm, nbelow_on HB0.out hb⟩
  | true =>
    have HC := Lib.hid hc
    by_cases h0 : n < 1
    · have q0 : (n : Int) < 1 := by omega
      have HR : Hid (symI (⟨x.data.toList, ls, y.data.toList⟩ : Sy) = 13) := symI_arity hc (.inl (by show ls.length < 1; rw [HL.out]; exact h0))
      clear hc h0
      go_enter Tryd.func14, Tryd.ntmps14
      go_wp2_with fail
      (refine (core_any x _ (HE.out.below HB0.out)).mono ?_); rintro e w1 ⟨rfl, hb⟩
      rw [HC.out, show errI true = 0 from rfl]
      have BK1 := BK.out.below hb
      have e1 := BK1.c 1 (v := .slice A n c) rfl
      have HB1 := Lib.hid (nbelow_on HB0.out hb)
      clear BK1 hb
      go_wp2_with fail
      go_ret
      exact ⟨nret_int HR.out.symm, HB1.out⟩
    · have q0 : ¬ (n : Int) < 1 := by omega
      by_cases h6 : 6 < n
      · have q6 : (6 : Int) < (n : Int) := by omega
        have HR : Hid (symI (⟨x.data.toList, ls, y.data.toList⟩ : Sy) = 13) := symI_arity hc (.inr (by show 6 < ls.length; rw [HL.out]; exact h6))
        clear hc h0 h6
        go_enter Tryd.func14, Tryd.ntmps14
        go_wp2_with fail
        (refine (core_any x _ (HE.out.below HB0.out)).mono ?_); rintro e w1 ⟨rfl, hb⟩
        rw [HC.out, show errI true = 0 from rfl]
        have BK1 := BK.out.below hb
        have e1 := BK1.c 1 (v := .slice A n c) rfl
        have HB1 := Lib.hid (nbelow_on HB0.out hb)
        clear BK1 hb
        go_wp2_with fail
        go_ret
        exact ⟨nret_int HR.out.symm, HB1.out⟩
      · have q6 : ¬ (6 : Int) < (n : Int) := by omega
        have HN : Hid (¬ (ls.length < 1 ∨ 6 < ls.length)) := by show ¬ _; rw [HL.out]; omega
        have HC1 : Hid (coreB (Sy.name (⟨x.data.toList, ls, y.data.toList⟩ : Sy)) = true) := hc
        clear hc h0 h6
        go_enter Tryd.func14, Tryd.ntmps14
        go_wp2_with fail
        (refine (core_any x _ (HE.out.below HB0.out)).mono ?_); rintro e w1 ⟨rfl, hb⟩
        rw [HC.out, show errI true = 0 from rfl]
        have BK1 := BK.out.below hb
        have e1 := BK1.c 1 (v := .slice A n c) rfl
        have HB1 := Lib.hid (nbelow_on HB0.out hb)
        have HK1 := Lib.hid BK1
        clear BK1 hb
        go_wp2_with fail
        clear e1
        go_loopw [22] (fun iv wr => ∃ k : Nat, k ≤ n ∧ iv = .int .i64 (k : Int) ∧ (ls.take k).all sortB = true ∧ Bk 25 wr w.heap.size #[.string x, .slice A n c, .string y] ∧ Below w.heap.size w wr) (fun iv _ => n - (intOf iv).toNat)
        case atStart => exact ⟨0, Nat.zero_le _, rfl, by simp, HK1.out, HB1.out⟩
        case round =>
          obtain ⟨k, hk, rfl, ha, hbk, hb⟩ := hrel
          have HA := Lib.hid ha
          have HK := Lib.hid hbk
          have HB := Lib.hid hb
          have e1 := hbk.c 1 (v := .slice A n c) rfl
          have e2 := hbk.c 2 (v := .string y) rfl
          have HSR := Lib.hid (HS.out.below hb)
          clear ha hbk hb
          by_cases hlt : k < n
          · obtain ⟨g, o, z, rfl, hg, hcz, hz⟩ := HSR.out.at_ hlt
            have HZ := Lib.hid hz.out
            have HKL : Hid (k < ls.length) := by show k < _; rw [HL.out]; exact hlt
            have q1 : (k : Int) < n := by omega
            clear hz hg
            cases hp : sortB (ls.getD k []) with
            | true =>
              have HP := Lib.hid hp
              clear hp
              go_wp2_with fail
              (refine (check_any z wr (HE.out.below HB.out)).mono ?_); rintro e w2 ⟨rfl, hb⟩
              rw [HZ.out, sortI_yes HP.out]
              have HB2 := Lib.hid (nbelow_on HB.out hb)
              have HK2 := Lib.hid (HK.out.below hb)
              clear hb
              go_wp2_with fail
              go_roundw
              case rel => exact ⟨k + 1, by omega, by go_num, by rw [all_snoc_t HKL.out, HA.out, HP.out]; rfl, HK2.out, HB2.out⟩
              case measure => simp [intOf] <;> omega
            | false =>
              have HP := Lib.hid hp
              clear hp
              go_wp2_with fail
              (refine (check_any z wr (HE.out.below HB.out)).mono ?_); rintro e w2 ⟨rfl, hb⟩
              rw [HZ.out, sortI_no HP.out]
              have HB2 := Lib.hid (nbelow_on HB.out hb)
              clear hb
              go_wp2_with fail
              go_ret
              exact ⟨nret_int (symI_bad HC1.out HN.out (all_bad_t HKL.out HP.out)).symm, HB2.out⟩
          · have hke : k = n := by omega
            subst hke
            have q1 : ¬ (k : Int) < k := by omega
            have HAll : Hid (ls.all sortB = true) := by
              have := HA.out
              rwa [List.take_of_length_le (by rw [HL.out]; exact Nat.le_refl _)] at this
            go_wp2_with fail
            (refine (check_any y wr (HE.out.below HB.out)).mono ?_); rintro e w2 ⟨rfl, hb⟩
            have HB2 := Lib.hid (nbelow_on HB.out hb)
            clear hb
            go_wp2_with fail
            go_ret
            exact ⟨nret_int (symI_end (y := (⟨x.data.toList, ls, y.data.toList⟩ : Sy)) HC1.out HN.out HAll.out).symm, HB2.out⟩
set_option maxRecDepth 100000 in
set_option maxHeartbeats 2000000 in
theorem rsym_any (x y : ByteArray) (A : Option Addr) (n c : Nat) (ls : List Txt) (w : World) (hs : Ss w A n c ls) : Calls Tryd.prog 15 #[.agg #[.string x, .slice A n c, .string y]] w fun e w' => e = .returned (.int .i64 (symI (⟨x.data.toList, ls, y.data.toList⟩ : Sy))) ∧ Below w.heap.size w w' := by
  have HS := Lib.hid hs
  have HL := Lib.hid hs.len

  have h47 : n ≤ 9223372036854775807 := Nat.le_trans hs.cap hs.top
  have BK := Lib.hid (Bk.new 25 w #[.string x, .slice A n c, .string y])
  have HB0 : Hid (Below w.heap.size w (w.alloc (.cells #[.string x, .slice A n c, .string y] 25))) := below_alloc _
  clear hs
  cases hc : coreB x.data.toList with
  | false =>
    have HC := Lib.hid hc
    have HR : Hid (symI (⟨x.data.toList, ls, y.data.toList⟩ : Sy) = 3) := symI_name hc
    clear hc
    go_enter Tryd.func15, Tryd.ntmps15
    go_wp2_with fail
    (refine (rcore_any x _).mono ?_); rintro e w1 ⟨rfl, hb⟩
    rw [HC.out, show errI false = 3 from rfl]
    go_wp2_with fail
    go_ret
    exact ⟨nret_int HR.out.symm, nbelow_on HB0.out hb⟩
  | true =>
    have HC := Lib.hid hc
    by_cases h0 : n < 1
    · have q0 : (n : Int) < 1 := by omega
      have HR : Hid (symI (⟨x.data.toList, ls, y.data.toList⟩ : Sy) = 13) := symI_arity hc (.inl (by show ls.length < 1; rw [HL.out]; exact h0))
      clear hc h0
      go_enter Tryd.func15, Tryd.ntmps15
      go_wp2_with fail
      (refine (rcore_any x _).mono ?_); rintro e w1 ⟨rfl, hb⟩
      rw [HC.out, show errI true = 0 from rfl]
      have BK1 := BK.out.below hb
      have e1 := BK1.c 1 (v := .slice A n c) rfl
      have HB1 := Lib.hid (nbelow_on HB0.out hb)
      clear BK1 hb
      go_wp2_with fail
      go_ret
      exact ⟨nret_int HR.out.symm, HB1.out⟩
    · have q0 : ¬ (n : Int) < 1 := by omega
      by_cases h6 : 6 < n
      · have q6 : (6 : Int) < (n : Int) := by omega
        have HR : Hid (symI (⟨x.data.toList, ls, y.data.toList⟩ : Sy) = 13) := symI_arity hc (.inr (by show 6 < ls.length; rw [HL.out]; exact h6))
        clear hc h0 h6
        go_enter Tryd.func15, Tryd.ntmps15
        go_wp2_with fail
        (refine (rcore_any x _).mono ?_); rintro e w1 ⟨rfl, hb⟩
        rw [HC.out, show errI true = 0 from rfl]
        have BK1 := BK.out.below hb
        have e1 := BK1.c 1 (v := .slice A n c) rfl
        have HB1 := Lib.hid (nbelow_on HB0.out hb)
        clear BK1 hb
        go_wp2_with fail
        go_ret
        exact ⟨nret_int HR.out.symm, HB1.out⟩
      · have q6 : ¬ (6 : Int) < (n : Int) := by omega
        have HN : Hid (¬ (ls.length < 1 ∨ 6 < ls.length)) := by show ¬ _; rw [HL.out]; omega
        have HC1 : Hid (coreB (Sy.name (⟨x.data.toList, ls, y.data.toList⟩ : Sy)) = true) := hc
        clear hc h0 h6
        go_enter Tryd.func15, Tryd.ntmps15
        go_wp2_with fail
        (refine (rcore_any x _).mono ?_); rintro e w1 ⟨rfl, hb⟩
        rw [HC.out, show errI true = 0 from rfl]
        have BK1 := BK.out.below hb
        have e1 := BK1.c 1 (v := .slice A n c) rfl
        have HB1 := Lib.hid (nbelow_on HB0.out hb)
        have HK1 := Lib.hid BK1
        clear BK1 hb
        go_wp2_with fail
        clear e1
        go_loopw [3] (fun iv wr => ∃ k : Nat, k ≤ n ∧ iv = .int .i64 (k : Int) ∧ (ls.take k).all sortB = true ∧ Bk 25 wr w.heap.size #[.string x, .slice A n c, .string y] ∧ Below w.heap.size w wr) (fun iv _ => n - (intOf iv).toNat)
        case atStart => exact ⟨0, Nat.zero_le _, rfl, by simp, HK1.out, HB1.out⟩
        case round =>
          obtain ⟨k, hk, rfl, ha, hbk, hb⟩ := hrel
          have HA := Lib.hid ha
          have HK := Lib.hid hbk
          have HB := Lib.hid hb
          have e1 := hbk.c 1 (v := .slice A n c) rfl
          have e2 := hbk.c 2 (v := .string y) rfl
          have HSR := Lib.hid (HS.out.below hb)
          clear ha hbk hb
          by_cases hlt : k < n
          · obtain ⟨g, o, z, rfl, hg, hcz, hz⟩ := HSR.out.at_ hlt
            have HZ := Lib.hid hz.out
            have HKL : Hid (k < ls.length) := by show k < _; rw [HL.out]; exact hlt
            have q1 : (k : Int) < n := by omega
            clear hz hg
            cases hp : sortB (ls.getD k []) with
            | true =>
              have HP := Lib.hid hp
              clear hp
              go_wp2_with fail
              (refine (rscheck_any z wr).mono ?_); rintro e w2 ⟨rfl, hb⟩
              rw [HZ.out, sortI_yes HP.out]
              have HB2 := Lib.hid (nbelow_on HB.out hb)
              have HK2 := Lib.hid (HK.out.below hb)
              clear hb
              go_wp2_with fail
              go_roundw
              case rel => exact ⟨k + 1, by omega, by go_num, by rw [all_snoc_t HKL.out, HA.out, HP.out]; rfl, HK2.out, HB2.out⟩
              case measure => simp [intOf] <;> omega
            | false =>
              have HP := Lib.hid hp
              clear hp
              go_wp2_with fail
              (refine (rscheck_any z wr).mono ?_); rintro e w2 ⟨rfl, hb⟩
              rw [HZ.out, sortI_no HP.out]
              have HB2 := Lib.hid (nbelow_on HB.out hb)
              clear hb
              go_wp2_with fail
              go_ret
              exact ⟨nret_int (symI_bad HC1.out HN.out (all_bad_t HKL.out HP.out)).symm, HB2.out⟩
          · have hke : k = n := by omega
            subst hke
            have q1 : ¬ (k : Int) < k := by omega
            have HAll : Hid (ls.all sortB = true) := by
              have := HA.out
              rwa [List.take_of_length_le (by rw [HL.out]; exact Nat.le_refl _)] at this
            go_wp2_with fail
            (refine (rscheck_any y wr).mono ?_); rintro e w2 ⟨rfl, hb⟩
            have HB2 := Lib.hid (nbelow_on HB.out hb)
            clear hb
            go_wp2_with fail
            go_ret
            exact ⟨nret_int (symI_end (y := (⟨x.data.toList, ls, y.data.toList⟩ : Sy)) HC1.out HN.out HAll.out).symm, HB2.out⟩
end Go.Proofs.YtegognbnphpigaaDoor
