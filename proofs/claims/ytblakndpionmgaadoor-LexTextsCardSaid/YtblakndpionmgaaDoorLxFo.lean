/-
  few of the law, formed of the reference.
-/
import Derived.Test.YtblakndpionmgaaDoorLxS
import Derived.Test.YtblakndpionmgaaDoorLxE
import Derived.Test.YtblakndpionmgaaDoorLxT
namespace Go.Proofs.YtblakndpionmgaaDoor
open Go.RowKit

def fewT (ts : List Tk) : Bool := decide (ts.length ≤ 200) && ts.all (fun t => decide (t.text.length ≤ 300))
theorem few_facts {ts : List Tk} (h : fewT ts = true) : ts.length ≤ 200 ∧ ∀ t ∈ ts, t.text.length ≤ 300 := by
  unfold fewT at h
  rw [Bool.and_eq_true, decide_eq_true_iff, List.all_eq_true] at h
  exact ⟨h.1, fun t ht => of_decide_eq_true (h.2 t ht)⟩
theorem few_bad {ts : List Tk} {k : Nat} (hk : k < ts.length) (h : 200 ≤ k ∨ 300 < (ts.getD k tk0).text.length) : fewT ts = false := by
  rw [← Bool.not_eq_true]
  intro hf
  obtain ⟨h1, h2⟩ := few_facts hf
  rcases h with h | h
  · omega
  · have := h2 _ (getD_mem_tk hk)
    omega
theorem few_good {ts : List Tk} (h1 : ts.length ≤ 200) (h2 : ∀ j, j < ts.length → (ts.getD j tk0).text.length ≤ 300) : fewT ts = true := by
  unfold fewT
  rw [Bool.and_eq_true, decide_eq_true_iff, List.all_eq_true]
  refine ⟨h1, fun t ht => ?_⟩
  obtain ⟨j, hj, rfl⟩ := List.mem_iff_getElem.1 ht
  have := h2 j hj
  rw [show ts.getD j tk0 = ts[j] from by simp [List.getD, hj]] at this
  exact decide_eq_true this
set_option maxRecDepth 100000 in
set_option maxHeartbeats 2000000 in
theorem fewt_any (A : Option Addr) (n c : Nat) (ts : List Tk) (w : World) (hs : Ts w A n c ts) : Calls Tryd.prog 22 #[.slice A n c] w fun e w' => e = .returned (.bool (fewT ts)) ∧ w = w' := by
  have HTS := Lib.hid hs
  have HL := Lib.hid hs.len
  have h47 : n ≤ 9223372036854775807 := Nat.le_trans hs.cap hs.top
  clear hs
  go_enter Tryd.func22, Tryd.ntmps22
  go_wp2_with fail
  go_loop [3] (fun iv => ∃ k : Nat, k ≤ n ∧ k ≤ 200 ∧ iv = .int .i64 (k : Int) ∧ ∀ j, j < k → (ts.getD j tk0).text.length ≤ 300) (fun iv => n - (intOf iv).toNat)
  case atStart => exact ⟨0, Nat.zero_le _, Nat.zero_le _, rfl, fun j hj => absurd hj (by omega)⟩
  case round =>
    obtain ⟨k, hk, hk2, rfl, ha⟩ := hrel
    have HA := Lib.hid ha
    clear ha
    by_cases hlt : k < n
    · obtain ⟨g, o, x, rfl, -, c0, c1, c2, c3, hx⟩ := HTS.out.at_ hlt
      have hkl : k < ts.length := by rw [HL.out]; exact hlt
      have HKL := Lib.hid hkl
      have hxz : x.size = (ts.getD k tk0).text.length := by rw [size_list, hx.out]
      have r1 : (k : Int) < n := by omega
      clear hx hkl c0 c2 c3
      by_cases h2 : 200 ≤ k
      · have r2 : (200 : Int) ≤ (k : Int) := by omega
        have HF := Lib.hid (few_bad HKL.out (.inl h2))
        clear h2
        go_wp2_with fail
        go_ret
        exact ⟨nret_bool HF.out.symm, rfl⟩
      · have r2 : ¬ (200 : Int) ≤ (k : Int) := by omega
        by_cases h3 : 300 < x.size
        · have r3 : (300 : Int) < (x.size : Int) := by omega
          have HF := Lib.hid (few_bad HKL.out (.inr (by rw [← hxz]; exact h3)))
          clear h2 h3 hxz
          go_wp2_with fail
          go_ret
          exact ⟨nret_bool HF.out.symm, rfl⟩
        · have r3 : ¬ (300 : Int) < (x.size : Int) := by omega
          have HN : Hid (∀ j, j < k + 1 → (ts.getD j tk0).text.length ≤ 300) := by
            intro j hj
            rcases Nat.lt_succ_iff_lt_or_eq.1 hj with h | h
            · exact HA.out j h
            · subst h; omega
          have hk200 : k + 1 ≤ 200 := by omega
          clear h2 h3 hxz
          go_wp2_with fail
          go_round
          case rel => exact ⟨k + 1, by omega, hk200, by go_num, HN.out⟩
          case measure => simp [intOf] <;> omega
    · have hke : k = n := by omega
      subst hke
      have HF : Hid (fewT ts = true) := few_good (by rw [HL.out]; exact hk2) (by rw [HL.out]; exact HA.out)
      go_wp2_with fail
      go_ret
      exact ⟨nret_bool HF.out.symm, rfl⟩
set_option maxRecDepth 100000 in
set_option maxHeartbeats 4000000 in
theorem formed_any (t : Tk) (x : ByteArray) (hx : x.data.toList = t.text) (hl : t.text.length ≤ 300) (w : World) : Calls Tryd.prog 53 #[.agg #[.int .i64 t.kind, .string x, .int .i64 t.n, .int .i64 t.line]] w fun e w' => e = .returned (.bool (fitTk t)) ∧ Below w.heap.size w w' := by
  have hsx : x.size = t.text.length := by rw [size_list, hx]
  have HX := Lib.hid hx
  by_cases h1 : t.line < 1
  · have HF := Lib.hid (fit_low h1)
    clear hx hsx
    have BK := Lib.hid (Bk.new 36 w #[.int .i64 t.kind, .string x, .int .i64 t.n, .int .i64 t.line])
    have HB : Hid (Below w.heap.size w (w.alloc (.cells #[.int .i64 t.kind, .string x, .int .i64 t.n, .int .i64 t.line] 36))) := (Below.refl _ w).alloc (Nat.le_refl _) _
    go_enter Tryd.func53, Tryd.ntmps53
    go_upto_region 1 with fail
    generalize (w.alloc (.cells #[.int .i64 t.kind, .string x, .int .i64 t.n, .int .i64 t.line] 36)) = W0 at *
    have e0 := BK.out.c 0 (v := .int .i64 t.kind) rfl
    have e1 := BK.out.c 1 (v := .string x) rfl
    have e2 := BK.out.c 2 (v := .int .i64 t.n) rfl
    have e3 := BK.out.c 3 (v := .int .i64 t.line) rfl
    go_wp2_with fail
    go_ret
    exact ⟨nret_bool (by rw [HF.out]), HB.out⟩
  · have h2 : ¬ 40000 < t.text.length := by omega
    by_cases h3 : t.kind = 0
    · have HE := Lib.hid (fit_end h1 h2 h3)
      have qk : (t.kind == 0) = true := by rw [h3]; rfl
      by_cases h4 : t.text = []
      · have TB1 : (x.toList == []) = true := by rw [tolist_eq, hx, h4]; rfl
        have TB2 : x.toList.isEmpty = true := by rw [tolist_eq, hx, h4]; rfl
        have H4 := Lib.hid h4
        by_cases h5 : t.n = 0
        · have qn : (t.n == 0) = true := by rw [h5]; rfl
          have H5 := Lib.hid h5
          clear hx hsx h2 h3 h4 h5 hl
          have BK := Lib.hid (Bk.new 36 w #[.int .i64 t.kind, .string x, .int .i64 t.n, .int .i64 t.line])
          have HB : Hid (Below w.heap.size w (w.alloc (.cells #[.int .i64 t.kind, .string x, .int .i64 t.n, .int .i64 t.line] 36))) := (Below.refl _ w).alloc (Nat.le_refl _) _
          go_enter Tryd.func53, Tryd.ntmps53
          go_upto_region 1 with fail
          generalize (w.alloc (.cells #[.int .i64 t.kind, .string x, .int .i64 t.n, .int .i64 t.line] 36)) = W0 at *
          have e0 := BK.out.c 0 (v := .int .i64 t.kind) rfl
          have e1 := BK.out.c 1 (v := .string x) rfl
          have e2 := BK.out.c 2 (v := .int .i64 t.n) rfl
          have e3 := BK.out.c 3 (v := .int .i64 t.line) rfl
          go_wp2_with fail
          go_ret
          exact ⟨nret_bool (by rw [HE.out, decide_eq_true H4.out, decide_eq_true H5.out]; rfl), HB.out⟩
        · have qn : (t.n == 0) = false := beq_eq_false_iff_ne.2 h5
          have H5 := Lib.hid h5
          clear hx hsx h2 h3 h4 h5 hl
          have BK := Lib.hid (Bk.new 36 w #[.int .i64 t.kind, .string x, .int .i64 t.n, .int .i64 t.line])
          have HB : Hid (Below w.heap.size w (w.alloc (.cells #[.int .i64 t.kind, .string x, .int .i64 t.n, .int .i64 t.line] 36))) := (Below.refl _ w).alloc (Nat.le_refl _) _
          go_enter Tryd.func53, Tryd.ntmps53
          go_upto_region 1 with fail
          generalize (w.alloc (.cells #[.int .i64 t.kind, .string x, .int .i64 t.n, .int .i64 t.line] 36)) = W0 at *
          have e0 := BK.out.c 0 (v := .int .i64 t.kind) rfl
          have e1 := BK.out.c 1 (v := .string x) rfl
          have e2 := BK.out.c 2 (v := .int .i64 t.n) rfl
          have e3 := BK.out.c 3 (v := .int .i64 t.line) rfl
          go_wp2_with fail
          go_ret
          exact ⟨nret_bool (by rw [HE.out, decide_eq_true H4.out, decide_eq_false H5.out]; rfl), HB.out⟩
      · have TB1 : (x.toList == []) = false := by rw [tolist_eq, hx]; exact beq_eq_false_iff_ne.2 h4
        have TB2 : x.toList.isEmpty = false := by rw [tolist_eq, hx]; cases hq : t.text with | nil => exact absurd hq h4 | cons a r => rfl
        have H4 := Lib.hid h4
        clear hx hsx h2 h3 h4 hl
        have BK := Lib.hid (Bk.new 36 w #[.int .i64 t.kind, .string x, .int .i64 t.n, .int .i64 t.line])
        have HB : Hid (Below w.heap.size w (w.alloc (.cells #[.int .i64 t.kind, .string x, .int .i64 t.n, .int .i64 t.line] 36))) := (Below.refl _ w).alloc (Nat.le_refl _) _
        go_enter Tryd.func53, Tryd.ntmps53
        go_upto_region 1 with fail
        generalize (w.alloc (.cells #[.int .i64 t.kind, .string x, .int .i64 t.n, .int .i64 t.line] 36)) = W0 at *
        have e0 := BK.out.c 0 (v := .int .i64 t.kind) rfl
        have e1 := BK.out.c 1 (v := .string x) rfl
        have e2 := BK.out.c 2 (v := .int .i64 t.n) rfl
        have e3 := BK.out.c 3 (v := .int .i64 t.line) rfl
        go_wp2_with fail
        go_ret
        exact ⟨nret_bool (by rw [HE.out, decide_eq_false H4.out]; rfl), HB.out⟩
    · have qk : (t.kind == 0) = false := beq_eq_false_iff_ne.2 h3
      by_cases h4 : t.text = []
      · have TB1 : (x.toList == []) = true := by rw [tolist_eq, hx, h4]; rfl
        have TB2 : x.toList.isEmpty = true := by rw [tolist_eq, hx, h4]; rfl
        have HF := Lib.hid (fit_none h1 h2 h3 (by rw [h4]; rfl))
        clear hx hsx h2 h3 h4 hl
        have BK := Lib.hid (Bk.new 36 w #[.int .i64 t.kind, .string x, .int .i64 t.n, .int .i64 t.line])
        have HB : Hid (Below w.heap.size w (w.alloc (.cells #[.int .i64 t.kind, .string x, .int .i64 t.n, .int .i64 t.line] 36))) := (Below.refl _ w).alloc (Nat.le_refl _) _
        go_enter Tryd.func53, Tryd.ntmps53
        go_upto_region 1 with fail
        generalize (w.alloc (.cells #[.int .i64 t.kind, .string x, .int .i64 t.n, .int .i64 t.line] 36)) = W0 at *
        have e0 := BK.out.c 0 (v := .int .i64 t.kind) rfl
        have e1 := BK.out.c 1 (v := .string x) rfl
        have e2 := BK.out.c 2 (v := .int .i64 t.n) rfl
        have e3 := BK.out.c 3 (v := .int .i64 t.line) rfl
        go_wp2_with fail
        go_ret
        exact ⟨nret_bool (by rw [HF.out]), HB.out⟩
      · have TB1 : (x.toList == []) = false := by rw [tolist_eq, hx]; exact beq_eq_false_iff_ne.2 h4
        have TB2 : x.toList.isEmpty = false := by rw [tolist_eq, hx]; cases hq : t.text with | nil => exact absurd hq h4 | cons a r => rfl
        have hp : 0 < x.size := by
          rw [hsx]
          cases hq : t.text with
          | nil => exact absurd hq h4
          | cons a r => simp
        have CF := fun W => xfirst_any x W hp (by omega)
        rw [hx] at CF
        clear hsx hp
        cases hft : firstT t.text with
        | none =>
          have HF := Lib.hid (fit_none h1 h2 h3 hft)
          rw [hft] at CF
          clear hx h2 h3 h4 hft hl
          have BK := Lib.hid (Bk.new 36 w #[.int .i64 t.kind, .string x, .int .i64 t.n, .int .i64 t.line])
          have HB : Hid (Below w.heap.size w (w.alloc (.cells #[.int .i64 t.kind, .string x, .int .i64 t.n, .int .i64 t.line] 36))) := (Below.refl _ w).alloc (Nat.le_refl _) _
          go_enter Tryd.func53, Tryd.ntmps53
          go_upto_region 1 with fail
          generalize (w.alloc (.cells #[.int .i64 t.kind, .string x, .int .i64 t.n, .int .i64 t.line] 36)) = W0 at *
          have e0 := BK.out.c 0 (v := .int .i64 t.kind) rfl
          have e1 := BK.out.c 1 (v := .string x) rfl
          have e2 := BK.out.c 2 (v := .int .i64 t.n) rfl
          have e3 := BK.out.c 3 (v := .int .i64 t.line) rfl
          go_wp2_with fail
          (refine (CF _).mono ?_); rintro e W2 ⟨uk, un, y, ok, rfl, hok, hsome, hb⟩
          have HB2 := Lib.hid (nbelow_on HB.out hb)
          have BK2 := Lib.hid (BK.out.below hb)
          have BC := Lib.hid (BK2.out.alloc (.cells #[.int .i64 uk, .string y, .int .i64 un, .int .i64 0] 36))
          have HB3 := Lib.hid (HB2.out.alloc HB2.out.size (.cells #[.int .i64 uk, .string y, .int .i64 un, .int .i64 0] 36))
          have BN := Bk.new 36 W2 #[.int .i64 uk, .string y, .int .i64 un, .int .i64 0]
          clear e0 e1 e2 e3 hb CF
          have c0 := BC.out.c 0 (v := .int .i64 t.kind) rfl
          have c1 := BC.out.c 1 (v := .string x) rfl
          have c2 := BC.out.c 2 (v := .int .i64 t.n) rfl
          have b0 := BN.c 0 (v := .int .i64 uk) rfl
          have b1 := BN.c 1 (v := .string y) rfl
          have b2 := BN.c 2 (v := .int .i64 un) rfl
          clear BN
          obtain rfl : ok = false := hok
          clear hsome
          go_wp2_with fail
          go_ret
          exact ⟨nret_bool (by rw [HF.out]), HB3.out⟩
        | some u =>
          have HE := Lib.hid (fit_some h1 h2 h3 hft)
          rw [hft] at CF
          clear hft h2 h3 h4 hl
          have BK := Lib.hid (Bk.new 36 w #[.int .i64 t.kind, .string x, .int .i64 t.n, .int .i64 t.line])
          have HB : Hid (Below w.heap.size w (w.alloc (.cells #[.int .i64 t.kind, .string x, .int .i64 t.n, .int .i64 t.line] 36))) := (Below.refl _ w).alloc (Nat.le_refl _) _
          go_enter Tryd.func53, Tryd.ntmps53
          go_upto_region 1 with fail
          generalize (w.alloc (.cells #[.int .i64 t.kind, .string x, .int .i64 t.n, .int .i64 t.line] 36)) = W0 at *
          have e0 := BK.out.c 0 (v := .int .i64 t.kind) rfl
          have e1 := BK.out.c 1 (v := .string x) rfl
          have e2 := BK.out.c 2 (v := .int .i64 t.n) rfl
          have e3 := BK.out.c 3 (v := .int .i64 t.line) rfl
          go_wp2_with fail
          (refine (CF _).mono ?_); rintro e W2 ⟨uk, un, y, ok, rfl, hok, hsome, hb⟩
          have HB2 := Lib.hid (nbelow_on HB.out hb)
          have BK2 := Lib.hid (BK.out.below hb)
          have BC := Lib.hid (BK2.out.alloc (.cells #[.int .i64 uk, .string y, .int .i64 un, .int .i64 0] 36))
          have HB3 := Lib.hid (HB2.out.alloc HB2.out.size (.cells #[.int .i64 uk, .string y, .int .i64 un, .int .i64 0] 36))
          have BN := Bk.new 36 W2 #[.int .i64 uk, .string y, .int .i64 un, .int .i64 0]
          clear e0 e1 e2 e3 hb CF
          have c0 := BC.out.c 0 (v := .int .i64 t.kind) rfl
          have c1 := BC.out.c 1 (v := .string x) rfl
          have c2 := BC.out.c 2 (v := .int .i64 t.n) rfl
          have b0 := BN.c 0 (v := .int .i64 uk) rfl
          have b1 := BN.c 1 (v := .string y) rfl
          have b2 := BN.c 2 (v := .int .i64 un) rfl
          clear BN
          obtain rfl : ok = true := hok
          obtain ⟨k1, k2, k3⟩ := hsome u rfl
          rw [← k1, ← k2, ← k3] at HE
          clear k1 k2 k3 hsome
          by_cases g1 : uk = t.kind
          · have r1 : (uk == t.kind) = true := beq_iff_eq.2 g1
            have G1 := Lib.hid g1
            by_cases g2 : y.data.toList = t.text
            · have r2 : (y.toList == x.toList) = true := by rw [tolist_eq, tolist_eq, hx, g2]; exact beq_self_eq_true _
              have G2 := Lib.hid g2
              by_cases g3 : un = t.n
              · have r3 : (un == t.n) = true := beq_iff_eq.2 g3
                have G3 := Lib.hid g3
                clear g1 g2 g3 hx
                go_wp2_with fail
                go_ret
                exact ⟨nret_bool (by rw [HE.out, decide_eq_true G1.out, decide_eq_true G2.out, decide_eq_true G3.out]; rfl), HB3.out⟩
              · have r3 : (un == t.n) = false := beq_eq_false_iff_ne.2 g3
                have G3 := Lib.hid g3
                clear g1 g2 g3 hx
                go_wp2_with fail
                go_ret
                exact ⟨nret_bool (by rw [HE.out, decide_eq_true G1.out, decide_eq_true G2.out, decide_eq_false G3.out]; rfl), HB3.out⟩
            · have r2 : (y.toList == x.toList) = false := by rw [tolist_eq, tolist_eq, hx]; exact beq_eq_false_iff_ne.2 g2
              have G2 := Lib.hid g2
              clear g1 g2 hx
              go_wp2_with fail
              go_ret
              exact ⟨nret_bool (by rw [HE.out, decide_eq_true G1.out, decide_eq_false G2.out]; rfl), HB3.out⟩
          · have r1 : (uk == t.kind) = false := beq_eq_false_iff_ne.2 g1
            have G1 := Lib.hid g1
            clear g1 hx
            go_wp2_with fail
            go_ret
            exact ⟨nret_bool (by rw [HE.out, decide_eq_false G1.out]; rfl), HB3.out⟩
end Go.Proofs.YtblakndpionmgaaDoor
