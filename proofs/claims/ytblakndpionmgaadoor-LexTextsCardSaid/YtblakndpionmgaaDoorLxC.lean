/-
  Contract of fits.
-/
import Derived.Test.YtblakndpionmgaaDoorLxA
import Derived.Test.YtblakndpionmgaaDoorLxF
import Derived.Test.YtblakndpionmgaaDoorLxTextMath
import Derived.Laws.StructEq
namespace Go.Proofs.YtblakndpionmgaaDoor
open Go.RowKit

theorem tok_eq (W : World) (a c d a' c' d' : Int) (x y : ByteArray) : (Op.equalIn 10000 36 (.agg #[.int .i64 a, .string x, .int .i64 c, .int .i64 d]) (.agg #[.int .i64 a', .string y, .int .i64 c', .int .i64 d'])).run Tryd.prog W = .ok ((a == a') && (x.toList == y.toList) && (c == c') && (d == d')) W := by
  rw [run_equalIn_agg W 9999 36 _ _ (by kernel_rfl) (by kernel_rfl)]
  simp [Op.eqFields, Program.fieldsOf, go_sem]
  by_cases h1 : a = a' <;> by_cases h2 : x.toList = y.toList <;> by_cases h3 : c = c' <;> by_cases h4 : d = d' <;> simp [h1, h2, h3, h4]
theorem fit_low {t : Tk} (h : t.line < 1) : fitTk t = false := by unfold fitTk; rw [if_pos (.inl h)]
theorem fit_long {t : Tk} (h : 40000 < t.text.length) : fitTk t = false := by unfold fitTk; rw [if_pos (.inr h)]
theorem fit_end {t : Tk} (h1 : ¬ t.line < 1) (h2 : ¬ 40000 < t.text.length) (h3 : t.kind = 0) : fitTk t = (decide (t.text = []) && decide (t.n = 0)) := by
  unfold fitTk; rw [if_neg (by omega), if_pos h3]
theorem fit_none {t : Tk} (h1 : ¬ t.line < 1) (h2 : ¬ 40000 < t.text.length) (h3 : ¬ t.kind = 0) (h4 : firstT t.text = none) : fitTk t = false := by
  unfold fitTk; rw [if_neg (by omega), if_neg h3, h4]
theorem fit_some {t u : Tk} (h1 : ¬ t.line < 1) (h2 : ¬ 40000 < t.text.length) (h3 : ¬ t.kind = 0) (h4 : firstT t.text = some u) : fitTk t = (decide (u.kind = t.kind) && decide (u.text = t.text) && decide (u.n = t.n)) := by
  unfold fitTk; rw [if_neg (by omega), if_neg h3, h4]
set_option maxRecDepth 100000 in
set_option maxHeartbeats 4000000 in
theorem fits_any (t : Tk) (x : ByteArray) (hx : x.data.toList = t.text) (w : World) (htab : Tabx w) (hst : St w) : Calls Tryd.prog 82 #[.agg #[.int .i64 t.kind, .string x, .int .i64 t.n, .int .i64 t.line]] w fun e w' => e = .returned (.bool (fitTk t)) ∧ Below w.heap.size w w' := by
  have HT := Lib.hid htab
  have HS := Lib.hid hst
  have hsx : x.size = t.text.length := by rw [size_list, hx]
  have HX := Lib.hid hx
  by_cases h1 : t.line < 1
  · have HF := Lib.hid (fit_low h1)
    clear htab hst hx hsx
    have BK := Lib.hid (Bk.new 36 w #[.int .i64 t.kind, .string x, .int .i64 t.n, .int .i64 t.line])
    have HB : Hid (Below w.heap.size w (w.alloc (.cells #[.int .i64 t.kind, .string x, .int .i64 t.n, .int .i64 t.line] 36))) := (Below.refl _ w).alloc (Nat.le_refl _) _
    go_enter Tryd.func82, Tryd.ntmps82
    go_upto_region 1 with fail
    generalize (w.alloc (.cells #[.int .i64 t.kind, .string x, .int .i64 t.n, .int .i64 t.line] 36)) = W0 at *
    have e0 := BK.out.c 0 (v := .int .i64 t.kind) rfl
    have e1 := BK.out.c 1 (v := .string x) rfl
    have e2 := BK.out.c 2 (v := .int .i64 t.n) rfl
    have e3 := BK.out.c 3 (v := .int .i64 t.line) rfl
    go_wp2_with fail
    go_ret
    exact ⟨nret_bool (by rw [HF.out]), HB.out⟩
  · by_cases h2 : 40000 < t.text.length
    · have HF := Lib.hid (fit_long h2)
      have p2 : (40000 : Int) < (x.size : Int) := by omega
      clear htab hst hx hsx h2
      have BK := Lib.hid (Bk.new 36 w #[.int .i64 t.kind, .string x, .int .i64 t.n, .int .i64 t.line])
      have HB : Hid (Below w.heap.size w (w.alloc (.cells #[.int .i64 t.kind, .string x, .int .i64 t.n, .int .i64 t.line] 36))) := (Below.refl _ w).alloc (Nat.le_refl _) _
      go_enter Tryd.func82, Tryd.ntmps82
      go_upto_region 1 with fail
      generalize (w.alloc (.cells #[.int .i64 t.kind, .string x, .int .i64 t.n, .int .i64 t.line] 36)) = W0 at *
      have e0 := BK.out.c 0 (v := .int .i64 t.kind) rfl
      have e1 := BK.out.c 1 (v := .string x) rfl
      have e2 := BK.out.c 2 (v := .int .i64 t.n) rfl
      have e3 := BK.out.c 3 (v := .int .i64 t.line) rfl
      go_wp2_with fail
      go_ret
      exact ⟨nret_bool (by rw [HF.out]), HB.out⟩
    · have p2 : ¬ (40000 : Int) < (x.size : Int) := by omega
      have hsz : x.size ≤ 1000000 := by omega
      have HSZ := Lib.hid hsz
      by_cases h3 : t.kind = 0
      · have HE := Lib.hid (fit_end h1 h2 h3)
        have qk : (t.kind == 0) = true := by rw [h3]; rfl
        by_cases h4 : t.text = []
        · have TB1 : (x.toList == []) = true := by rw [tolist_eq, hx, h4]; rfl
          have TB2 : x.toList.isEmpty = true := by rw [tolist_eq, hx, h4]; rfl
          have H4 := Lib.hid h4
          by_cases h5 : t.n = 0
          · have qn : (t.n == 0) = true := by rw [h5]; rfl
            have H5 := Lib.hid h5
            clear htab hst hx hsx h2 h3 h4 h5 hsz
            have BK := Lib.hid (Bk.new 36 w #[.int .i64 t.kind, .string x, .int .i64 t.n, .int .i64 t.line])
            have HB : Hid (Below w.heap.size w (w.alloc (.cells #[.int .i64 t.kind, .string x, .int .i64 t.n, .int .i64 t.line] 36))) := (Below.refl _ w).alloc (Nat.le_refl _) _
            go_enter Tryd.func82, Tryd.ntmps82
            go_upto_region 1 with fail
            generalize (w.alloc (.cells #[.int .i64 t.kind, .string x, .int .i64 t.n, .int .i64 t.line] 36)) = W0 at *
            have e0 := BK.out.c 0 (v := .int .i64 t.kind) rfl
            have e1 := BK.out.c 1 (v := .string x) rfl
            have e2 := BK.out.c 2 (v := .int .i64 t.n) rfl
            have e3 := BK.out.c 3 (v := .int .i64 t.line) rfl
            go_wp2_with fail
            go_ret
            exact ⟨nret_bool (by rw [HE.out, decide_eq_true H4.out, decide_eq_true H5.out]; rfl), HB.out⟩
          · have qn : (t.n == 0) = false := beq_eq_false_iff_ne.2 h5
            have H5 := Lib.hid h5
            clear htab hst hx hsx h2 h3 h4 h5 hsz
            have BK := Lib.hid (Bk.new 36 w #[.int .i64 t.kind, .string x, .int .i64 t.n, .int .i64 t.line])
            have HB : Hid (Below w.heap.size w (w.alloc (.cells #[.int .i64 t.kind, .string x, .int .i64 t.n, .int .i64 t.line] 36))) := (Below.refl _ w).alloc (Nat.le_refl _) _
            go_enter Tryd.func82, Tryd.ntmps82
            go_upto_region 1 with fail
            generalize (w.alloc (.cells #[.int .i64 t.kind, .string x, .int .i64 t.n, .int .i64 t.line] 36)) = W0 at *
            have e0 := BK.out.c 0 (v := .int .i64 t.kind) rfl
            have e1 := BK.out.c 1 (v := .string x) rfl
            have e2 := BK.out.c 2 (v := .int .i64 t.n) rfl
            have e3 := BK.out.c 3 (v := .int .i64 t.line) rfl
            go_wp2_with fail
            go_ret
            exact ⟨nret_bool (by rw [HE.out, decide_eq_true H4.out, decide_eq_false H5.out]; rfl), HB.out⟩
        · have TB1 : (x.toList == []) = false := by rw [tolist_eq, hx]; exact beq_eq_false_iff_ne.2 h4
          have TB2 : x.toList.isEmpty = false := by rw [tolist_eq, hx]; cases hq : t.text with | nil => exact absurd hq h4 | cons a r => rfl
          have H4 := Lib.hid h4
          clear htab hst hx hsx h2 h3 h4 hsz
          have BK := Lib.hid (Bk.new 36 w #[.int .i64 t.kind, .string x, .int .i64 t.n, .int .i64 t.line])
          have HB : Hid (Below w.heap.size w (w.alloc (.cells #[.int .i64 t.kind, .string x, .int .i64 t.n, .int .i64 t.line] 36))) := (Below.refl _ w).alloc (Nat.le_refl _) _
          go_enter Tryd.func82, Tryd.ntmps82
          go_upto_region 1 with fail
          generalize (w.alloc (.cells #[.int .i64 t.kind, .string x, .int .i64 t.n, .int .i64 t.line] 36)) = W0 at *
          have e0 := BK.out.c 0 (v := .int .i64 t.kind) rfl
          have e1 := BK.out.c 1 (v := .string x) rfl
          have e2 := BK.out.c 2 (v := .int .i64 t.n) rfl
          have e3 := BK.out.c 3 (v := .int .i64 t.line) rfl
          go_wp2_with fail
          go_ret
          exact ⟨nret_bool (by rw [HE.out, decide_eq_false H4.out]; rfl), HB.out⟩
      · have qk : (t.kind == 0) = false := beq_eq_false_iff_ne.2 h3
        have CF := fun W a b => first_any x W HSZ.out a b
        rw [hx] at CF
        cases hft : firstT t.text with
        | none =>
          have HF := Lib.hid (fit_none h1 h2 h3 hft)
          rw [hft, show encT none = .tuple #[.agg #[.int .i64 0, .string ⟨#[]⟩, .int .i64 0, .int .i64 0], .bool false] from rfl] at CF
          clear htab hst hx hsx h2 h3 hft hsz
          have BK := Lib.hid (Bk.new 36 w #[.int .i64 t.kind, .string x, .int .i64 t.n, .int .i64 t.line])
          have HB : Hid (Below w.heap.size w (w.alloc (.cells #[.int .i64 t.kind, .string x, .int .i64 t.n, .int .i64 t.line] 36))) := (Below.refl _ w).alloc (Nat.le_refl _) _
          go_enter Tryd.func82, Tryd.ntmps82
          go_upto_region 1 with fail
          generalize (w.alloc (.cells #[.int .i64 t.kind, .string x, .int .i64 t.n, .int .i64 t.line] 36)) = W0 at *
          have e0 := BK.out.c 0 (v := .int .i64 t.kind) rfl
          have e1 := BK.out.c 1 (v := .string x) rfl
          have e2 := BK.out.c 2 (v := .int .i64 t.n) rfl
          have e3 := BK.out.c 3 (v := .int .i64 t.line) rfl
          go_wp2_with fail
          (refine (CF _ (tabx_on HT.out HB.out) (HS.out.below HB.out)).mono ?_); rintro e W2 ⟨rfl, hb⟩
          have HB2 := Lib.hid (nbelow_on HB.out hb)
          have BK2 := Lib.hid (BK.out.below hb)
          clear e0 e1 e2 e3
          have BA := Lib.hid (BK2.out.alloc (.cells #[.int .i64 0, .string ⟨#[]⟩, .int .i64 0, .int .i64 0] 36))
          have BC := Lib.hid (BK2.out.alloc (.cells #[.int .i64 0, .string ⟨#[]⟩, .int .i64 0, .int .i64 t.line] 36))
          have HB3 := Lib.hid (HB2.out.alloc HB2.out.size (.cells #[.int .i64 0, .string ⟨#[]⟩, .int .i64 0, .int .i64 t.line] 36))
          have a3 := BA.out.c 3 (v := .int .i64 t.line) rfl
          have c0 := BC.out.c 0 (v := .int .i64 t.kind) rfl
          have c1 := BC.out.c 1 (v := .string x) rfl
          have c2 := BC.out.c 2 (v := .int .i64 t.n) rfl
          have c3 := BC.out.c 3 (v := .int .i64 t.line) rfl
          clear hb
          go_wp2_with fail
          go_ret
          exact ⟨nret_bool (by rw [HF.out]), HB3.out⟩
        | some u =>
          have HE := Lib.hid (fit_some h1 h2 h3 hft)
          obtain ⟨y, hy⟩ : ∃ y : ByteArray, y = ⟨u.text.toArray⟩ := ⟨_, rfl⟩
          have hyl : y.data.toList = u.text := by rw [hy]
          rw [hft] at CF
          unfold encT tkVal at CF
          obtain ⟨uk, ut, un, ul⟩ := u
          simp only at hy hyl HE
          simp only [← hy] at CF
          by_cases g1 : uk = t.kind
          · have r1 : (uk == t.kind) = true := beq_iff_eq.2 g1
            have G1 := Lib.hid g1
            by_cases g2 : ut = t.text
            · have r2 : (y.toList == x.toList) = true := by rw [tolist_eq, tolist_eq, hyl, hx, g2]; exact beq_self_eq_true _
              have G2 := Lib.hid g2
              by_cases g3 : un = t.n
              · have r3 : (un == t.n) = true := beq_iff_eq.2 g3
                have r4 : (t.line == t.line) = true := beq_self_eq_true _
                have G3 := Lib.hid g3
                clear htab hst hx hsx h2 h3 hft hsz hy hyl g1 g2 g3
                have BK := Lib.hid (Bk.new 36 w #[.int .i64 t.kind, .string x, .int .i64 t.n, .int .i64 t.line])
                have HB : Hid (Below w.heap.size w (w.alloc (.cells #[.int .i64 t.kind, .string x, .int .i64 t.n, .int .i64 t.line] 36))) := (Below.refl _ w).alloc (Nat.le_refl _) _
                go_enter Tryd.func82, Tryd.ntmps82
                go_upto_region 1 with fail
                generalize (w.alloc (.cells #[.int .i64 t.kind, .string x, .int .i64 t.n, .int .i64 t.line] 36)) = W0 at *
                have e0 := BK.out.c 0 (v := .int .i64 t.kind) rfl
                have e1 := BK.out.c 1 (v := .string x) rfl
                have e2 := BK.out.c 2 (v := .int .i64 t.n) rfl
                have e3 := BK.out.c 3 (v := .int .i64 t.line) rfl
                go_wp2_with fail
                (refine (CF _ (tabx_on HT.out HB.out) (HS.out.below HB.out)).mono ?_); rintro e W2 ⟨rfl, hb⟩
                have HB2 := Lib.hid (nbelow_on HB.out hb)
                have BK2 := Lib.hid (BK.out.below hb)
                clear e0 e1 e2 e3
                have BA := Lib.hid (BK2.out.alloc (.cells #[.int .i64 uk, .string y, .int .i64 un, .int .i64 ul] 36))
                have BC := Lib.hid (BK2.out.alloc (.cells #[.int .i64 uk, .string y, .int .i64 un, .int .i64 t.line] 36))
                have HB3 := Lib.hid (HB2.out.alloc HB2.out.size (.cells #[.int .i64 uk, .string y, .int .i64 un, .int .i64 t.line] 36))
                have a3 := BA.out.c 3 (v := .int .i64 t.line) rfl
                have c0 := BC.out.c 0 (v := .int .i64 t.kind) rfl
                have c1 := BC.out.c 1 (v := .string x) rfl
                have c2 := BC.out.c 2 (v := .int .i64 t.n) rfl
                have c3 := BC.out.c 3 (v := .int .i64 t.line) rfl
                clear hb
                go_wp2_with fail
                go_ret
                exact ⟨nret_bool (by rw [HE.out, decide_eq_true G1.out, decide_eq_true G2.out, decide_eq_true G3.out]; rfl), HB3.out⟩
              · have r3 : (un == t.n) = false := beq_eq_false_iff_ne.2 g3
                have G3 := Lib.hid g3
                clear htab hst hx hsx h2 h3 hft hsz hy hyl g1 g2 g3
                have BK := Lib.hid (Bk.new 36 w #[.int .i64 t.kind, .string x, .int .i64 t.n, .int .i64 t.line])
                have HB : Hid (Below w.heap.size w (w.alloc (.cells #[.int .i64 t.kind, .string x, .int .i64 t.n, .int .i64 t.line] 36))) := (Below.refl _ w).alloc (Nat.le_refl _) _
                go_enter Tryd.func82, Tryd.ntmps82
                go_upto_region 1 with fail
                generalize (w.alloc (.cells #[.int .i64 t.kind, .string x, .int .i64 t.n, .int .i64 t.line] 36)) = W0 at *
                have e0 := BK.out.c 0 (v := .int .i64 t.kind) rfl
                have e1 := BK.out.c 1 (v := .string x) rfl
                have e2 := BK.out.c 2 (v := .int .i64 t.n) rfl
                have e3 := BK.out.c 3 (v := .int .i64 t.line) rfl
                go_wp2_with fail
                (refine (CF _ (tabx_on HT.out HB.out) (HS.out.below HB.out)).mono ?_); rintro e W2 ⟨rfl, hb⟩
                have HB2 := Lib.hid (nbelow_on HB.out hb)
                have BK2 := Lib.hid (BK.out.below hb)
                clear e0 e1 e2 e3
                have BA := Lib.hid (BK2.out.alloc (.cells #[.int .i64 uk, .string y, .int .i64 un, .int .i64 ul] 36))
                have BC := Lib.hid (BK2.out.alloc (.cells #[.int .i64 uk, .string y, .int .i64 un, .int .i64 t.line] 36))
                have HB3 := Lib.hid (HB2.out.alloc HB2.out.size (.cells #[.int .i64 uk, .string y, .int .i64 un, .int .i64 t.line] 36))
                have a3 := BA.out.c 3 (v := .int .i64 t.line) rfl
                have c0 := BC.out.c 0 (v := .int .i64 t.kind) rfl
                have c1 := BC.out.c 1 (v := .string x) rfl
                have c2 := BC.out.c 2 (v := .int .i64 t.n) rfl
                have c3 := BC.out.c 3 (v := .int .i64 t.line) rfl
                clear hb
                go_wp2_with fail
                go_ret
                exact ⟨nret_bool (by rw [HE.out, decide_eq_true G1.out, decide_eq_true G2.out, decide_eq_false G3.out]; rfl), HB3.out⟩
            · have r2 : (y.toList == x.toList) = false := by rw [tolist_eq, tolist_eq, hyl, hx]; exact beq_eq_false_iff_ne.2 g2
              have G2 := Lib.hid g2
              clear htab hst hx hsx h2 h3 hft hsz hy hyl g1 g2
              have BK := Lib.hid (Bk.new 36 w #[.int .i64 t.kind, .string x, .int .i64 t.n, .int .i64 t.line])
              have HB : Hid (Below w.heap.size w (w.alloc (.cells #[.int .i64 t.kind, .string x, .int .i64 t.n, .int .i64 t.line] 36))) := (Below.refl _ w).alloc (Nat.le_refl _) _
              go_enter Tryd.func82, Tryd.ntmps82
              go_upto_region 1 with fail
              generalize (w.alloc (.cells #[.int .i64 t.kind, .string x, .int .i64 t.n, .int .i64 t.line] 36)) = W0 at *
              have e0 := BK.out.c 0 (v := .int .i64 t.kind) rfl
              have e1 := BK.out.c 1 (v := .string x) rfl
              have e2 := BK.out.c 2 (v := .int .i64 t.n) rfl
              have e3 := BK.out.c 3 (v := .int .i64 t.line) rfl
              go_wp2_with fail
              (refine (CF _ (tabx_on HT.out HB.out) (HS.out.below HB.out)).mono ?_); rintro e W2 ⟨rfl, hb⟩
              have HB2 := Lib.hid (nbelow_on HB.out hb)
              have BK2 := Lib.hid (BK.out.below hb)
              clear e0 e1 e2 e3
              have BA := Lib.hid (BK2.out.alloc (.cells #[.int .i64 uk, .string y, .int .i64 un, .int .i64 ul] 36))
              have BC := Lib.hid (BK2.out.alloc (.cells #[.int .i64 uk, .string y, .int .i64 un, .int .i64 t.line] 36))
              have HB3 := Lib.hid (HB2.out.alloc HB2.out.size (.cells #[.int .i64 uk, .string y, .int .i64 un, .int .i64 t.line] 36))
              have a3 := BA.out.c 3 (v := .int .i64 t.line) rfl
              have c0 := BC.out.c 0 (v := .int .i64 t.kind) rfl
              have c1 := BC.out.c 1 (v := .string x) rfl
              have c2 := BC.out.c 2 (v := .int .i64 t.n) rfl
              have c3 := BC.out.c 3 (v := .int .i64 t.line) rfl
              clear hb
              go_wp2_with fail
              go_ret
              exact ⟨nret_bool (by rw [HE.out, decide_eq_true G1.out, decide_eq_false G2.out]; rfl), HB3.out⟩
          · have r1 : (uk == t.kind) = false := beq_eq_false_iff_ne.2 g1
            have G1 := Lib.hid g1
            clear htab hst hx hsx h2 h3 hft hsz hy hyl g1
            have BK := Lib.hid (Bk.new 36 w #[.int .i64 t.kind, .string x, .int .i64 t.n, .int .i64 t.line])
            have HB : Hid (Below w.heap.size w (w.alloc (.cells #[.int .i64 t.kind, .string x, .int .i64 t.n, .int .i64 t.line] 36))) := (Below.refl _ w).alloc (Nat.le_refl _) _
            go_enter Tryd.func82, Tryd.ntmps82
            go_upto_region 1 with fail
            generalize (w.alloc (.cells #[.int .i64 t.kind, .string x, .int .i64 t.n, .int .i64 t.line] 36)) = W0 at *
            have e0 := BK.out.c 0 (v := .int .i64 t.kind) rfl
            have e1 := BK.out.c 1 (v := .string x) rfl
            have e2 := BK.out.c 2 (v := .int .i64 t.n) rfl
            have e3 := BK.out.c 3 (v := .int .i64 t.line) rfl
            go_wp2_with fail
            (refine (CF _ (tabx_on HT.out HB.out) (HS.out.below HB.out)).mono ?_); rintro e W2 ⟨rfl, hb⟩
            have HB2 := Lib.hid (nbelow_on HB.out hb)
            have BK2 := Lib.hid (BK.out.below hb)
            clear e0 e1 e2 e3
            have BA := Lib.hid (BK2.out.alloc (.cells #[.int .i64 uk, .string y, .int .i64 un, .int .i64 ul] 36))
            have BC := Lib.hid (BK2.out.alloc (.cells #[.int .i64 uk, .string y, .int .i64 un, .int .i64 t.line] 36))
            have HB3 := Lib.hid (HB2.out.alloc HB2.out.size (.cells #[.int .i64 uk, .string y, .int .i64 un, .int .i64 t.line] 36))
            have a3 := BA.out.c 3 (v := .int .i64 t.line) rfl
            have c0 := BC.out.c 0 (v := .int .i64 t.kind) rfl
            have c1 := BC.out.c 1 (v := .string x) rfl
            have c2 := BC.out.c 2 (v := .int .i64 t.n) rfl
            have c3 := BC.out.c 3 (v := .int .i64 t.line) rfl
            clear hb
            go_wp2_with fail
            go_ret
            exact ⟨nret_bool (by rw [HE.out, decide_eq_false G1.out]; rfl), HB3.out⟩
end Go.Proofs.YtblakndpionmgaaDoor
