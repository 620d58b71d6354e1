/-
  Contract of check.
-/
import Derived.Test.YtblakndpionmgaaDoorLxC
import Derived.BigQuiet
namespace Go.Proofs.YtblakndpionmgaaDoor
open Go.RowKit

theorem below_dn {n : Nat} {a w : World} (h : Below n a w) (q : Nat) : Below n a (w.drewN q) := h.trans ⟨rfl, rfl, rfl, Nat.le_refl _, fun _ _ => rfl⟩
def prevL (ts : List Tk) (k : Nat) : Int := if k = 0 then 1 else (ts.getD (k - 1) tk0).line
theorem prev_succ (ts : List Tk) (k : Nat) : prevL ts (k + 1) = (ts.getD k tk0).line := by unfold prevL; rw [if_neg (by omega)]; rfl
set_option maxRecDepth 100000 in
set_option maxHeartbeats 8000000 in
theorem check_any (A : Option Addr) (n c : Nat) (ts : List Tk) (w : World) (hs : Ts w A n c ts) (htab : Tabx w) (hst : St w) : Calls Tryd.prog 47 #[.slice A n c] w fun e w' => e = .returned (.int .i64 (checkF 1 ts)) ∧ Below w.heap.size w w' := by
  have HT := Lib.hid htab
  have HS := Lib.hid hst
  have HTS := Lib.hid hs
  have HL := Lib.hid hs.len
  have h47 : n ≤ 9223372036854775807 := Nat.le_trans hs.cap hs.top
  clear htab hst hs
  go_enter Tryd.func47, Tryd.ntmps47
  go_wp2_with fail
  go_loopw [7] (fun iv wr => ∃ k : Nat, k ≤ n ∧ iv = .int .i64 (k : Int) ∧ Below w.heap.size w wr ∧ checkF (prevL ts k) (ts.drop k) = checkF 1 ts) (fun iv _ => n - (intOf iv).toNat)
  case atStart => exact ⟨0, Nat.zero_le _, rfl, Below.refl _ _, rfl⟩
  case round =>
    obtain ⟨k, hk, rfl, hb, hc⟩ := hrel
    have HB := Lib.hid hb
    have HC := Lib.hid hc
    clear hb hc
    by_cases hlt : k < n
    · obtain ⟨g, o, x, rfl, hg, c0, c1, c2, c3, hx⟩ := HTS.out.at_ hlt
      have hkl : k < ts.length := by rw [HL.out]; exact hlt
      have HKL := Lib.hid hkl
      have HX := Lib.hid hx.out
      have hpk := prev_succ ts k
      obtain ⟨t, ht⟩ : ∃ t, ts.getD k tk0 = t := ⟨_, rfl⟩
      have HTK := Lib.hid ht
      rw [ht] at c0 c2 c3 hpk
      have HPK := Lib.hid hpk
      have CFI := fun W a b => fits_any t x (by rw [HX.out, ht]) W a b
      have d0 := (HB.out.cell (p := ⟨g, o + k * 4, none⟩) hg).trans c0
      have d1 := (HB.out.cell (p := ⟨g, o + k * 4 + 1, none⟩) hg).trans c1
      have d2 := (HB.out.cell (p := ⟨g, o + k * 4 + 2, none⟩) hg).trans c2
      have d3 := (HB.out.cell (p := ⟨g, o + k * 4 + 3, none⟩) hg).trans c3
      have q1 : (k : Int) < n := by omega
      have HG := Lib.hid hg
      have BK := Lib.hid (Bk.new 36 wr #[.int .i64 t.kind, .string x, .int .i64 t.n, .int .i64 t.line])
      have e0 := BK.out.c 0 (v := .int .i64 t.kind) rfl
      have e1 := BK.out.c 1 (v := .string x) rfl
      have e2 := BK.out.c 2 (v := .int .i64 t.n) rfl
      have e3 := BK.out.c 3 (v := .int .i64 t.line) rfl
      have HB1 := Lib.hid (HB.out.alloc HB.out.size (.cells #[.int .i64 t.kind, .string x, .int .i64 t.n, .int .i64 t.line] 36))
      clear c0 c1 c2 c3 hx hkl hpk ht hg
      cases hfi : fitTk t with
      | false =>
        have HFI := Lib.hid hfi
        clear hfi
        go_wp2_with fail
        (refine (CFI _ (tabx_on HT.out HB1.out) (HS.out.below HB1.out)).mono ?_); rintro e W2 ⟨rfl, hb⟩
        rw [HFI.out]
        have HB2 := Lib.hid (nbelow_on HB1.out hb)
        have BK2 := Lib.hid (BK.out.below hb)
        clear e0 e1 e2 e3 d0 d1 d2 d3 hb
        have e0 := BK2.out.c 0 (v := .int .i64 t.kind) rfl
        have e3 := BK2.out.c 3 (v := .int .i64 t.line) rfl
        go_wp2_with fail
        go_ret
        exact ⟨nret_int (by have := check_six (p := prevL ts k) (l := ts) (k := k) HKL.out (by rw [show ts.getD k ⟨0, [], 0, 0⟩ = t from HTK.out]; exact .inl HFI.out); rw [HC.out] at this; exact this.symm), (by first | exact HB2.out | exact below_dn HB2.out _)⟩
      | true =>
        have HFI := Lib.hid hfi
        clear hfi
        by_cases hkd : t.kind = 0
        · have qk : (t.kind == 0) = true := by rw [hkd]; rfl
          have HKD := Lib.hid hkd
          clear hkd
          by_cases hlast : k + 1 < n
          · have qn : (k : Int) < (n : Int) - 1 := by omega
            have HLA := Lib.hid hlast
            go_wp2_with fail
            (refine (CFI _ (tabx_on HT.out HB1.out) (HS.out.below HB1.out)).mono ?_); rintro e W2 ⟨rfl, hb⟩
            rw [HFI.out]
            have HB2 := Lib.hid (nbelow_on HB1.out hb)
            have BK2 := Lib.hid (BK.out.below hb)
            clear e0 e1 e2 e3 d0 d1 d2 d3 hb
            have e0 := BK2.out.c 0 (v := .int .i64 t.kind) rfl
            have e3 := BK2.out.c 3 (v := .int .i64 t.line) rfl
            go_wp2_with fail
            go_ret
            exact ⟨nret_int (by have := check_six (p := prevL ts k) (l := ts) (k := k) HKL.out (by rw [show ts.getD k ⟨0, [], 0, 0⟩ = t from HTK.out]; exact .inr ⟨HKD.out, by rw [HL.out]; exact HLA.out⟩); rw [HC.out] at this; exact this.symm), (by first | exact HB2.out | exact below_dn HB2.out _)⟩
          · have qn : ¬ (k : Int) < (n : Int) - 1 := by omega
            have hln : k + 1 = n := by omega
            have HLN := Lib.hid hln
            clear hln
            have hst := check_step (p := prevL ts k) (l := ts) (k := k) HKL.out (by rw [show ts.getD k ⟨0, [], 0, 0⟩ = t from HTK.out]; exact HFI.out) (by rw [show ts.getD k ⟨0, [], 0, 0⟩ = t from HTK.out]; exact .inr (by rw [HL.out]; exact HLN.out))
            rw [HC.out, show ts.getD k ⟨0, [], 0, 0⟩ = t from HTK.out] at hst
            have HST := Lib.hid hst
            clear hst
            by_cases hk0 : k = 0
            · have HNX : Hid (checkF 1 ts = checkF t.line (ts.drop (k + 1))) := by
                have hl := (fit_line HFI.out).1
                show _ = _
                rw [HST.out, if_neg]
                rw [hk0]; show ¬ t.line < 1; omega
              have g0 : decide ((0 : Int) < (k : Int)) = false := decide_eq_false (by omega)
              have g1 : ¬ (0 : Int) < (k : Int) := by omega
              have g2 : ¬ 0 < k := by omega
              clear hk0
              go_wp2_with fail
              (refine (CFI _ (tabx_on HT.out HB1.out) (HS.out.below HB1.out)).mono ?_); rintro e W2 ⟨rfl, hb⟩
              rw [HFI.out]
              have HB2 := Lib.hid (nbelow_on HB1.out hb)
              have BK2 := Lib.hid (BK.out.below hb)
              clear e0 e1 e2 e3 d0 d1 d2 d3 hb
              have e0 := BK2.out.c 0 (v := .int .i64 t.kind) rfl
              have e3 := BK2.out.c 3 (v := .int .i64 t.line) rfl
              go_upto_region 6 with fail
              go_quiet (fail)
              go_wp2_with fail
              go_roundw
              case rel => exact ⟨k + 1, by omega, by go_num, below_dn HB2.out _, by rw [HPK.out, ← HNX.out]⟩
              case measure => simp [intOf] <;> omega
            · obtain ⟨m, hm⟩ : ∃ m, k = m + 1 := ⟨k - 1, by omega⟩
              have hmn : m < n := by omega
              obtain ⟨g', o', x', hgo, -, -, -, -, f3, -⟩ := HTS.out.at_ hmn
              cases hgo
              have hpv : prevL ts k = (ts.getD m tk0).line := by rw [hm]; exact prev_succ ts m
              obtain ⟨p, hp⟩ : ∃ p, (ts.getD m tk0).line = p := ⟨_, rfl⟩
              rw [hp] at f3 hpv
              rw [hpv] at HST
              have HF3 := Lib.hid f3
              have hkm : (k : Int) - 1 = (m : Int) := by omega
              have g0 : decide ((0 : Int) < (k : Int)) = true := decide_eq_true (by omega)
              have g1 : (0 : Int) < (k : Int) := by omega
              have g2 : 0 < k := by omega
              have q2 : (m : Int) < n := by omega
              clear hk0 hp hpv f3 hm
              by_cases hl : t.line < p
              · have HE : Hid (checkF 1 ts = 9) := by show _ = _; rw [HST.out, if_pos hl]
                have gl : decide (t.line < p) = true := decide_eq_true hl
                go_wp2_with fail
                (refine (CFI _ (tabx_on HT.out HB1.out) (HS.out.below HB1.out)).mono ?_); rintro e W2 ⟨rfl, hb⟩
                rw [HFI.out]
                have HB2 := Lib.hid (nbelow_on HB1.out hb)
                have BK2 := Lib.hid (BK.out.below hb)
                clear e0 e1 e2 e3 d0 d1 d2 d3 hb
                have e0 := BK2.out.c 0 (v := .int .i64 t.kind) rfl
                have e3 := BK2.out.c 3 (v := .int .i64 t.line) rfl
                have f3 := (HB2.out.cell (p := ⟨g, o + m * 4 + 3, none⟩) HG.out).trans HF3.out
                go_upto_region 6 with fail
                go_quiet (fail)
                go_wp2_with fail
                go_ret
                exact ⟨nret_int HE.out.symm, (by first | exact HB2.out | exact below_dn HB2.out _)⟩
              · have HNX : Hid (checkF 1 ts = checkF t.line (ts.drop (k + 1))) := by show _ = _; rw [HST.out, if_neg hl]
                have gl : decide (t.line < p) = false := decide_eq_false hl
                go_wp2_with fail
                (refine (CFI _ (tabx_on HT.out HB1.out) (HS.out.below HB1.out)).mono ?_); rintro e W2 ⟨rfl, hb⟩
                rw [HFI.out]
                have HB2 := Lib.hid (nbelow_on HB1.out hb)
                have BK2 := Lib.hid (BK.out.below hb)
                clear e0 e1 e2 e3 d0 d1 d2 d3 hb
                have e0 := BK2.out.c 0 (v := .int .i64 t.kind) rfl
                have e3 := BK2.out.c 3 (v := .int .i64 t.line) rfl
                have f3 := (HB2.out.cell (p := ⟨g, o + m * 4 + 3, none⟩) HG.out).trans HF3.out
                go_upto_region 6 with fail
                go_quiet (fail)
                go_wp2_with fail
                go_roundw
                case rel => exact ⟨k + 1, by omega, by go_num, below_dn HB2.out _, by rw [HPK.out, ← HNX.out]⟩
                case measure => simp [intOf] <;> omega
        · have qk : (t.kind == 0) = false := beq_eq_false_iff_ne.2 hkd
          have HKD := Lib.hid hkd
          clear hkd
          have hst := check_step (p := prevL ts k) (l := ts) (k := k) HKL.out (by rw [show ts.getD k ⟨0, [], 0, 0⟩ = t from HTK.out]; exact HFI.out) (by rw [show ts.getD k ⟨0, [], 0, 0⟩ = t from HTK.out]; exact .inl HKD.out)
          rw [HC.out, show ts.getD k ⟨0, [], 0, 0⟩ = t from HTK.out] at hst
          have HST := Lib.hid hst
          clear hst
          by_cases hk0 : k = 0
          · have HNX : Hid (checkF 1 ts = checkF t.line (ts.drop (k + 1))) := by
              have hl := (fit_line HFI.out).1
              show _ = _
              rw [HST.out, if_neg]
              rw [hk0]; show ¬ t.line < 1; omega
            have g0 : decide ((0 : Int) < (k : Int)) = false := decide_eq_false (by omega)
            have g1 : ¬ (0 : Int) < (k : Int) := by omega
            have g2 : ¬ 0 < k := by omega
            clear hk0
            go_wp2_with fail
            (refine (CFI _ (tabx_on HT.out HB1.out) (HS.out.below HB1.out)).mono ?_); rintro e W2 ⟨rfl, hb⟩
            rw [HFI.out]
            have HB2 := Lib.hid (nbelow_on HB1.out hb)
            have BK2 := Lib.hid (BK.out.below hb)
            clear e0 e1 e2 e3 d0 d1 d2 d3 hb
            have e0 := BK2.out.c 0 (v := .int .i64 t.kind) rfl
            have e3 := BK2.out.c 3 (v := .int .i64 t.line) rfl
            go_upto_region 6 with fail
            go_quiet (fail)
            go_wp2_with fail
            go_roundw
            case rel => exact ⟨k + 1, by omega, by go_num, below_dn HB2.out _, by rw [HPK.out, ← HNX.out]⟩
            case measure => simp [intOf] <;> omega
          · obtain ⟨m, hm⟩ : ∃ m, k = m + 1 := ⟨k - 1, by omega⟩
            have hmn : m < n := by omega
            obtain ⟨g', o', x', hgo, -, -, -, -, f3, -⟩ := HTS.out.at_ hmn
            cases hgo
            have hpv : prevL ts k = (ts.getD m tk0).line := by rw [hm]; exact prev_succ ts m
            obtain ⟨p, hp⟩ : ∃ p, (ts.getD m tk0).line = p := ⟨_, rfl⟩
            rw [hp] at f3 hpv
            rw [hpv] at HST
            have HF3 := Lib.hid f3
            have hkm : (k : Int) - 1 = (m : Int) := by omega
            have g0 : decide ((0 : Int) < (k : Int)) = true := decide_eq_true (by omega)
            have g1 : (0 : Int) < (k : Int) := by omega
            have g2 : 0 < k := by omega
            have q2 : (m : Int) < n := by omega
            clear hk0 hp hpv f3 hm
            by_cases hl : t.line < p
            · have HE : Hid (checkF 1 ts = 9) := by show _ = _; rw [HST.out, if_pos hl]
              have gl : decide (t.line < p) = true := decide_eq_true hl
              go_wp2_with fail
              (refine (CFI _ (tabx_on HT.out HB1.out) (HS.out.below HB1.out)).mono ?_); rintro e W2 ⟨rfl, hb⟩
              rw [HFI.out]
              have HB2 := Lib.hid (nbelow_on HB1.out hb)
              have BK2 := Lib.hid (BK.out.below hb)
              clear e0 e1 e2 e3 d0 d1 d2 d3 hb
              have e0 := BK2.out.c 0 (v := .int .i64 t.kind) rfl
              have e3 := BK2.out.c 3 (v := .int .i64 t.line) rfl
              have f3 := (HB2.out.cell (p := ⟨g, o + m * 4 + 3, none⟩) HG.out).trans HF3.out
              go_upto_region 6 with fail
              go_quiet (fail)
              go_wp2_with fail
              go_ret
              exact ⟨nret_int HE.out.symm, (by first | exact HB2.out | exact below_dn HB2.out _)⟩
            · have HNX : Hid (checkF 1 ts = checkF t.line (ts.drop (k + 1))) := by show _ = _; rw [HST.out, if_neg hl]
              have gl : decide (t.line < p) = false := decide_eq_false hl
              go_wp2_with fail
              (refine (CFI _ (tabx_on HT.out HB1.out) (HS.out.below HB1.out)).mono ?_); rintro e W2 ⟨rfl, hb⟩
              rw [HFI.out]
              have HB2 := Lib.hid (nbelow_on HB1.out hb)
              have BK2 := Lib.hid (BK.out.below hb)
              clear e0 e1 e2 e3 d0 d1 d2 d3 hb
              have e0 := BK2.out.c 0 (v := .int .i64 t.kind) rfl
              have e3 := BK2.out.c 3 (v := .int .i64 t.line) rfl
              have f3 := (HB2.out.cell (p := ⟨g, o + m * 4 + 3, none⟩) HG.out).trans HF3.out
              go_upto_region 6 with fail
              go_quiet (fail)
              go_wp2_with fail
              go_roundw
              case rel => exact ⟨k + 1, by omega, by go_num, below_dn HB2.out _, by rw [HPK.out, ← HNX.out]⟩
              case measure => simp [intOf] <;> omega
    · have hke : k = n := by omega
      subst hke
      have HE : Hid (checkF 1 ts = 0) := by
        have := HC.out
        rw [List.drop_eq_nil_of_le (by rw [HL.out]; exact Nat.le_refl _)] at this
        exact this.symm
      go_wp2_with fail
      go_ret
      exact ⟨nret_int HE.out.symm, HB.out⟩
end Go.Proofs.YtblakndpionmgaaDoor
