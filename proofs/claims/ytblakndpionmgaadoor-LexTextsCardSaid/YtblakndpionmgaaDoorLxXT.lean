/-
  Text of the reference.
-/
import Derived.Test.YtblakndpionmgaaDoorLxFo
namespace Go.Proofs.YtblakndpionmgaaDoor
open Go.RowKit

theorem xcat_list (x y : ByteArray) : (x ++ y).data.toList = x.data.toList ++ y.data.toList := by simp
theorem rep_snoc (j : Nat) : List.replicate j (10 : UInt8) ++ [10] = List.replicate (j + 1) 10 := by
  rw [List.replicate_succ']
set_option maxRecDepth 100000 in
set_option maxHeartbeats 16000000 in
theorem xtext_any (A : Option Addr) (n c : Nat) (ts : List Tk) (w : World) (hs : Ts w A n c ts) (hbd : ∀ t ∈ ts, t.line ≤ 9223372036854775807 ∧ t.text.length ≤ 300) : Calls Tryd.prog 24 #[.slice A n c] w fun e w' => TextP (textR ts) w e w' := by
  have HTS := Lib.hid hs
  have HL := Lib.hid hs.len
  have HBD := Lib.hid hbd
  have h47 : n ≤ 9223372036854775807 := Nat.le_trans hs.cap hs.top
  clear hs hbd
  go_enter Tryd.func24, Tryd.ntmps24
  go_wp2_with fail
  go_loopw [4, 5] (fun lv iv wr => ∃ (k : Nat) (p : Int), k ≤ n ∧ iv = .int .i64 (k : Int) ∧ lv = .int .i64 p ∧ Below w.heap.size w wr ∧ checkF p (ts.drop k) = checkF 1 ts) (fun _ iv _ => n - (intOf iv).toNat)
  case atStart => exact ⟨0, 1, Nat.zero_le _, rfl, rfl, Below.refl _ _, rfl⟩
  case round =>
    obtain ⟨k, p, hk, rfl, rfl, hb, hc⟩ := hrel
    have HB := Lib.hid hb
    have HC := Lib.hid hc
    clear hb hc
    by_cases hlt : k < n
    · obtain ⟨g, o, x, rfl, hg, c0, c1, c2, c3, hx⟩ := HTS.out.at_ hlt
      have hkl : k < ts.length := by rw [HL.out]; exact hlt
      have HKL := Lib.hid hkl
      have HX := Lib.hid hx.out
      have hbt := HBD.out _ (getD_mem_tk hkl)
      obtain ⟨t, ht⟩ : ∃ t, ts.getD k tk0 = t := ⟨_, rfl⟩
      have HTK := Lib.hid ht
      rw [ht] at c0 c2 c3 hbt
      have CFI := fun W => formed_any t x (by rw [HX.out, ht]) hbt.2 W
      have d0 := (HB.out.cell (p := ⟨g, o + k * 4, none⟩) hg).trans c0
      have d1 := (HB.out.cell (p := ⟨g, o + k * 4 + 1, none⟩) hg).trans c1
      have d2 := (HB.out.cell (p := ⟨g, o + k * 4 + 2, none⟩) hg).trans c2
      have d3 := (HB.out.cell (p := ⟨g, o + k * 4 + 3, none⟩) hg).trans c3
      have q1 : (k : Int) < n := by omega
      have HG := Lib.hid hg
      have C0 := Lib.hid c0
      have C3 := Lib.hid c3
      clear c0 c1 c2 c3 hx hkl ht hg hbt
      cases hfi : fitTk t with
      | false =>
        have HFI := Lib.hid hfi
        clear hfi
        go_wp2_with fail
        (refine (CFI _).mono ?_); rintro e W2 ⟨rfl, hb⟩
        rw [HFI.out]
        have HB2 := Lib.hid (nbelow_on HB.out hb)
        have e0 := (HB2.out.cell (p := ⟨g, o + k * 4, none⟩) HG.out).trans C0.out
        have e3 := (HB2.out.cell (p := ⟨g, o + k * 4 + 3, none⟩) HG.out).trans C3.out
        clear d0 d1 d2 d3 hb CFI
        have HE : Hid (checkF 1 ts = 6) := (by have := check_six (p := p) (l := ts) (k := k) HKL.out (by rw [show ts.getD k ⟨0, [], 0, 0⟩ = t from HTK.out]; exact .inl HFI.out); rw [HC.out] at this; exact this)
        go_wp2_with fail
        go_ret2
        exact text_bad (by rw [text_check (by rw [HE.out]; decide), HE.out]) HB2.out
      | true =>
        have HFI := Lib.hid hfi
        clear hfi
        by_cases hkd : t.kind = 0
        · have qk : (t.kind == 0) = true := by rw [hkd]; rfl
          have HKD := Lib.hid hkd
          clear hkd
          by_cases hlast : k + 1 < n
          · have qn : (k : Int) < (n : Int) - 1 := by omega
            have HLA := Lib.hid hlast
            go_wp2_with fail
            (refine (CFI _).mono ?_); rintro e W2 ⟨rfl, hb⟩
            rw [HFI.out]
            have HB2 := Lib.hid (nbelow_on HB.out hb)
            have e0 := (HB2.out.cell (p := ⟨g, o + k * 4, none⟩) HG.out).trans C0.out
            have e3 := (HB2.out.cell (p := ⟨g, o + k * 4 + 3, none⟩) HG.out).trans C3.out
            clear d0 d1 d2 d3 hb CFI
            have HE : Hid (checkF 1 ts = 6) := (by have := check_six (p := p) (l := ts) (k := k) HKL.out (by rw [show ts.getD k ⟨0, [], 0, 0⟩ = t from HTK.out]; exact .inr ⟨HKD.out, by rw [HL.out]; exact HLA.out⟩); rw [HC.out] at this; exact this)
            go_wp2_with fail
            go_ret2
            exact text_bad (by rw [text_check (by rw [HE.out]; decide), HE.out]) HB2.out
          · have qn : ¬ (k : Int) < (n : Int) - 1 := by omega
            have hln : k + 1 = n := by omega
            have HLN := Lib.hid hln
            clear hln
            have hst := check_step (p := p) (l := ts) (k := k) HKL.out (by rw [show ts.getD k ⟨0, [], 0, 0⟩ = t from HTK.out]; exact HFI.out) (by rw [show ts.getD k ⟨0, [], 0, 0⟩ = t from HTK.out]; exact .inr (by rw [HL.out]; exact HLN.out))
            rw [HC.out, show ts.getD k ⟨0, [], 0, 0⟩ = t from HTK.out] at hst
            have HST := Lib.hid hst
            clear hst
            by_cases hl : t.line < p
            · have HE : Hid (checkF 1 ts = 9) := by show _ = _; rw [HST.out, if_pos hl]
              go_wp2_with fail
              (refine (CFI _).mono ?_); rintro e W2 ⟨rfl, hb⟩
              rw [HFI.out]
              have HB2 := Lib.hid (nbelow_on HB.out hb)
              have e0 := (HB2.out.cell (p := ⟨g, o + k * 4, none⟩) HG.out).trans C0.out
              have e3 := (HB2.out.cell (p := ⟨g, o + k * 4 + 3, none⟩) HG.out).trans C3.out
              clear d0 d1 d2 d3 hb CFI
              go_wp2_with fail
              go_ret2
              exact text_bad (by rw [text_check (by rw [HE.out]; decide), HE.out]) HB2.out
            · have HNX : Hid (checkF t.line (ts.drop (k + 1)) = checkF 1 ts) := by show _ = _; rw [HST.out, if_neg hl]
              go_wp2_with fail
              (refine (CFI _).mono ?_); rintro e W2 ⟨rfl, hb⟩
              rw [HFI.out]
              have HB2 := Lib.hid (nbelow_on HB.out hb)
              have e0 := (HB2.out.cell (p := ⟨g, o + k * 4, none⟩) HG.out).trans C0.out
              have e3 := (HB2.out.cell (p := ⟨g, o + k * 4 + 3, none⟩) HG.out).trans C3.out
              clear d0 d1 d2 d3 hb CFI
              go_wp2_with fail
              go_roundw
              case rel => exact ⟨k + 1, t.line, by omega, by go_num, rfl, HB2.out, HNX.out⟩
              case measure => simp [intOf] <;> omega
        · have qk : (t.kind == 0) = false := beq_eq_false_iff_ne.2 hkd
          have HKD := Lib.hid hkd
          clear hkd
          have hst := check_step (p := p) (l := ts) (k := k) HKL.out (by rw [show ts.getD k ⟨0, [], 0, 0⟩ = t from HTK.out]; exact HFI.out) (by rw [show ts.getD k ⟨0, [], 0, 0⟩ = t from HTK.out]; exact .inl HKD.out)
          rw [HC.out, show ts.getD k ⟨0, [], 0, 0⟩ = t from HTK.out] at hst
          have HST := Lib.hid hst
          clear hst
          by_cases hl : t.line < p
          · have HE : Hid (checkF 1 ts = 9) := by show _ = _; rw [HST.out, if_pos hl]
            go_wp2_with fail
            (refine (CFI _).mono ?_); rintro e W2 ⟨rfl, hb⟩
            rw [HFI.out]
            have HB2 := Lib.hid (nbelow_on HB.out hb)
            have e0 := (HB2.out.cell (p := ⟨g, o + k * 4, none⟩) HG.out).trans C0.out
            have e3 := (HB2.out.cell (p := ⟨g, o + k * 4 + 3, none⟩) HG.out).trans C3.out
            clear d0 d1 d2 d3 hb CFI
            go_wp2_with fail
            go_ret2
            exact text_bad (by rw [text_check (by rw [HE.out]; decide), HE.out]) HB2.out
          · have HNX : Hid (checkF t.line (ts.drop (k + 1)) = checkF 1 ts) := by show _ = _; rw [HST.out, if_neg hl]
            go_wp2_with fail
            (refine (CFI _).mono ?_); rintro e W2 ⟨rfl, hb⟩
            rw [HFI.out]
            have HB2 := Lib.hid (nbelow_on HB.out hb)
            have e0 := (HB2.out.cell (p := ⟨g, o + k * 4, none⟩) HG.out).trans C0.out
            have e3 := (HB2.out.cell (p := ⟨g, o + k * 4 + 3, none⟩) HG.out).trans C3.out
            clear d0 d1 d2 d3 hb CFI
            go_wp2_with fail
            go_roundw
            case rel => exact ⟨k + 1, t.line, by omega, by go_num, rfl, HB2.out, HNX.out⟩
            case measure => simp [intOf] <;> omega
    · have hke : k = n := by omega
      have HCK : Hid (checkF 1 ts = 0) := by
        have := HC.out
        rw [List.drop_eq_nil_of_le (by rw [HL.out]; omega)] at this
        exact this.symm
      have q1 : ¬ (k : Int) < n := by omega
      clear hke
      go_wp2_with fail
      go_loop [4, 6, 7] (fun lv sv iv => ∃ (k : Nat) (line : Int) (x : ByteArray), k ≤ n ∧ iv = .int .i64 (k : Int) ∧ lv = .int .i64 line ∧ sv = .string x ∧ okFrom line (ts.drop k) ∧ 1 ≤ line ∧ (x.size ≤ 40000 ∧ textF (decide (k = 0)) line x.data.toList (ts.drop k) = textF true 1 [] ts ∨ 40000 < x.size ∧ x.size ≤ 90000 ∧ textF true 1 [] ts = none)) (fun _ _ iv => n - (intOf iv).toNat)
      case atStart => exact ⟨0, 1, ⟨#[]⟩, Nat.zero_le _, rfl, rfl, rfl, ok_of_check HCK.out, by omega, .inl ⟨by decide, rfl⟩⟩
      case round =>
        obtain ⟨k, line, x, hk, rfl, rfl, rfl, hok, hl1, hor⟩ := hrel
        have HOK := Lib.hid hok
        clear hok
        by_cases hlt : k < n
        · obtain ⟨g, o, xt, rfl, hg, c0, c1, c2, c3, hx⟩ := HTS.out.at_ hlt
          have hkl : k < ts.length := by rw [HL.out]; exact hlt
          have HX := Lib.hid hx.out
          have hok3 := ok_at (p := line) (l := ts) (k := k) hkl HOK.out
          have hst := text_step (b := decide (k = 0)) (line := line) (out := x.data.toList) (l := ts) (k := k) hkl
          have hbt := HBD.out (ts.getD k tk0) (getD_mem_tk hkl)
          obtain ⟨t, ht⟩ : ∃ t, ts.getD k tk0 = t := ⟨_, rfl⟩
          rw [show ts.getD k ⟨0, [], 0, 0⟩ = t from ht] at hst hok3
          rw [ht] at c0 c2 c3 hbt
          have HXT : Hid (xt.data.toList = t.text) := by show _ = _; rw [HX.out, ht]
          obtain ⟨hfit, hlp, hok2⟩ := hok3
          have hxs : xt.size ≤ 300 := by rw [size_list, HXT.out]; exact hbt.2
          have HOK2 := Lib.hid hok2
          have hln := (fit_line hfit).1
          have HLP := Lib.hid hln
          obtain ⟨d, hd⟩ : ∃ d : Nat, t.line - line = (d : Int) := ⟨(t.line - line).toNat, by omega⟩
          have hbt1 := hbt.1
          have d0 := (HB.out.cell (p := ⟨g, o + k * 4, none⟩) hg).trans c0
          have d1 := (HB.out.cell (p := ⟨g, o + k * 4 + 1, none⟩) hg).trans c1
          have d3 := (HB.out.cell (p := ⟨g, o + k * 4 + 3, none⟩) hg).trans c3
          have q1 : (k : Int) < n := by omega
          have q2 : -9223372036854775808 ≤ t.line - line := by omega
          have q3 : t.line - line ≤ 9223372036854775807 := by omega
          rw [hd] at hst
          clear c0 c1 c2 c3 hx hkl ht hg hfit hok2 hbt
          by_cases hbig : 40000 < (d : Int)
          · have HN : Hid (textF true 1 [] ts = none) := by
              show _ = _
              rcases hor with ⟨h1, h2⟩ | ⟨h1, h2, h3⟩
              · rw [h2, if_pos hbig] at hst; exact hst
              · exact h3
            clear hor hst
            go_wp2_with fail
            go_ret2
            exact text_bad (text_none HCK.out HN.out) HB.out
          · rcases hor with ⟨h1, h2⟩ | ⟨h1, h2, h3⟩
            · have q4 : ¬ (40000 : Int) < (x.size : Int) := by omega
              rw [h2, if_neg hbig] at hst
              have HST : Hid (textF true 1 [] ts = if 40000 < (d : Int) then none else if 40000 < (x.data.toList ++ gapT (decide (k = 0)) (d : Int) t ++ t.text).length then none else textF false t.line (x.data.toList ++ gapT (decide (k = 0)) (d : Int) t ++ t.text) (ts.drop (k + 1))) := by show _ = _; rw [if_neg hbig]; exact hst
              clear hst h2
              by_cases hk0 : k = 0
              · have HSP : Hid ((if decide (k = 0) = false ∧ (d : Int) = 0 ∧ t.kind ≠ 0 then [32] else ([] : Txt)) = []) := if_neg (by simp [hk0])
                have g0 : decide ((0 : Int) < (k : Int)) = false := decide_eq_false (by omega)
                have g1 : ¬ (0 : Int) < (k : Int) := by omega
                have g2 : ¬ 0 < k := by omega
                clear hk0
                go_wp2_with fail
                go_loop [4, 6] (fun lv sv => ∃ (j : Nat) (x2 : ByteArray), j ≤ d ∧ lv = .int .i64 (line + (j : Int)) ∧ sv = .string x2 ∧ x2.data.toList = x.data.toList ++ List.replicate j 10) (fun lv _ => (t.line - intOf lv).toNat)
                case atStart => exact ⟨0, x, Nat.zero_le _, by simp, rfl, by simp⟩
                case round =>
                  obtain ⟨j, x2, hj, rfl, rfl, hx2⟩ := hrel
                  have HX2 := Lib.hid hx2
                  have hz2 : x2.size = x.size + j := by
                    rw [size_list, hx2, List.length_append, List.length_replicate, ← size_list]
                    try rfl
                  clear hx2
                  by_cases hjd : j < d
                  · have q5 : line + (j : Int) < t.line := by omega
                    have y1 : -9223372036854775808 ≤ line + (j : Int) + 1 := by omega
                    have y2 : line + (j : Int) + 1 ≤ 9223372036854775807 := by omega
                    have HX3 : Hid ((x2 ++ ⟨#[10]⟩ : ByteArray).data.toList = x.data.toList ++ List.replicate (j + 1) 10) := by show _ = _; rw [xcat_list, HX2.out, ← rep_snoc, ← List.append_assoc]
                    go_wp2_with fail
                    go_round
                    case rel => exact ⟨j + 1, _, by omega, by go_num, rfl, HX3.out⟩
                    case measure => simp [intOf] <;> omega
                  · have hje : j = d := by omega
                    have q5 : ¬ line + (j : Int) < t.line := by omega
                    have HX4 : Hid ((x2 ++ xt : ByteArray).data.toList = x.data.toList ++ gapT (decide (k = 0)) (d : Int) t ++ t.text) := by
                      show _ = _
                      rw [xcat_list, HX2.out, HXT.out, hje]
                      unfold gapT
                      rw [HSP.out, Int.toNat_natCast]
                      simp
                    have hlj : line + (j : Int) = t.line := by omega
                    have HZ4 : Hid ((x2 ++ xt : ByteArray).size = x2.size + xt.size) := by show _ = _; rw [ByteArray.size_append]
                    rw [hlj]
                    go_wp2_with fail
                    go_round
                    case rel =>
                      refine ⟨k + 1, t.line, _, by omega, by go_num, rfl, rfl, HOK2.out, by have := HLP.out; omega, ?_⟩
                      have hr := HST.out
                      rw [if_neg (by omega), ← HX4.out] at hr
                      by_cases htot : 40000 < (x2 ++ xt : ByteArray).size
                      · right
                        rw [if_pos (by rw [← size_list]; exact htot)] at hr
                        exact ⟨htot, by rw [HZ4.out]; omega, hr⟩
                      · left
                        rw [if_neg (by rw [← size_list]; exact htot)] at hr
                        exact ⟨by omega, by rw [show decide (k + 1 = 0) = false from decide_eq_false (by omega)]; exact hr.symm⟩
                    case measure => simp [intOf] <;> omega
              · have g0 : decide ((0 : Int) < (k : Int)) = true := decide_eq_true (by omega)
                have g1 : (0 : Int) < (k : Int) := by omega
                have g2 : 0 < k := by omega
                by_cases hd0 : d = 0
                · have gd : (t.line == line) = true := beq_iff_eq.2 (by omega)
                  by_cases hkd : t.kind = 0
                  · have gk : (t.kind == 0) = true := by rw [hkd]; rfl
                    have gk2 : (t.kind != 0) = false := by rw [bne, gk]; rfl
                    have HSP : Hid ((if decide (k = 0) = false ∧ (d : Int) = 0 ∧ t.kind ≠ 0 then [32] else ([] : Txt)) = []) := if_neg (by simp [hkd])
                    clear hk0 hkd hd0
                    go_wp2_with fail
                    go_loop [4, 6] (fun lv sv => ∃ (j : Nat) (x2 : ByteArray), j ≤ d ∧ lv = .int .i64 (line + (j : Int)) ∧ sv = .string x2 ∧ x2.data.toList = x.data.toList ++ List.replicate j 10) (fun lv _ => (t.line - intOf lv).toNat)
                    case atStart => exact ⟨0, x, Nat.zero_le _, by simp, rfl, by simp⟩
                    case round =>
                      obtain ⟨j, x2, hj, rfl, rfl, hx2⟩ := hrel
                      have HX2 := Lib.hid hx2
                      have hz2 : x2.size = x.size + j := by
                        rw [size_list, hx2, List.length_append, List.length_replicate, ← size_list]
                        try rfl
                      clear hx2
                      by_cases hjd : j < d
                      · have q5 : line + (j : Int) < t.line := by omega
                        have y1 : -9223372036854775808 ≤ line + (j : Int) + 1 := by omega
                        have y2 : line + (j : Int) + 1 ≤ 9223372036854775807 := by omega
                        have HX3 : Hid ((x2 ++ ⟨#[10]⟩ : ByteArray).data.toList = x.data.toList ++ List.replicate (j + 1) 10) := by show _ = _; rw [xcat_list, HX2.out, ← rep_snoc, ← List.append_assoc]
                        go_wp2_with fail
                        go_round
                        case rel => exact ⟨j + 1, _, by omega, by go_num, rfl, HX3.out⟩
                        case measure => simp [intOf] <;> omega
                      · have hje : j = d := by omega
                        have q5 : ¬ line + (j : Int) < t.line := by omega
                        have HX4 : Hid ((x2 ++ xt : ByteArray).data.toList = x.data.toList ++ gapT (decide (k = 0)) (d : Int) t ++ t.text) := by
                          show _ = _
                          rw [xcat_list, HX2.out, HXT.out, hje]
                          unfold gapT
                          rw [HSP.out, Int.toNat_natCast]
                          simp
                        have hlj : line + (j : Int) = t.line := by omega
                        have HZ4 : Hid ((x2 ++ xt : ByteArray).size = x2.size + xt.size) := by show _ = _; rw [ByteArray.size_append]
                        rw [hlj]
                        go_wp2_with fail
                        go_round
                        case rel =>
                          refine ⟨k + 1, t.line, _, by omega, by go_num, rfl, rfl, HOK2.out, by have := HLP.out; omega, ?_⟩
                          have hr := HST.out
                          rw [if_neg (by omega), ← HX4.out] at hr
                          by_cases htot : 40000 < (x2 ++ xt : ByteArray).size
                          · right
                            rw [if_pos (by rw [← size_list]; exact htot)] at hr
                            exact ⟨htot, by rw [HZ4.out]; omega, hr⟩
                          · left
                            rw [if_neg (by rw [← size_list]; exact htot)] at hr
                            exact ⟨by omega, by rw [show decide (k + 1 = 0) = false from decide_eq_false (by omega)]; exact hr.symm⟩
                        case measure => simp [intOf] <;> omega
                  · have gk : (t.kind == 0) = false := beq_eq_false_iff_ne.2 hkd
                    have gk2 : (t.kind != 0) = true := by rw [bne, gk]; rfl
                    have HD0 := Lib.hid hd0
                    have HSP : Hid ((if decide (k = 0) = false ∧ (d : Int) = 0 ∧ t.kind ≠ 0 then [32] else ([] : Txt)) = [32]) := if_pos ⟨decide_eq_false hk0, by omega, hkd⟩
                    clear hk0 hkd hd0
                    go_wp2_with fail
                    go_loop [4, 6] (fun lv sv => ∃ (j : Nat) (x2 : ByteArray), j ≤ d ∧ lv = .int .i64 (line + (j : Int)) ∧ sv = .string x2 ∧ x2.data.toList = (x ++ ⟨#[32]⟩ : ByteArray).data.toList ++ List.replicate j 10) (fun lv _ => (t.line - intOf lv).toNat)
                    case atStart => exact ⟨0, x ++ ⟨#[32]⟩, Nat.zero_le _, by simp, rfl, by simp⟩
                    case round =>
                      obtain ⟨j, x2, hj, rfl, rfl, hx2⟩ := hrel
                      have HX2 := Lib.hid hx2
                      have hz2 : x2.size = x.size + 1 + j := by
                        rw [size_list, hx2, List.length_append, List.length_replicate, xcat_list, List.length_append, ← size_list]
                        rfl
                      clear hx2
                      by_cases hjd : j < d
                      · have q5 : line + (j : Int) < t.line := by omega
                        have y1 : -9223372036854775808 ≤ line + (j : Int) + 1 := by omega
                        have y2 : line + (j : Int) + 1 ≤ 9223372036854775807 := by omega
                        have HX3 : Hid ((x2 ++ ⟨#[10]⟩ : ByteArray).data.toList = (x ++ ⟨#[32]⟩ : ByteArray).data.toList ++ List.replicate (j + 1) 10) := by show _ = _; rw [xcat_list, HX2.out, ← rep_snoc, ← List.append_assoc]
                        go_wp2_with fail
                        go_round
                        case rel => exact ⟨j + 1, _, by omega, by go_num, rfl, HX3.out⟩
                        case measure => simp [intOf] <;> omega
                      · have hje : j = d := by omega
                        have q5 : ¬ line + (j : Int) < t.line := by omega
                        have HX4 : Hid ((x2 ++ xt : ByteArray).data.toList = x.data.toList ++ gapT (decide (k = 0)) (d : Int) t ++ t.text) := by
                          show _ = _
                          rw [xcat_list, HX2.out, HXT.out, hje]
                          unfold gapT
                          rw [HSP.out, Int.toNat_natCast]
                          rw [HD0.out, xcat_list]; simp
                        have hlj : line + (j : Int) = t.line := by omega
                        have HZ4 : Hid ((x2 ++ xt : ByteArray).size = x2.size + xt.size) := by show _ = _; rw [ByteArray.size_append]
                        rw [hlj]
                        go_wp2_with fail
                        go_round
                        case rel =>
                          refine ⟨k + 1, t.line, _, by omega, by go_num, rfl, rfl, HOK2.out, by have := HLP.out; omega, ?_⟩
                          have hr := HST.out
                          rw [if_neg (by omega), ← HX4.out] at hr
                          by_cases htot : 40000 < (x2 ++ xt : ByteArray).size
                          · right
                            rw [if_pos (by rw [← size_list]; exact htot)] at hr
                            exact ⟨htot, by rw [HZ4.out]; omega, hr⟩
                          · left
                            rw [if_neg (by rw [← size_list]; exact htot)] at hr
                            exact ⟨by omega, by rw [show decide (k + 1 = 0) = false from decide_eq_false (by omega)]; exact hr.symm⟩
                        case measure => simp [intOf] <;> omega
                · have gd : (t.line == line) = false := beq_eq_false_iff_ne.2 (by omega)
                  have HSP : Hid ((if decide (k = 0) = false ∧ (d : Int) = 0 ∧ t.kind ≠ 0 then [32] else ([] : Txt)) = []) := if_neg (by rintro ⟨_, h, _⟩; omega)
                  clear hk0
                  go_wp2_with fail
                  go_loop [4, 6] (fun lv sv => ∃ (j : Nat) (x2 : ByteArray), j ≤ d ∧ lv = .int .i64 (line + (j : Int)) ∧ sv = .string x2 ∧ x2.data.toList = x.data.toList ++ List.replicate j 10) (fun lv _ => (t.line - intOf lv).toNat)
                  case atStart => exact ⟨0, x, Nat.zero_le _, by simp, rfl, by simp⟩
                  case round =>
                    obtain ⟨j, x2, hj, rfl, rfl, hx2⟩ := hrel
                    have HX2 := Lib.hid hx2
                    have hz2 : x2.size = x.size + j := by
                      rw [size_list, hx2, List.length_append, List.length_replicate, ← size_list]
                      try rfl
                    clear hx2
                    by_cases hjd : j < d
                    · have q5 : line + (j : Int) < t.line := by omega
                      have y1 : -9223372036854775808 ≤ line + (j : Int) + 1 := by omega
                      have y2 : line + (j : Int) + 1 ≤ 9223372036854775807 := by omega
                      have HX3 : Hid ((x2 ++ ⟨#[10]⟩ : ByteArray).data.toList = x.data.toList ++ List.replicate (j + 1) 10) := by show _ = _; rw [xcat_list, HX2.out, ← rep_snoc, ← List.append_assoc]
                      go_wp2_with fail
                      go_round
                      case rel => exact ⟨j + 1, _, by omega, by go_num, rfl, HX3.out⟩
                      case measure => simp [intOf] <;> omega
                    · have hje : j = d := by omega
                      have q5 : ¬ line + (j : Int) < t.line := by omega
                      have HX4 : Hid ((x2 ++ xt : ByteArray).data.toList = x.data.toList ++ gapT (decide (k = 0)) (d : Int) t ++ t.text) := by
                        show _ = _
                        rw [xcat_list, HX2.out, HXT.out, hje]
                        unfold gapT
                        rw [HSP.out, Int.toNat_natCast]
                        simp
                      have hlj : line + (j : Int) = t.line := by omega
                      have HZ4 : Hid ((x2 ++ xt : ByteArray).size = x2.size + xt.size) := by show _ = _; rw [ByteArray.size_append]
                      rw [hlj]
                      go_wp2_with fail
                      go_round
                      case rel =>
                        refine ⟨k + 1, t.line, _, by omega, by go_num, rfl, rfl, HOK2.out, by have := HLP.out; omega, ?_⟩
                        have hr := HST.out
                        rw [if_neg (by omega), ← HX4.out] at hr
                        by_cases htot : 40000 < (x2 ++ xt : ByteArray).size
                        · right
                          rw [if_pos (by rw [← size_list]; exact htot)] at hr
                          exact ⟨htot, by rw [HZ4.out]; omega, hr⟩
                        · left
                          rw [if_neg (by rw [← size_list]; exact htot)] at hr
                          exact ⟨by omega, by rw [show decide (k + 1 = 0) = false from decide_eq_false (by omega)]; exact hr.symm⟩
                      case measure => simp [intOf] <;> omega
            · have q4 : (40000 : Int) < (x.size : Int) := by omega
              have HN := Lib.hid h3
              clear hst h3
              go_wp2_with fail
              go_ret2
              exact text_bad (text_none HCK.out HN.out) HB.out
        · have hke : k = n := by omega
          subst hke
          have q1 : ¬ (k : Int) < (k : Int) := by omega
          rcases hor with ⟨h1, h2⟩ | ⟨h1, h2, h3⟩
          · have q4 : ¬ (40000 : Int) < (x.size : Int) := by omega
            have HN : Hid (textF true 1 [] ts = some x.data.toList) := by
              show _ = _
              rw [List.drop_eq_nil_of_le (by rw [HL.out]; exact Nat.le_refl _)] at h2
              exact h2.symm
            clear h2
            have HG : Hid (TextP (textR ts) w (.returned (.tuple #[.string x, .int .i64 0])) wr) := by
              have := text_good (text_some HCK.out HN.out) HB.out
              rwa [eta_txt] at this
            go_wp2_with fail
            go_ret2
            exact HG.out
          · have q4 : (40000 : Int) < (x.size : Int) := by omega
            have HN := Lib.hid h3
            clear h3
            go_wp2_with fail
            go_ret2
            exact text_bad (text_none HCK.out HN.out) HB.out
end Go.Proofs.YtblakndpionmgaaDoor
