/-
  The reference's Tokens.
-/
import Derived.Test.YtblakndpionmgaaDoorLxS
import Derived.Test.YtblakndpionmgaaDoorLxT
namespace Go.Proofs.YtblakndpionmgaaDoor
open Go.RowKit

set_option maxRecDepth 100000 in
set_option maxHeartbeats 16000000 in
theorem xtokens_short (s : ByteArray) (w : World) (hsz : s.size ≤ 40000) : Calls Tryd.prog 20 #[.string s] w fun e w' => TokP (toksF (s.size + 1) false 1 s.data.toList []) w e w' := by
  have p40 : ¬ (40000 : Int) < (s.size : Int) := by omega
  obtain ⟨RES, hres⟩ : ∃ R, toksF (s.size + 1) false 1 s.data.toList [] = R := ⟨_, rfl⟩
  rw [hres]
  have HR := Lib.hid hres
  clear hres
  go_enter Tryd.func20, Tryd.ntmps20
  go_wp2_with fail
  go_loopw [5, 6, 7, 8] (fun lv nv cv iv wr => ∃ (i : Nat) (cm : Bool) (line : Int) (acc : List Tk) (f : Nat), i ≤ s.size ∧ iv = .int .i64 (i : Int) ∧ cv = .bool cm ∧ nv = .int .i64 line ∧ wr.ownsRow w.heap.size 36 4 lv acc.length (acc.flatMap encTk) ∧ Below w.heap.size w wr ∧ s.size - i < f ∧ toksF f cm line (s.data.toList.drop i) acc = RES ∧ 1 ≤ line ∧ line + (s.size - i : Nat) ≤ 40001 ∧ acc.length + (s.size - i : Nat) ≤ 40000) (fun _ _ _ iv _ => s.size - (intOf iv).toNat)
  case atStart => exact ⟨0, false, 1, [], s.size + 1, Nat.zero_le _, rfl, rfl, rfl, trow_nil _ _, Below.refl _ _, by omega, HR.out, by omega, by omega, by simpa using hsz⟩
  case round =>
    obtain ⟨i, cm, line, acc, f, hi, rfl, rfl, rfl, ho, hb, hf, hR, hl1, hl2, hacc⟩ := hrel
    have HO := Lib.hid ho
    have HB := Lib.hid hb
    have HRR := Lib.hid hR
    clear ho hb hR p40
    cases f with
    | zero => omega
    | succ f =>
      by_cases hlt : i < s.size
      · have q1 : (i : Int) < s.size := by omega
        have b1 : -9223372036854775808 ≤ line + 1 := by omega
        have b2 : line + 1 ≤ 9223372036854775807 := by omega
        cases h10 : (s[i] == (10 : UInt8)) with
        | true =>
          have q10 : ((s[i].toNat : Int) == 10) = true := beq_u8 (n := 10) (by omega) h10
          have HE : Hid (toksF (f + 1) false (line + 1) (s.data.toList.drop (i + 1)) acc = RES) := by
            show _ = _
            rw [← HRR.out, bdrop_at hlt]
            rw [show s[i] = 10 from beq_iff_eq.1 h10]
            exact toks_nl.symm
          clear h10
          go_wp2_with fail
          go_roundw
          case rel => exact ⟨i + 1, false, (line + 1), acc, f + 1, by omega, by go_num, rfl, rfl, HO.out, HB.out, by omega, HE.out, by omega, by omega, by omega⟩
          case measure => simp [intOf] <;> omega
        | false =>
          cases cm with
          | true =>
            have q10 : ((s[i].toNat : Int) == 10) = false := beq_u8 (n := 10) (by omega) h10
            have HE : Hid (toksF (f + 1) true line (s.data.toList.drop (i + 1)) acc = RES) := by
              show _ = _
              rw [← HRR.out, bdrop_at hlt]
              exact (toks_skip (beq_eq_false_iff_ne.1 h10) (.inl rfl)).symm
            clear h10
            go_wp2_with fail
            go_roundw
            case rel => exact ⟨i + 1, true, line, acc, f + 1, by omega, by go_num, rfl, rfl, HO.out, HB.out, by omega, HE.out, by omega, by omega, by omega⟩
            case measure => simp [intOf] <;> omega
          | false =>
            cases h32 : (s[i] == (32 : UInt8)) with
            | true =>
              have q10 : ((s[i].toNat : Int) == 10) = false := beq_u8 (n := 10) (by omega) h10
              have q32 : ((s[i].toNat : Int) == 32) = true := beq_u8 (n := 32) (by omega) h32
              have HE : Hid (toksF (f + 1) false line (s.data.toList.drop (i + 1)) acc = RES) := by
                show _ = _
                rw [← HRR.out, bdrop_at hlt]
                exact (toks_skip (beq_eq_false_iff_ne.1 h10) (.inr (.inl (beq_iff_eq.1 h32)))).symm
              clear h10 h32
              go_wp2_with fail
              go_roundw
              case rel => exact ⟨i + 1, false, line, acc, f + 1, by omega, by go_num, rfl, rfl, HO.out, HB.out, by omega, HE.out, by omega, by omega, by omega⟩
              case measure => simp [intOf] <;> omega
            | false =>
              cases h9 : (s[i] == (9 : UInt8)) with
              | true =>
                have q10 : ((s[i].toNat : Int) == 10) = false := beq_u8 (n := 10) (by omega) h10
                have q32 : ((s[i].toNat : Int) == 32) = false := beq_u8 (n := 32) (by omega) h32
                have q9 : ((s[i].toNat : Int) == 9) = true := beq_u8 (n := 9) (by omega) h9
                have HE : Hid (toksF (f + 1) false line (s.data.toList.drop (i + 1)) acc = RES) := by
                  show _ = _
                  rw [← HRR.out, bdrop_at hlt]
                  exact (toks_skip (beq_eq_false_iff_ne.1 h10) (.inr (.inr (beq_iff_eq.1 h9)))).symm
                clear h10 h32 h9
                go_wp2_with fail
                go_roundw
                case rel => exact ⟨i + 1, false, line, acc, f + 1, by omega, by go_num, rfl, rfl, HO.out, HB.out, by omega, HE.out, by omega, by omega, by omega⟩
                case measure => simp [intOf] <;> omega
              | false =>
                cases h35 : (s[i] == (35 : UInt8)) with
                | true =>
                  have q10 : ((s[i].toNat : Int) == 10) = false := beq_u8 (n := 10) (by omega) h10
                  have q32 : ((s[i].toNat : Int) == 32) = false := beq_u8 (n := 32) (by omega) h32
                  have q9 : ((s[i].toNat : Int) == 9) = false := beq_u8 (n := 9) (by omega) h9
                  have q35 : ((s[i].toNat : Int) == 35) = true := beq_u8 (n := 35) (by omega) h35
                  have HE : Hid (toksF (f + 1) true line (s.data.toList.drop (i + 1)) acc = RES) := by
                    show _ = _
                    rw [← HRR.out, bdrop_at hlt]
                    rw [show s[i] = 35 from beq_iff_eq.1 h35]
                    exact toks_hash.symm
                  clear h10 h32 h9 h35
                  go_wp2_with fail
                  go_roundw
                  case rel => exact ⟨i + 1, true, line, acc, f + 1, by omega, by go_num, rfl, rfl, HO.out, HB.out, by omega, HE.out, by omega, by omega, by omega⟩
                  case measure => simp [intOf] <;> omega
                | false =>
                  have q10 : ((s[i].toNat : Int) == 10) = false := beq_u8 (n := 10) (by omega) h10
                  have q32 : ((s[i].toNat : Int) == 32) = false := beq_u8 (n := 32) (by omega) h32
                  have q9 : ((s[i].toNat : Int) == 9) = false := beq_u8 (n := 9) (by omega) h9
                  have q35 : ((s[i].toNat : Int) == 35) = false := beq_u8 (n := 35) (by omega) h35
                  have hg0 : gapN false (s.data.toList.drop i) = 0 := by rw [bdrop_at hlt]; exact gap_zero (beq_eq_false_iff_ne.1 h10) (beq_eq_false_iff_ne.1 h35) (beq_eq_false_iff_ne.1 h32) (beq_eq_false_iff_ne.1 h9)
                  obtain ⟨y, hy⟩ : ∃ y, s.extract i s.size = y := ⟨_, rfl⟩
                  have hyl : y.data.toList = s.data.toList.drop i := by rw [← hy, ext_drop]
                  have hys : y.size = s.size - i := by rw [size_list, hyl, List.length_drop, ← size_list]
                  have HY := Lib.hid hy
                  have CF := fun W => xfirst_any y W (by omega) (by omega)
                  have q3 : (0 : Int) ≤ (i : Int) ∧ (i : Int) ≤ (s.size : Int) := by omega
                  cases hft : firstT y.data.toList with
                  | none =>
                    have hE := toks_bad (f := f) (cm := false) (line := line) (l := s.data.toList.drop i) (acc := acc) (by rw [hg0, List.drop_zero, bdrop_at hlt]; simp) (by rw [hg0, List.drop_zero, ← hyl]; exact hft)
                    rw [hg0, HRR.out, List.take_zero, show lfs [] = 0 from rfl, Int.add_zero] at hE
                    have HE := Lib.hid hE
                    rw [hft] at CF
                    clear hE hg0 hyl hft hy h10 h32 h9 h35
                    go_wp2_with fail
                    rw [HY.out]
                    go_wp2_with fail
                    (refine (CF _).mono ?_); rintro e W2 ⟨k, m, x, ok, rfl, hok, hsome, hb⟩
                    have HB2 := Lib.hid (nbelow_on HB.out hb)
                    have HO2 := Lib.hid (trow_below HO.out hb)
                    have HB3 := Lib.hid (HB2.out.alloc HB2.out.size (.cells #[.int .i64 k, .string x, .int .i64 m, .int .i64 0] 36))
                    clear hb CF
                    obtain rfl : ok = false := hok
                    go_wp2_with fail
                    go_ret3
                    exact tok_nil HE.out HB3.out
                  | some t =>
                    obtain ⟨ht1, ht2, -, -, -, -, -⟩ := first_facts hft
                    have hE := toks_go (f := f) (cm := false) (line := line) (l := s.data.toList.drop i) (acc := acc) (by rw [hg0, List.drop_zero, ← hyl]; exact hft)
                    rw [hg0, HRR.out, List.take_zero, show lfs [] = 0 from rfl, Int.add_zero, List.drop_zero, List.drop_drop] at hE
                    have HE := Lib.hid hE
                    rw [← size_list] at ht2
                    rw [hft] at CF
                    clear hE hg0 hyl hft hy h10 h32 h9 h35
                    go_wp2_with fail
                    rw [HY.out]
                    go_wp2_with fail
                    (refine (CF _).mono ?_); rintro e W2 ⟨k, m, x, ok, rfl, hok, hsome, hb⟩
                    have HB2 := Lib.hid (nbelow_on HB.out hb)
                    have HO2 := Lib.hid (trow_below HO.out hb)
                    have HB3 := Lib.hid (HB2.out.alloc HB2.out.size (.cells #[.int .i64 k, .string x, .int .i64 m, .int .i64 0] 36))
                    clear hb CF
                    obtain rfl : ok = true := hok
                    obtain ⟨hk1, hx1, hm1⟩ := hsome t rfl
                    have HX1 := Lib.hid hx1
                    have hxz : x.size = t.text.length := by rw [size_list, hx1]
                    rw [← hxz] at ht1 ht2 HE
                    rw [← hk1, ← hm1] at HE
                    clear hsome hk1 hm1 hx1
                    have BK := Lib.hid (Bk.new 36 W2 #[.int .i64 k, .string x, .int .i64 m, .int .i64 line])
                    have HB4 := Lib.hid (HB2.out.alloc HB2.out.size (.cells #[.int .i64 k, .string x, .int .i64 m, .int .i64 line] 36))
                    have HO4 := Lib.hid (trow_below HO2.out ((Below.refl _ _).alloc (Nat.le_refl _) (.cells #[.int .i64 k, .string x, .int .i64 m, .int .i64 line] 36)))
                    have HBW := Lib.hid (HB4.out.alloc HB4.out.size (.cells #[.int .i64 k, .string x, .int .i64 m, .int .i64 line] 36))
                    have HOW := Lib.hid (trow_below HO4.out ((Below.refl _ _).alloc (Nat.le_refl _) (.cells #[.int .i64 k, .string x, .int .i64 m, .int .i64 line] 36)))
                    have BW2 := Lib.hid (BK.out.alloc (.cells #[.int .i64 k, .string x, .int .i64 m, .int .i64 line] 36))
                    have HBO := Lib.hid (fun q hq => (HO2.out.lt q hq).2)
                    go_wp2_with (at_builtin; refine wpList_append_tk _ rfl _ _ rfl w.heap.size HBW.out.size _ acc rfl HOW.out _ ⟨k, t.text, m, line⟩ rfl (bk_tok (by simp) HX1.out) (by omega) ?_; intro v5 w5 hr5 hg5 ho5; have BF : Hid (Bk 36 w5 W2.heap.size #[.int .i64 k, .string x, .int .i64 m, .int .i64 line]) := (hg5.block W2.heap.size BW2.out.lt (fun e => Nat.lt_irrefl _ (HBO.out _ e.symm))).trans BW2.out; have e1 := BF.out.c 1 (v := .string x) rfl)
                    have HB6 : Hid (Below w.heap.size w w5) := HBW.out.grown hg5 HBW.out.size (fun q hq => trow_ge HOW.out hq)
                    have HR5 := Lib.hid hr5
                    clear hr5 hg5 ho5 e1
                    go_wp2_with fail
                    go_roundw
                    case rel => exact ⟨i + x.size, false, line, _, f, by omega, by go_num, rfl, rfl, HR5.out, HB6.out, by omega, HE.out.symm, by omega, by omega, by rw [List.length_append]; simp; omega⟩
                    case measure => simp [intOf] <;> omega
      · have hke : i = s.size := by omega
        have hd : s.data.toList.drop i = [] := List.drop_eq_nil_of_le (by rw [← size_list]; omega)
        have hE := toks_end (f := f) (cm := cm) (line := line) (l := s.data.toList.drop i) (acc := acc) (by rw [hd]; simp)
        rw [HRR.out, hd, show gapN cm [] = 0 from by cases cm <;> rfl, List.take_nil, show lfs [] = 0 from rfl, Int.add_zero] at hE
        have HE := Lib.hid hE
        have q1 : ¬ (i : Int) < s.size := by omega
        have HBW := Lib.hid (HB.out.alloc HB.out.size (.cells #[.int .i64 0, .string ⟨#[]⟩, .int .i64 0, .int .i64 line] 36))
        have HOW := Lib.hid (trow_below HO.out ((Below.refl _ _).alloc (Nat.le_refl _) (.cells #[.int .i64 0, .string ⟨#[]⟩, .int .i64 0, .int .i64 line] 36)))
        clear hE hd
        go_wp2_with (at_builtin; refine wpList_append_tk _ rfl _ _ rfl w.heap.size HBW.out.size _ acc rfl HOW.out _ ⟨0, [], 0, line⟩ rfl (Bk.new 36 _ _) (by omega) ?_; intro v5 w5 hr5 hg5 ho5)
        have HB5 : Hid (Below w.heap.size w w5) := HBW.out.grown hg5 HBW.out.size (fun q hq => trow_ge HOW.out hq)
        have HR5 := Lib.hid hr5
        clear hr5 hg5 ho5
        go_wp2_with fail
        go_ret3
        exact tok_row HE.out HR5.out HB5.out
theorem xtokens_any (s : ByteArray) (w : World) : Calls Tryd.prog 20 #[.string s] w fun e w' => TokP (tokens s.data.toList) w e w' := by
  by_cases h : s.size ≤ 40000
  · have e : tokens s.data.toList = toksF (s.size + 1) false 1 s.data.toList [] := by
      unfold tokens
      rw [if_neg (by rw [← size_list]; omega), ← size_list]
    rw [e]
    exact xtokens_short s w h
  · have HE : Hid (tokens s.data.toList = ([], 0, 7)) := by
      show _ = _
      unfold tokens
      rw [if_pos (by rw [← size_list]; omega)]
    have p40 : (40000 : Int) < (s.size : Int) := by omega
    clear h
    go_enter Tryd.func20, Tryd.ntmps20
    go_wp2_with fail
    go_ret3
    exact tok_nil HE.out (Below.refl _ _)
end Go.Proofs.YtblakndpionmgaaDoor
