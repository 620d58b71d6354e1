/-
  THE STATEMENT LexBlanks IS PROVED: for every text and every remark (the listed tables holding what the program's text lays, tied by the card), the law returns true and its arguments read as before.
-/
import Derived.Test.YtblakndpionmgaaDoorCards
import Derived.Test.YtblakndpionmgaaDoorTie
import Derived.Test.YtblakndpionmgaaDoorLxLaid
import Derived.Test.YtblakndpionmgaaDoorLxBlankMath
import Derived.Test.YtblakndpionmgaaDoorLxV
namespace Go.Proofs.YtblakndpionmgaaDoor.lexBlanks
open Go.ChangeShapes Go.WideShapes Go.ChangeAt Go.RowKit
open Go.ChangeMaps (open_string shut_string)

theorem lcat_list (x y : ByteArray) : (x ++ y).data.toList = x.data.toList ++ y.data.toList := by simp
set_option maxRecDepth 100000 in
set_option maxHeartbeats 16000000 in
theorem walk (s r : ByteArray) (w : World) (htab : Tabx w) (hst : St w) : Calls Tryd.prog 7 #[.string s, .string r] w fun e w' => e = .returned (.bool true) ∧ Below w.heap.size w w' := by
  have HT := Lib.hid htab
  have HS := Lib.hid hst
  have HB0 : Hid (Below w.heap.size w w) := Below.refl _ _
  clear htab hst
  by_cases h3 : s.size ≤ 3000
  · have q3 : ¬ (3000 : Int) < (s.size : Int) := by omega
    by_cases h4 : r.size ≤ 100
    · have q4 : ¬ (100 : Int) < (r.size : Int) := by omega
      go_enter Tryd.func7, Tryd.ntmps7
      go_wp2_with fail
      go_loop [5] (fun i => ∃ k : Nat, k ≤ r.size ∧ i = .int .i64 (k : Int) ∧ (10 : UInt8) ∉ r.data.toList.take k) (fun i => r.size - (intOf i).toNat)
      case atStart => exact ⟨0, Nat.zero_le _, rfl, by simp⟩
      case round =>
        obtain ⟨k, hk, rfl, ha⟩ := hrel
        have HA := Lib.hid ha
        clear ha
        by_cases hlt : k < r.size
        · have q1 : (k : Int) < r.size := by omega
          cases hc : (r[k] == (10 : UInt8)) with
          | true =>
            have qc : ((r[k].toNat : Int) == 10) = true := beq_u8 (n := 10) (by omega) hc
            clear hc
            go_wp2_with fail
            (refine (awake_any w (tabx_on HT.out HB0.out) (HS.out.below HB0.out)).mono ?_); rintro e w9 ⟨rfl, hb⟩
            have HB9 := Lib.hid (nbelow_on HB0.out hb)
            clear hb
            go_wp2_with fail
            go_ret
            exact ⟨rfl, HB9.out⟩
          | false =>
            have qc : ((r[k].toNat : Int) == 10) = false := beq_u8 (n := 10) (by omega) hc
            have HN : Hid ((10 : UInt8) ∉ r.data.toList.take (k + 1)) := by
              show _ ∉ _
              rw [take_one hlt]
              intro hm
              rcases List.mem_append.1 hm with h | h
              · exact HA.out h
              · exact beq_eq_false_iff_ne.1 hc (List.mem_singleton.1 h).symm
            clear hc
            go_wp2_with fail
            go_round
            case rel => exact ⟨k + 1, by omega, by go_num, HN.out⟩
            case measure => simp [intOf] <;> omega
        · have hke : k = r.size := by omega
          have H10 : Hid ((10 : UInt8) ∉ r.data.toList) := by
            have := HA.out
            rwa [hke, List.take_of_length_le (by rw [← size_list]; exact Nat.le_refl _)] at this
          have q1 : ¬ (k : Int) < r.size := by omega
          clear HA
          go_wp2_with fail
          go_loop [6] (fun i => ∃ k : Nat, k ≤ s.size ∧ i = .int .i64 (k : Int) ∧ (35 : UInt8) ∉ s.data.toList.take k) (fun i => s.size - (intOf i).toNat)
          case atStart => exact ⟨0, Nat.zero_le _, rfl, by simp⟩
          case round =>
            obtain ⟨k, hk, rfl, ha⟩ := hrel
            have HA := Lib.hid ha
            clear ha
            by_cases hlt : k < s.size
            · have q1 : (k : Int) < s.size := by omega
              cases hc : (s[k] == (35 : UInt8)) with
              | true =>
                have qc : ((s[k].toNat : Int) == 35) = true := beq_u8 (n := 35) (by omega) hc
                clear hc
                go_wp2_with fail
                (refine (awake_any w (tabx_on HT.out HB0.out) (HS.out.below HB0.out)).mono ?_); rintro e w9 ⟨rfl, hb⟩
                have HB9 := Lib.hid (nbelow_on HB0.out hb)
                clear hb
                go_wp2_with fail
                go_ret
                exact ⟨rfl, HB9.out⟩
              | false =>
                have qc : ((s[k].toNat : Int) == 35) = false := beq_u8 (n := 35) (by omega) hc
                have HN : Hid ((35 : UInt8) ∉ s.data.toList.take (k + 1)) := by
                  show _ ∉ _
                  rw [take_one hlt]
                  intro hm
                  rcases List.mem_append.1 hm with h | h
                  · exact HA.out h
                  · exact beq_eq_false_iff_ne.1 hc (List.mem_singleton.1 h).symm
                clear hc
                go_wp2_with fail
                go_round
                case rel => exact ⟨k + 1, by omega, by go_num, HN.out⟩
                case measure => simp [intOf] <;> omega
            · have hke : k = s.size := by omega
              have H35 : Hid ((35 : UInt8) ∉ s.data.toList) := by
                have := HA.out
                rwa [hke, List.take_of_length_le (by rw [← size_list]; exact Nat.le_refl _)] at this
              have q1 : ¬ (k : Int) < s.size := by omega
              clear HA
              have hbl := tokens_blank (s := s.data.toList) (r := r.data.toList) (by rw [← size_list]; omega) (by rw [← size_list]; omega) H35.out H10.out
              have hfl : (⟨#[32, 9, 35, 32]⟩ ++ r ++ ⟨#[10]⟩ ++ s ++ ⟨#[9, 32, 35]⟩ ++ r : ByteArray).data.toList = [32, 9, 35, 32] ++ r.data.toList ++ [10] ++ s.data.toList ++ [9, 32, 35] ++ r.data.toList := by simp only [lcat_list]
              rw [← hfl] at hbl
              have K1 := tokens_any s w HT.out HS.out
              have K2 := fun W h1 h2 => tokens_any (⟨#[32, 9, 35, 32]⟩ ++ r ++ ⟨#[10]⟩ ++ s ++ ⟨#[9, 32, 35]⟩ ++ r) W h1 h2
              rw [hbl] at K2
              have hln := tokens_lines (l := s.data.toList) (by rw [← size_list]; omega)
              have hkn := tokens_kind (l := s.data.toList) (by rw [← size_list]; omega)
              obtain ⟨ts, z1, z2, hr⟩ : ∃ ts z1 z2, tokens s.data.toList = (ts, z1, z2) := ⟨_, _, _, rfl⟩
              rw [hr] at K1 K2 hln hkn
              simp only at K2 hln hkn
              obtain ⟨hlt, hz0, hz1⟩ := hln
              have HLT := Lib.hid hlt
              clear hlt hr hbl hfl
              obtain ⟨full, hfull⟩ : ∃ full, full = (⟨#[32, 9, 35, 32]⟩ ++ r ++ ⟨#[10]⟩ ++ s ++ ⟨#[9, 32, 35]⟩ ++ r : ByteArray) := ⟨_, rfl⟩
              rw [← hfull] at K2
              have bz : (z2 == z2) = true := beq_self_eq_true z2
              have bz2 : (z2 != z2) = false := by rw [bne, bz]; rfl
              go_wp2_with fail
              (refine K1.mono ?_); rintro e w1 ⟨A, n, c, rfl, hts, hb⟩
              have HA1 := Lib.hid (show Ts w1 A n c ts from hts)
              have HB1 := Lib.hid hb
              clear hts hb K1
              go_wp2_with (rw [← hfull])
              rcases hkn with ⟨hz2, hz1'⟩ | ⟨hz2, hts0⟩
              · subst hz2
                simp only [if_true] at K2
                (refine (K2 _ (tabx_on HT.out HB1.out) (HS.out.below HB1.out)).mono ?_); rintro e w2 ⟨B, n2, c2, rfl, hts, hb⟩
                have HB2 := Lib.hid (show Ts w2 B n2 c2 (ts.map (shT 1)) from hts)
                have HA2 := Lib.hid (HA1.out.below hb)
                have HB2w := Lib.hid (nbelow_on HB1.out hb)
                have HLN := Lib.hid HA1.out.len
                have h47 : n ≤ 9223372036854775807 := Nat.le_trans HA1.out.cap HA1.out.top
                have hn2 : n2 = n := by rw [← HB2.out.len, ← HLN.out, List.length_map]
                subst hn2
                have bn : ((n2 : Int) == (n2 : Int)) = true := beq_self_eq_true _
                have bn2 : ((n2 : Int) != (n2 : Int)) = false := by rw [bne, bn]; rfl
                clear hts hb K2
                go_wp2_with fail
                go_loopw [13] (fun iv wr => ∃ k : Nat, k ≤ n2 ∧ iv = .int .i64 (k : Int) ∧ Below w2.heap.size w2 wr) (fun iv _ => n2 - (intOf iv).toNat)
                case atStart => exact ⟨0, Nat.zero_le _, rfl, Below.refl _ _⟩
                case round =>
                  obtain ⟨k, hk, rfl, hb⟩ := hrel
                  have HW := Lib.hid hb
                  clear hb
                  by_cases hlt : k < n2
                  · obtain ⟨g, o, x, rfl, hg, a0, a1, a2, a3, hx⟩ := HA2.out.at_ hlt
                    obtain ⟨g', o', y, rfl, hg', b0, b1, b2, b3, hy⟩ := HB2.out.at_ hlt
                    have hkl : k < ts.length := by rw [HLN.out]; exact hlt
                    have hmem := getD_mem_tk hkl
                    have hbd := HLT.out _ hmem
                    have hsh : (ts.map (shT 1)).getD k tk0 = shT 1 (ts.getD k tk0) := by simp [List.getD, hkl]
                    rw [hsh] at b0 b2 b3 hy
                    obtain ⟨t, ht⟩ : ∃ t, ts.getD k tk0 = t := ⟨_, rfl⟩
                    rw [ht] at a0 a2 a3 b0 b2 b3 hbd
                    have hxy : (y.toList == x.toList) = true := by
                      have h1 := hx.out
                      have h2 := hy.out
                      rw [tolist_eq, tolist_eq, h1, h2, ht]
                      exact beq_self_eq_true _
                    have s1 : t.line + 1 - 1 = t.line := by omega
                    have s2 : -9223372036854775808 ≤ t.line + 1 - 1 := by omega
                    have s3 : t.line + 1 - 1 ≤ 9223372036854775807 := by omega
                    have r1 : (k : Int) < (n2 : Int) := by omega
                    have t1 : (t.kind == t.kind) = true := beq_self_eq_true _
                    have t3 : (t.n == t.n) = true := beq_self_eq_true _
                    have t4 : (t.line == t.line) = true := beq_self_eq_true _
                    have B0 : Hid (w2.cell? ⟨g', o' + k * 4, none⟩ = some (.int .i64 t.kind)) := b0
                    have B1 : Hid (w2.cell? ⟨g', o' + k * 4 + 1, none⟩ = some (.string y)) := b1
                    have B2 : Hid (w2.cell? ⟨g', o' + k * 4 + 2, none⟩ = some (.int .i64 t.n)) := b2
                    have B3 : Hid (w2.cell? ⟨g', o' + k * 4 + 3, none⟩ = some (.int .i64 (t.line + 1))) := b3
                    have d0 := (HW.out.cell (p := ⟨g', o' + k * 4, none⟩) hg').trans B0.out
                    have d1 := (HW.out.cell (p := ⟨g', o' + k * 4 + 1, none⟩) hg').trans B1.out
                    have d2 := (HW.out.cell (p := ⟨g', o' + k * 4 + 2, none⟩) hg').trans B2.out
                    have d3 := (HW.out.cell (p := ⟨g', o' + k * 4 + 3, none⟩) hg').trans B3.out
                    have HW2 := Lib.hid (HW.out.alloc HW.out.size (.cells #[.int .i64 t.kind, .string y, .int .i64 t.n, .int .i64 t.line] 36))
                    have f0 := (HW2.out.cell (p := ⟨g, o + k * 4, none⟩) hg).trans a0
                    have f1 := (HW2.out.cell (p := ⟨g, o + k * 4 + 1, none⟩) hg).trans a1
                    have f2 := (HW2.out.cell (p := ⟨g, o + k * 4 + 2, none⟩) hg).trans a2
                    have f3 := (HW2.out.cell (p := ⟨g, o + k * 4 + 3, none⟩) hg).trans a3
                    have BK := Bk.new 36 wr #[.int .i64 t.kind, .string y, .int .i64 t.n, .int .i64 t.line]
                    have e0 := BK.c 0 (v := .int .i64 t.kind) rfl
                    have e1 := BK.c 1 (v := .string y) rfl
                    have e2 := BK.c 2 (v := .int .i64 t.n) rfl
                    have e3 := BK.c 3 (v := .int .i64 t.line) rfl
                    clear a0 a1 a2 a3 b0 b1 b2 b3 hx hy hsh hmem ht hkl hbd BK hg hg'
                    go_upto_region 22 with fail
                    go_quiet (fail)
                    go_wp2_with fail
                    go_roundw
                    case rel => exact ⟨k + 1, by omega, by go_num, below_dn HW2.out _⟩
                    case measure => simp [intOf] <;> omega
                  · have hke : k = n2 := by omega
                    subst hke
                    have HWW := Lib.hid (HB2w.out.trans (HW.out.mono HB2w.out.size))
                    go_wp2_with fail
                    (refine (awake_any wr (tabx_on HT.out HWW.out) (HS.out.below HWW.out)).mono ?_); rintro e w9 ⟨rfl, hb⟩
                    have HB9 := Lib.hid (nbelow_on HWW.out hb)
                    clear hb
                    go_wp2_with fail
                    go_ret
                    exact ⟨rfl, HB9.out⟩
              · subst hz2
                have e14 : ¬ (14 : Int) = 0 := by decide
                simp only [e14, if_false] at K2
                have bk : (z1 + 1 == z1 + 1) = true := beq_self_eq_true _
                have bk2 : (z1 + 1 != z1 + 1) = false := by rw [bne, bk]; rfl
                have s5 : z1 + 1 ≤ 9223372036854775807 := by omega
                (refine (K2 _ (tabx_on HT.out HB1.out) (HS.out.below HB1.out)).mono ?_); rintro e w2 ⟨B, n2, c2, rfl, hts, hb⟩
                have HB2 := Lib.hid (show Ts w2 B n2 c2 (ts.map (shT 1)) from hts)
                have HA2 := Lib.hid (HA1.out.below hb)
                have HB2w := Lib.hid (nbelow_on HB1.out hb)
                have HLN := Lib.hid HA1.out.len
                have h47 : n ≤ 9223372036854775807 := Nat.le_trans HA1.out.cap HA1.out.top
                have hn2 : n2 = n := by rw [← HB2.out.len, ← HLN.out, List.length_map]
                subst hn2
                have bn : ((n2 : Int) == (n2 : Int)) = true := beq_self_eq_true _
                have bn2 : ((n2 : Int) != (n2 : Int)) = false := by rw [bne, bn]; rfl
                clear hts hb K2
                go_wp2_with fail
                go_loopw [13] (fun iv wr => ∃ k : Nat, k ≤ n2 ∧ iv = .int .i64 (k : Int) ∧ Below w2.heap.size w2 wr) (fun iv _ => n2 - (intOf iv).toNat)
                case atStart => exact ⟨0, Nat.zero_le _, rfl, Below.refl _ _⟩
                case round =>
                  obtain ⟨k, hk, rfl, hb⟩ := hrel
                  have HW := Lib.hid hb
                  clear hb
                  by_cases hlt : k < n2
                  · obtain ⟨g, o, x, rfl, hg, a0, a1, a2, a3, hx⟩ := HA2.out.at_ hlt
                    obtain ⟨g', o', y, rfl, hg', b0, b1, b2, b3, hy⟩ := HB2.out.at_ hlt
                    have hkl : k < ts.length := by rw [HLN.out]; exact hlt
                    have hmem := getD_mem_tk hkl
                    have hbd := HLT.out _ hmem
                    have hsh : (ts.map (shT 1)).getD k tk0 = shT 1 (ts.getD k tk0) := by simp [List.getD, hkl]
                    rw [hsh] at b0 b2 b3 hy
                    obtain ⟨t, ht⟩ : ∃ t, ts.getD k tk0 = t := ⟨_, rfl⟩
                    rw [ht] at a0 a2 a3 b0 b2 b3 hbd
                    have hxy : (y.toList == x.toList) = true := by
                      have h1 := hx.out
                      have h2 := hy.out
                      rw [tolist_eq, tolist_eq, h1, h2, ht]
                      exact beq_self_eq_true _
                    have s1 : t.line + 1 - 1 = t.line := by omega
                    have s2 : -9223372036854775808 ≤ t.line + 1 - 1 := by omega
                    have s3 : t.line + 1 - 1 ≤ 9223372036854775807 := by omega
                    have r1 : (k : Int) < (n2 : Int) := by omega
                    have t1 : (t.kind == t.kind) = true := beq_self_eq_true _
                    have t3 : (t.n == t.n) = true := beq_self_eq_true _
                    have t4 : (t.line == t.line) = true := beq_self_eq_true _
                    have B0 : Hid (w2.cell? ⟨g', o' + k * 4, none⟩ = some (.int .i64 t.kind)) := b0
                    have B1 : Hid (w2.cell? ⟨g', o' + k * 4 + 1, none⟩ = some (.string y)) := b1
                    have B2 : Hid (w2.cell? ⟨g', o' + k * 4 + 2, none⟩ = some (.int .i64 t.n)) := b2
                    have B3 : Hid (w2.cell? ⟨g', o' + k * 4 + 3, none⟩ = some (.int .i64 (t.line + 1))) := b3
                    have d0 := (HW.out.cell (p := ⟨g', o' + k * 4, none⟩) hg').trans B0.out
                    have d1 := (HW.out.cell (p := ⟨g', o' + k * 4 + 1, none⟩) hg').trans B1.out
                    have d2 := (HW.out.cell (p := ⟨g', o' + k * 4 + 2, none⟩) hg').trans B2.out
                    have d3 := (HW.out.cell (p := ⟨g', o' + k * 4 + 3, none⟩) hg').trans B3.out
                    have HW2 := Lib.hid (HW.out.alloc HW.out.size (.cells #[.int .i64 t.kind, .string y, .int .i64 t.n, .int .i64 t.line] 36))
                    have f0 := (HW2.out.cell (p := ⟨g, o + k * 4, none⟩) hg).trans a0
                    have f1 := (HW2.out.cell (p := ⟨g, o + k * 4 + 1, none⟩) hg).trans a1
                    have f2 := (HW2.out.cell (p := ⟨g, o + k * 4 + 2, none⟩) hg).trans a2
                    have f3 := (HW2.out.cell (p := ⟨g, o + k * 4 + 3, none⟩) hg).trans a3
                    have BK := Bk.new 36 wr #[.int .i64 t.kind, .string y, .int .i64 t.n, .int .i64 t.line]
                    have e0 := BK.c 0 (v := .int .i64 t.kind) rfl
                    have e1 := BK.c 1 (v := .string y) rfl
                    have e2 := BK.c 2 (v := .int .i64 t.n) rfl
                    have e3 := BK.c 3 (v := .int .i64 t.line) rfl
                    clear a0 a1 a2 a3 b0 b1 b2 b3 hx hy hsh hmem ht hkl hbd BK hg hg'
                    go_upto_region 22 with fail
                    go_quiet (fail)
                    go_wp2_with fail
                    go_roundw
                    case rel => exact ⟨k + 1, by omega, by go_num, below_dn HW2.out _⟩
                    case measure => simp [intOf] <;> omega
                  · have hke : k = n2 := by omega
                    subst hke
                    have HWW := Lib.hid (HB2w.out.trans (HW.out.mono HB2w.out.size))
                    go_wp2_with fail
                    (refine (awake_any wr (tabx_on HT.out HWW.out) (HS.out.below HWW.out)).mono ?_); rintro e w9 ⟨rfl, hb⟩
                    have HB9 := Lib.hid (nbelow_on HWW.out hb)
                    clear hb
                    go_wp2_with fail
                    go_ret
                    exact ⟨rfl, HB9.out⟩
    · have q4 : (100 : Int) < (r.size : Int) := by omega
      go_enter Tryd.func7, Tryd.ntmps7
      go_wp2_with fail
      (refine (awake_any w (tabx_on HT.out HB0.out) (HS.out.below HB0.out)).mono ?_); rintro e w9 ⟨rfl, hb⟩
      have HB9 := Lib.hid (nbelow_on HB0.out hb)
      clear hb
      go_wp2_with fail
      go_ret
      exact ⟨rfl, HB9.out⟩
  · have q3 : (3000 : Int) < (s.size : Int) := by omega
    go_enter Tryd.func7, Tryd.ntmps7
    go_wp2_with fail
    (refine (awake_any w (tabx_on HT.out HB0.out) (HS.out.below HB0.out)).mono ?_); rintro e w9 ⟨rfl, hb⟩
    have HB9 := Lib.hid (nbelow_on HB0.out hb)
    clear hb
    go_wp2_with fail
    go_ret
    exact ⟨rfl, HB9.out⟩

set_option maxRecDepth 100000 in
theorem contract (H : Type) (enc : TypeId × Value → H) (W : World) (base : Nat) (args : Array Value) (ds gs : List (DataW H)) (before : List MemPlace)
    (hval : ∀ (j : Nat) t v, Tryd.f7.params[j]? = some t → args[j]? = some v → Value.okWide Tryd.prog W .any base t v)
    (hW : DataW.Whole enc Tryd.prog Tryd.f7.params.toList Rows.lexBlanksSpec.vars false W args.toList ds gs before) (hL : laidMetH Tryd.prog Rows.lexBlanksRow.laid W) (_hSh : W.ShapedOpen Tryd.prog) :
    Calls Tryd.prog 7 args W fun e W' => ∃ v, e = .returned v ∧ Rows.lexBlanksSpec.post enc Tryd.prog Tryd.f7 false true false false W args v W' := by
  have hW' := hW
  obtain ⟨p, q, hA0, hV, rfl, hfz, hnd⟩ := hW
  have hA : DataW.TrodAll enc Tryd.prog W 0 (fun _ => true) true Tryd.f7.params.toList args.toList ds p := hA0
  have hlt : ∀ x ∈ p, x.block < W.heap.size := fun x hx => hW'.lt x (by simp [hx])
  have hAll := hA
  rw [Tryd.params7] at hA hval
  obtain ⟨v0, vs0, d0, ds0, p0, q0, hargs, rfl, rfl, h0, r0⟩ := trodAll_cons hA
  obtain ⟨v1, vs1, d1, ds1, p1, q1, rfl, rfl, rfl, h1, r1⟩ := trodAll_cons r0
  obtain ⟨rfl, rfl, rfl⟩ := trodAll_nil r1
  obtain rfl : args = #[v0, v1] := by cases args; simp_all
  obtain ⟨rfl, rfl⟩ := trodVars_none hV
  obtain ⟨t1, rfl, _, _, g1⟩ := open_string Tryd.underlying9 (hval 0 9 v0 rfl rfl) h0
  obtain ⟨t2, rfl, _, _, g2⟩ := open_string Tryd.underlying9 (hval 1 9 v1 rfl rfl) h1
  refine (walk t1 t2 W (tabx_of_laid hL) (st_of_laid hL)).mono fun e W' ⟨he, hg⟩ => ?_
  subst he
  refine ⟨_, rfl, _, _, _, [], _, [], hW', trodAll_mk1 (shut_bool Tryd.underlying4 _), trodAll_below hg (fun t ht => ?_) hAll hlt, rfl, hg.frame _, fun h => by cases h⟩
  rw [Tryd.params7] at ht
  simp only [List.mem_cons, List.not_mem_nil, or_false] at ht
  rcases ht with rfl | rfl
  · exact read_string
  · exact read_string

set_option maxRecDepth 100000 in
theorem reads (os : Os) {H : Type} (enc : TypeId × Value → H) : ∃ places, DataW.whole enc Tryd.prog ((World.laidAll Tryd.prog os laidNames).forCall (fun _ _ => 0) ⟨#[], #[Value.string ByteArray.empty, Value.string ByteArray.empty], []⟩).memory Tryd.f7.params.toList Rows.lexBlanksSpec.vars false #[Value.string ByteArray.empty, Value.string ByteArray.empty].toList 8 = some ([.lit (.string []), .lit (.string [])], [], places) :=
  ⟨[], by kernel_rfl⟩

set_option maxRecDepth 100000 in
theorem lifted (os : Os) (started : os.Started) (H : Type) (enc : TypeId × Value → H) (F : Stop.Interp) :
    ReturnsInHanded {} Tryd.checked os 7 .any ((OpenSpec.ofChange Rows.lexBlanksSpec).preRow enc Tryd.prog Tryd.f7 Rows.lexBlanksRow.domain false Rows.lexBlanksRow.laid) (((OpenSpec.ofChange Rows.lexBlanksSpec).at F).post enc Tryd.prog Tryd.f7 false true false false) := by
  obtain ⟨places, hx⟩ := reads os enc
  refine returnsInHanded_of_row (C := Tryd.checked) (s := OpenSpec.ofChange Rows.lexBlanksSpec) own started (by kernel_rfl) Tryd.func7
    (witness_row_at (enc := enc) (C := Tryd.checked) false (World.laidAll Tryd.prog os laidNames) #[Value.string ByteArray.empty, Value.string ByteArray.empty] rfl (by kernel_rfl) (by kernel_rfl) (by kernel_rfl)
      (OpenSpec.preRow_of_cond 8 hx (by kernel_rfl) (fun k hk => by cases hk) (by kernel_rfl) (laid_met os _))) ?_
  intro W base args ds gs before hval hW _ _ _ hL hSh _
  exact contract H enc W base args ds gs before hval hW hL hSh

theorem said : Rows.LexBlanksSaid :=
  OpenClaim.holds_of_cond 7 Tryd.f7 rfl rfl rfl rfl rfl rfl rfl ⟨rfl, rfl, rfl, rfl, rfl⟩ rfl rfl rfl rfl rfl (by kernel_rfl) Tryd.func7 (by kernel_rfl)
    (of_decide_eq_true (by kernel_rfl)) (by unfold Func.isWrapper; first | (rw [if_pos (by decide +kernel)]; kernel_rfl) | (rw [if_neg (by decide +kernel)]; exact ⟨rfl, rfl⟩))
    (fun os started H enc _ F => by rw [OpenClaim.pre_eq_preRow]; exact lifted os started H enc F)

theorem plain (f : FuncId) (fn : Func) (hf : Tryd.pinned.checked.prog.funcNamed "liquidcheck/liquidchecklaw05.LexBlanks" = some f) (hfn : Tryd.pinned.checked.prog.funcs[f]? = some fn) :
    false = Tryd.pinned.checked.prog.looks [] ∧ ∀ (j : Nat) t, fn.params[j]? = some t → Tryd.pinned.checked.prog.wantsStandIn t = false := by
  obtain rfl : f = 7 := Option.some.inj ((show Tryd.prog.funcNamed "liquidcheck/liquidchecklaw05.LexBlanks" = some 7 by kernel_rfl).symm.trans hf) |>.symm
  obtain rfl : fn = Tryd.f7 := (Option.some.inj (Tryd.func7.symm.trans hfn)).symm
  refine ⟨by kernel_rfl, fun j t ht => ?_⟩
  rw [Tryd.params7] at ht
  have hm := Array.mem_of_getElem? ht
  simp only [List.mem_toArray, List.mem_cons, List.not_mem_nil, or_false] at hm
  rcases hm with rfl | rfl
  · exact (show Tryd.prog.wantsStandIn 9 = false by kernel_rfl)
  · exact (show Tryd.prog.wantsStandIn 9 = false by kernel_rfl)

theorem card : Rows.LexBlanksCardSaid :=
  Claim7.holds_tied_plain_at .later [] _ _ _ _ said (fun _ h => by cases h) (by kernel_rfl) (fun _ h => by cases h) lexBlanks_row_tie rfl ⟨rfl, rfl⟩ (by kernel_rfl) rfl plain (by kernel_rfl)
end Go.Proofs.YtblakndpionmgaaDoor.lexBlanks
