/-
  Contract of the reference's Of.
-/
import Derived.Test.YtfkfbomllkpjjaaDoorBigR4
import Derived.Test.YtfkfbomllkpjjaaDoorBigJ
namespace Go.Proofs.YtfkfbomllkpjjaaDoor
open Go.RowKit

theorem nOf_nonneg' {z : Int} (h : 0 ≤ z) : nOf z = false := decide_eq_false (by omega)

set_option maxHeartbeats 1000000 in
theorem rof_pos (n : Int) (w : World) (h0 : 0 ≤ n) (h2 : n ≤ 9223372036854775807) :
    Calls Tryd.prog 17 #[.int .i64 n] w fun e w' => ∃ B m d, e = .returned (.agg #[.bool (nOf n), .slice B m d]) ∧ Sl w' B m d (lOf n) ∧ Below w.heap.size w w' := by
  obtain ⟨i0, hi, hz0, hz1, hz2⟩ := info_parts int_info
  have hlt : ¬ n < 0 := by omega
  have HNO : Hid (nOf n = false) := nOf_nonneg' h0
  obtain ⟨N, rfl⟩ := Int.eq_ofNat_of_zero_le h0
  have HL : Hid (lOf (N : Int) = digs N) := lOf_nat N
  go_enter Tryd.func17, Tryd.ntmps17
  go_wp2_with fail
  go_loopw [0, 3, 5] (fun sv dv xv wr => ∃ (s : Nat) (l : List Int), sv = .int .i64 ((s : Int)) ∧ s ≤ N ∧ wr.ownsRow (w.heap.size + 1) 3 1 dv l.length (ints l) ∧ dOk l ∧ val l + pw l.length * s = N ∧ (s = 0 → topOk l) ∧ Below w.heap.size w wr ∧ Bx wr w.heap.size (.bool false) (.slice none 0 0)) (fun sv _ _ _ => (intOf sv).natAbs)
  case atStart => exact ⟨N, [], rfl, Nat.le_refl _, own_nil _ _, dOk_nil, by simp [val, pw], fun _ => by simp [topOk], (Below.refl _ _).alloc (Nat.le_refl _) _, Bx.new _ _ _⟩
  case round =>
    obtain ⟨s, l, rfl, hsN, hown, hd, hv, ht, hbw, hbx⟩ := hrel
    have HO := Lib.hid hown
    have HD := Lib.hid hd
    have HV := Lib.hid hv
    have HT := Lib.hid ht
    have HB := Lib.hid hbw
    have HX := Lib.hid hbx
    clear hd hv ht hbw hbx
    have hN : (N : Int) ≤ 9223372036854775807 := h2
    by_cases hs : 0 < s
    · have hl4 := of_bd HD.out HV.out hs (by omega)
      have g0 : (0 : Int) < (s : Int) := by omega
      have g1 : (s : Int) ≤ 9223372036854775807 := by omega
      have HN := Lib.hid (of_step HV.out)
      have HZ := Lib.hid HB.out.size
      have TO : Hid (s / 10000 = 0 → topOk (l ++ [((s % 10000 : Nat) : Int)])) := fun h => topOk_snoc (by omega)
      have q1 : ((s : Int)).tmod 10000 = ((s % 10000 : Nat) : Int) := rfl
      go_wp2_with (at_builtin; refine wpList_append_own_at _ rfl _ _ 22 rfl (w.heap.size + 1) 3 i0 (.int .i64 0) 1 8 Tryd.underlying22 hi hz0 hz1 hz2 rfl (by decide) _ _ _ rfl (HO.out.alloc _) ⟨wr.heap.size, 0, none⟩ 1 1 [.int .i64 ((s % 10000 : Nat) : Int)] rfl rfl ?c1 ?c2 ?c3 ?c4 ?c5 ?_)
      case c1 => exact one_cell wr _
      case c2 => exact ints_one [_]
      case c3 => unfold maxLen; omega
      case c4 => omega
      case c5 => rw [alloc_sz]; have := HX.out.lt; omega
      intro v' w' hown' hg hnn hat
      have HO' := Lib.hid hown'
      have HG := Lib.hid hg
      have HR := Lib.hid (fun k hk => own_row_ge HO.out (k := k) hk)
      clear hown' hg hnn hat
      go_wp2_with fail
      go_roundw
      case rel =>
        refine ⟨s / 10000, l ++ [((s % 10000 : Nat) : Int)], by go_num, by omega, ?_, dOk_snoc HD.out (by omega) (by omega), HN.out, TO.out, ?_, ?_⟩
        · have := HO'.out
          rw [List.length_append, ints_app]
          exact this
        · exact (HB.out.alloc HZ.out _).grown HG.out (by rw [alloc_sz]; have := HZ.out; omega) (fun k hk => by have := HR.out k hk; omega)
        · exact (HX.out.alloc _).grown HG.out (fun e => by have := HR.out _ e; omega)
      case measure => simp [intOf] <;> omega
    · obtain rfl : s = 0 := by omega
      obtain ⟨A, c, rfl, hs⟩ := sl_of_own hown
      have HDG : Hid (digs N = l) := by
        have h1 := digs_val HD.out (HT.out rfl)
        have h2 : val l = N := by have := HV.out; simpa using this
        rw [h2] at h1; exact h1
      have HS := Lib.hid hs
      clear hs hown HO
      have d1 := HX.out.c0
      have d2 := HX.out.c1
      have d3 := HX.out.fz 0
      have d4 := HX.out.fz 1
      go_wp2_with fail
      refine bodyPost_ret (v := .agg #[.bool false, .slice A l.length c]) (by simp [results, Tryd.results17, go_sem, *]) rfl ⟨A, l.length, c, by rw [HNO.out], ?_, ?_⟩
      · rw [HL.out, HDG.out]; exact HS.out.box HX.out.box _ _
      · exact (HB.out.setCell (p := ⟨w.heap.size, 0, none⟩) (by simp) _).setCell (p := ⟨w.heap.size, 1, none⟩) (by simp) _

set_option maxHeartbeats 1000000 in
theorem rof_neg (n : Int) (w : World) (h0 : n < 0) (h2 : -9223372036854775808 ≤ n) :
    Calls Tryd.prog 17 #[.int .i64 n] w fun e w' => ∃ B m d, e = .returned (.agg #[.bool (nOf n), .slice B m d]) ∧ Sl w' B m d (lOf n) ∧ Below w.heap.size w w' := by
  obtain ⟨i0, hi, hz0, hz1, hz2⟩ := info_parts int_info
  have HNO : Hid (nOf n = true) := decide_eq_true h0
  obtain ⟨N, hN⟩ : ∃ N : Nat, n = -(N : Int) := ⟨n.natAbs, by omega⟩
  subst hN
  have h3 : (N : Int) ≤ 9223372036854775808 := by omega
  have h4 : 0 < N := by omega
  have HL : Hid (lOf (-(N : Int)) = digs N) := by show lOf _ = _; rw [lOf_neg]; exact lOf_nat N
  clear h2
  go_enter Tryd.func17, Tryd.ntmps17
  go_wp2_with fail
  go_loopw [0, 3, 5] (fun sv dv xv wr => ∃ (s : Nat) (l : List Int), sv = .int .i64 (-(s : Int)) ∧ s ≤ N ∧ wr.ownsRow (w.heap.size + 1) 3 1 dv l.length (ints l) ∧ dOk l ∧ val l + pw l.length * s = N ∧ (s = 0 → topOk l) ∧ Below w.heap.size w wr ∧ Bx wr w.heap.size (.bool false) (.slice none 0 0)) (fun sv _ _ _ => (intOf sv).natAbs)
  case atStart => exact ⟨N, [], rfl, Nat.le_refl _, own_nil _ _, dOk_nil, by simp [val, pw], fun _ => by simp [topOk], (Below.refl _ _).alloc (Nat.le_refl _) _, Bx.new _ _ _⟩
  case round =>
    obtain ⟨s, l, rfl, hsN, hown, hd, hv, ht, hbw, hbx⟩ := hrel
    have HO := Lib.hid hown
    have HD := Lib.hid hd
    have HV := Lib.hid hv
    have HT := Lib.hid ht
    have HB := Lib.hid hbw
    have HX := Lib.hid hbx
    clear hd hv ht hbw hbx
    have hN : (N : Int) ≤ 9223372036854775808 := h3
    by_cases hs : 0 < s
    · have hl4 := of_bd HD.out HV.out hs (by omega)
      have g0 : (0 : Int) < (s : Int) := by omega
      have g1 : (s : Int) ≤ 9223372036854775808 := by omega
      have HN := Lib.hid (of_step HV.out)
      have HZ := Lib.hid HB.out.size
      have TO : Hid (s / 10000 = 0 → topOk (l ++ [((s % 10000 : Nat) : Int)])) := fun h => topOk_snoc (by omega)
      have q0 : (-(s : Int)).tmod 10000 = -((s % 10000 : Nat) : Int) := by rw [Int.neg_tmod]; rfl
      have q2 : (-(s : Int)).tdiv 10000 = -((s / 10000 : Nat) : Int) := by rw [Int.neg_tdiv]; rfl
      rcases Nat.eq_zero_or_pos (s % 10000) with hz | hz
      · have q1 : (-(s : Int)).tmod 10000 = 0 := by rw [q0, hz]; rfl
        clear q0
        go_wp2_with (at_builtin; refine wpList_append_own_at _ rfl _ _ 22 rfl (w.heap.size + 1) 3 i0 (.int .i64 0) 1 8 Tryd.underlying22 hi hz0 hz1 hz2 rfl (by decide) _ _ _ rfl (HO.out.alloc _) ⟨wr.heap.size, 0, none⟩ 1 1 [.int .i64 0] rfl rfl ?c1 ?c2 ?c3 ?c4 ?c5 ?_)
        case c1 => exact one_cell wr _
        case c2 => exact ints_one [_]
        case c3 => unfold maxLen; omega
        case c4 => omega
        case c5 => rw [alloc_sz]; have := HX.out.lt; omega
        intro v' w' hown' hg hnn hat
        have HO' : Hid (w'.ownsRow (w.heap.size + 1) 3 1 v' (l.length + 1) (ints l ++ [.int .i64 ((s % 10000 : Nat) : Int)])) := by rw [hz]; exact hown'
        have HG := Lib.hid hg
        have HR := Lib.hid (fun k hk => own_row_ge HO.out (k := k) hk)
        clear hown' hg hnn hat
        go_wp2_with fail
        go_roundw
        case rel =>
          refine ⟨s / 10000, l ++ [((s % 10000 : Nat) : Int)], by go_num, by omega, ?_, dOk_snoc HD.out (by omega) (by omega), HN.out, TO.out, ?_, ?_⟩
          · have := HO'.out
            rw [List.length_append, ints_app]
            exact this
          · exact (HB.out.alloc HZ.out _).grown HG.out (by rw [alloc_sz]; have := HZ.out; omega) (fun k hk => by have := HR.out k hk; omega)
          · exact (HX.out.alloc _).grown HG.out (fun e => by have := HR.out _ e; omega)
        case measure => simp [intOf] <;> omega
      · have q3 : -((s % 10000 : Nat) : Int) < 0 := by omega
        go_wp2_with (at_builtin; refine wpList_append_own_at _ rfl _ _ 22 rfl (w.heap.size + 1) 3 i0 (.int .i64 0) 1 8 Tryd.underlying22 hi hz0 hz1 hz2 rfl (by decide) _ _ _ rfl (HO.out.alloc _) ⟨wr.heap.size, 0, none⟩ 1 1 [.int .i64 ((s % 10000 : Nat) : Int)] rfl rfl ?c1 ?c2 ?c3 ?c4 ?c5 ?_)
        case c1 => exact one_cell wr _
        case c2 => exact ints_one [_]
        case c3 => unfold maxLen; omega
        case c4 => omega
        case c5 => rw [alloc_sz]; have := HX.out.lt; omega
        intro v' w' hown' hg hnn hat
        have HO' := Lib.hid hown'
        have HG := Lib.hid hg
        have HR := Lib.hid (fun k hk => own_row_ge HO.out (k := k) hk)
        clear hown' hg hnn hat
        go_wp2_with fail
        go_roundw
        case rel =>
          refine ⟨s / 10000, l ++ [((s % 10000 : Nat) : Int)], by go_num, by omega, ?_, dOk_snoc HD.out (by omega) (by omega), HN.out, TO.out, ?_, ?_⟩
          · have := HO'.out
            rw [List.length_append, ints_app]
            exact this
          · exact (HB.out.alloc HZ.out _).grown HG.out (by rw [alloc_sz]; have := HZ.out; omega) (fun k hk => by have := HR.out k hk; omega)
          · exact (HX.out.alloc _).grown HG.out (fun e => by have := HR.out _ e; omega)
        case measure => simp [intOf] <;> omega
    · obtain rfl : s = 0 := by omega
      obtain ⟨A, c, rfl, hs⟩ := sl_of_own hown
      have HDG : Hid (digs N = l) := by
        have h1 := digs_val HD.out (HT.out rfl)
        have h2 : val l = N := by have := HV.out; simpa using this
        rw [h2] at h1; exact h1
      have HS := Lib.hid hs
      clear hs hown HO
      have d1 := HX.out.c0
      have d2 := HX.out.c1
      have d3 := HX.out.fz 0
      have d4 := HX.out.fz 1
      go_wp2_with fail
      refine bodyPost_ret (v := .agg #[.bool true, .slice A l.length c]) (by simp [results, Tryd.results17, go_sem, *]) rfl ⟨A, l.length, c, by rw [HNO.out], ?_, ?_⟩
      · rw [HL.out, HDG.out]; exact HS.out.box HX.out.box _ _
      · exact (HB.out.setCell (p := ⟨w.heap.size, 0, none⟩) (by simp) _).setCell (p := ⟨w.heap.size, 1, none⟩) (by simp) _

theorem rof_any (n : Int) (w : World) (h1 : -9223372036854775808 ≤ n) (h2 : n ≤ 9223372036854775807) :
    Calls Tryd.prog 17 #[.int .i64 n] w fun e w' => ∃ B m d, e = .returned (.agg #[.bool (nOf n), .slice B m d]) ∧ Sl w' B m d (lOf n) ∧ Below w.heap.size w w' := by
  by_cases h : n < 0
  · exact rof_neg n w h h1
  · exact rof_pos n w (by omega) h2
end Go.Proofs.YtfkfbomllkpjjaaDoor
