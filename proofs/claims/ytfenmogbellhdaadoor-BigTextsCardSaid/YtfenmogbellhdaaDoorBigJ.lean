/-
  Contract of the program's Of.
-/
import Derived.Test.YtfenmogbellhdaaDoorBigG
import Derived.Maps.AppendAt
import Derived.Laws.AppendOwn
namespace Go.Proofs.YtfenmogbellhdaaDoor
open Go.RowKit

/-- A slice that the call made reads as a list. -/
theorem sl_of_own {w : World} {base : Nat} {v : Value} {l : List Int} (h : w.ownsRow base 3 1 v l.length (ints l)) : ∃ A c, v = .slice A l.length c ∧ Sl w A l.length c l := by
  rcases h.2 with ⟨rfl, h0⟩ | ⟨g, cap, cur, rfl, hb, hg, hnc, hcm, hsz, htk⟩
  · have : l = [] := List.eq_nil_of_length_eq_zero h0
    subst this
    exact ⟨none, 0, rfl, Sl.nil w⟩
  · refine ⟨_, cap, rfl, rfl, hnc, by simpa [maxLen] using hcm, fun hn => ⟨g, 0, rfl, ?_, fun k hk => ?_⟩⟩
    · rcases Nat.lt_or_ge g w.heap.size with hlt | hge
      · exact hlt
      · rw [Array.getElem?_eq_none hge] at hg; cases hg
    · have h1 : (ints l)[k]? = some (.int .i64 (l.getD k 0)) := ints_at hk
      rw [← htk, Nat.mul_one, List.getElem?_take, if_pos hk, Array.getElem?_toList] at h1
      unfold World.cell?
      simp only [hg, Nat.zero_add]
      simpa using h1
theorem own_nil (w : World) (base : Nat) : w.ownsRow base 3 1 (.slice none 0 0) ([] : List Int).length (ints []) := ⟨rfl, .inl ⟨rfl, rfl⟩⟩

theorem own_row_ge {w : World} {base : Nat} {e : TypeId} {size n k : Nat} {v : Value} {xs : List Value} (h : w.ownsRow base e size v n xs) (hk : v.ownBlock = some k) : base ≤ k := by
  rcases h.2 with ⟨rfl, _⟩ | ⟨g, cap, cur, rfl, hb, _⟩
  · cases hk
  · cases hk; exact hb
theorem Bx.grown {w w' : World} {b : Nat} {x y : Value} {row : Option Nat} (h : Bx w b x y) (hg : w.grownBy w' row) (hr : row ≠ some b) : Bx w' b x y := (hg.block b h.lt (fun e => hr e.symm)).trans h
theorem one_cell (w : World) (x : Int) : ∀ (j : Nat) (u : Value), [Value.int .i64 x][j]? = some u → (w.alloc (.cells #[.int .i64 x] 3)).cell? ((⟨w.heap.size, 0, none⟩ : Addr).add j) = some u := by
  intro j u hj
  cases j with
  | zero =>
    cases hj
    simp [Addr.add]
  | succ j => simp at hj
theorem of_bd {l : List Int} {s n : Nat} (hd : dOk l) (h : val l + pw l.length * s = n) (hs : 0 < s) (hn : n ≤ 9223372036854775808) : l.length ≤ 4 := by
  refine Nat.le_of_not_lt fun hlt => ?_
  have b := (val_bd hd).1
  have p := pw_mono (show 5 ≤ l.length by omega)
  have p5 : pw 5 = 100000000000000000000 := rfl
  have : pw l.length * 1 ≤ pw l.length * (s : Int) := Int.mul_le_mul_of_nonneg_left (by omega) (Int.le_of_lt (pw_pos _))
  omega
theorem of_step {l : List Int} {s n : Nat} (h : val l + pw l.length * s = n) : val (l ++ [((s % 10000 : Nat) : Int)]) + pw (l ++ [((s % 10000 : Nat) : Int)]).length * ((s / 10000 : Nat) : Int) = n := by
  rw [val_snoc, List.length_append, List.length_singleton, pw_succ]
  have e : (s : Int) = ((s % 10000 : Nat) : Int) + 10000 * ((s / 10000 : Nat) : Int) := by omega
  have : pw l.length * (s : Int) = pw l.length * ((s % 10000 : Nat) : Int) + 10000 * pw l.length * ((s / 10000 : Nat) : Int) := by
    conv => lhs; rw [e, Int.mul_add]
    rw [← Int.mul_assoc, Int.mul_comm (pw l.length) 10000]
  omega

set_option maxHeartbeats 1000000 in
theorem of_pos (n : Int) (w : World) (h0 : 0 ≤ n) (h2 : n ≤ 9223372036854775807) :
    Calls Tryd.prog 65 #[.int .i64 n] w fun e w' => ∃ B m d, e = .returned (.agg #[.bool (nOf n), .slice B m d]) ∧ Sl w' B m d (lOf n) ∧ Below w.heap.size w w' := by
  obtain ⟨i0, hi, hz0, hz1, hz2⟩ := info_parts int_info
  have hlt : ¬ n < 0 := by omega
  obtain ⟨N, rfl⟩ := Int.eq_ofNat_of_zero_le h0
  go_enter Tryd.func65, Tryd.ntmps65
  go_wp2_with fail
  go_loopw [3, 4] (fun sv dv wr => ∃ (s : Nat) (l : List Int), sv = .int .u64 (s : Int) ∧ s ≤ N ∧ wr.ownsRow (w.heap.size + 1) 3 1 dv l.length (ints l) ∧ dOk l ∧ val l + pw l.length * s = N ∧ Below w.heap.size w wr ∧ Bx wr w.heap.size (.bool false) (.slice none 0 0)) (fun sv _ _ => (intOf sv).toNat)
  case atStart => exact ⟨N, [], rfl, Nat.le_refl _, own_nil _ _, dOk_nil, by simp [val, pw], (Below.refl _ _).alloc (Nat.le_refl _) _, Bx.new _ _ _⟩
  case round =>
    obtain ⟨s, l, rfl, hsN, hown, hd, hv, hbw, hbx⟩ := hrel
    have HO := Lib.hid hown
    have HD := Lib.hid hd
    have HV := Lib.hid hv
    have HB := Lib.hid hbw
    have HX := Lib.hid hbx
    clear hd hv hbw hbx
    have hN : (N : Int) ≤ 9223372036854775807 := h2
    by_cases hs : 0 < s
    · have hl4 := of_bd HD.out HV.out hs (by omega)
      have g0 : (0 : Int) < (s : Int) := by omega
      have g1 : (s : Int) ≤ 9223372036854775807 := by omega
      have HN := Lib.hid (of_step HV.out)
      have HZ := Lib.hid HB.out.size
      go_wp2_with (at_builtin; refine wpList_append_own_at _ rfl _ _ 33 rfl (w.heap.size + 1) 3 i0 (.int .i64 0) 1 8 Tryd.underlying33 hi hz0 hz1 hz2 rfl (by decide) _ _ _ rfl (HO.out.alloc _) ⟨wr.heap.size, 0, none⟩ 1 1 [.int .i64 ((s % 10000 : Nat) : Int)] rfl rfl ?c1 ?c2 ?c3 ?c4 ?c5 ?_)
      case c1 => exact one_cell wr _
      case c2 => exact ints_one [_]
      case c3 => unfold maxLen; omega
      case c4 => omega
      case c5 => rw [alloc_sz]; have := HX.out.lt; omega
      intro v' w' hown' hg hnn hat
      have HO' := Lib.hid hown'
      have HG := Lib.hid hg
      have HR := Lib.hid (fun k hk => own_row_ge HO.out (k := k) hk)
      clear hown' hg hnn hat
      go_wp2_with fail
      go_roundw
      case rel =>
        refine ⟨s / 10000, l ++ [((s % 10000 : Nat) : Int)], by go_num, by omega, ?_, dOk_snoc HD.out (by omega) (by omega), HN.out, ?_, ?_⟩
        · have := HO'.out
          rw [List.length_append, ints_app]
          exact this
        · exact (HB.out.alloc HZ.out _).grown HG.out (by rw [alloc_sz]; have := HZ.out; omega) (fun k hk => by have := HR.out k hk; omega)
        · exact (HX.out.alloc _).grown HG.out (fun e => by have := HR.out _ e; omega)
      case measure => simp [intOf] <;> omega
    · obtain rfl : s = 0 := by omega
      obtain ⟨A, c, rfl, hs⟩ := sl_of_own hown
      have HS := Lib.hid hs
      have HZ := Lib.hid HB.out.size
      clear hs hown HO
      go_wp2_with fail
      (refine (trimmed_any A l.length c l _ HS.out HD.out).mono ?_; rintro e w3 ⟨R, k, r, rfl, hR, _, rfl⟩)
      have HR := Lib.hid hR
      have HT : Hid (trimL l = digs N) := trim_of (by have := HV.out; simpa using this)
      clear hR
      go_wp2_with fail
      (refine (signed_any false R k r N _ (by rw [← HT.out]; exact HR.out)).mono ?_; rintro e w4 ⟨rfl, hR, hb⟩)
      have HR4 := Lib.hid hR
      have HX4 := Lib.hid (HX.out.below hb)
      have HB4 := Lib.hid (below_up HB.out hb)
      have d1 := HX4.out.c0
      have d2 := HX4.out.c1
      have d3 := HX4.out.fz 0
      have d4 := HX4.out.fz 1
      clear hR hb
      go_wp2_with fail
      refine bodyPost_ret (v := .agg #[.bool (nOf (sgn false (N : Nat))), .slice R k r]) (by simp [results, Tryd.results65, go_sem, *]) rfl ⟨R, k, r, rfl, ?_, ?_⟩
      · exact HR4.out.box HX4.out.box _ _
      · exact (HB4.out.setCell (p := ⟨w.heap.size, 0, none⟩) (by simp) _).setCell (p := ⟨w.heap.size, 1, none⟩) (by simp) _

theorem wrap_back {N : Nat} (h : N ≤ 9223372036854775808) : IntKind.u64.wrap (-IntKind.u64.wrap (-(N : Int))) = (N : Int) := by
  simp only [IntKind.wrap, IntKind.signed, IntKind.bits]
  simp
  omega

set_option maxHeartbeats 1000000 in
theorem of_neg (n : Int) (w : World) (h0 : n < 0) (h2 : -9223372036854775808 ≤ n) :
    Calls Tryd.prog 65 #[.int .i64 n] w fun e w' => ∃ B m d, e = .returned (.agg #[.bool (nOf n), .slice B m d]) ∧ Sl w' B m d (lOf n) ∧ Below w.heap.size w w' := by
  obtain ⟨i0, hi, hz0, hz1, hz2⟩ := info_parts int_info
  obtain ⟨N, hN⟩ : ∃ N : Nat, n = -(N : Int) := ⟨n.natAbs, by omega⟩
  subst hN
  have h3 : (N : Int) ≤ 9223372036854775808 := by omega
  have h4 : 0 < N := by omega
  have HW := Lib.hid (wrap_back (N := N) (by omega))
  clear h2
  go_enter Tryd.func65, Tryd.ntmps65
  go_wp2_with fail
  go_loopw [3, 4] (fun sv dv wr => ∃ (s : Nat) (l : List Int), sv = .int .u64 (s : Int) ∧ s ≤ N ∧ wr.ownsRow (w.heap.size + 1) 3 1 dv l.length (ints l) ∧ dOk l ∧ val l + pw l.length * s = N ∧ Below w.heap.size w wr ∧ Bx wr w.heap.size (.bool false) (.slice none 0 0)) (fun sv _ _ => (intOf sv).toNat)
  case atStart => exact ⟨N, [], congrArg (Value.int .u64) HW.out, Nat.le_refl _, own_nil _ _, dOk_nil, by simp [val, pw], (Below.refl _ _).alloc (Nat.le_refl _) _, Bx.new _ _ _⟩
  case round =>
    obtain ⟨s, l, rfl, hsN, hown, hd, hv, hbw, hbx⟩ := hrel
    have HO := Lib.hid hown
    have HD := Lib.hid hd
    have HV := Lib.hid hv
    have HB := Lib.hid hbw
    have HX := Lib.hid hbx
    clear hd hv hbw hbx
    have hN : (N : Int) ≤ 9223372036854775808 := h3
    by_cases hs : 0 < s
    · have hl4 := of_bd HD.out HV.out hs (by omega)
      have g0 : (0 : Int) < (s : Int) := by omega
      have g1 : (s : Int) ≤ 9223372036854775808 := by omega
      have HN := Lib.hid (of_step HV.out)
      have HZ := Lib.hid HB.out.size
      go_wp2_with (at_builtin; refine wpList_append_own_at _ rfl _ _ 33 rfl (w.heap.size + 1) 3 i0 (.int .i64 0) 1 8 Tryd.underlying33 hi hz0 hz1 hz2 rfl (by decide) _ _ _ rfl (HO.out.alloc _) ⟨wr.heap.size, 0, none⟩ 1 1 [.int .i64 ((s % 10000 : Nat) : Int)] rfl rfl ?c1 ?c2 ?c3 ?c4 ?c5 ?_)
      case c1 => exact one_cell wr _
      case c2 => exact ints_one [_]
      case c3 => unfold maxLen; omega
      case c4 => omega
      case c5 => rw [alloc_sz]; have := HX.out.lt; omega
      intro v' w' hown' hg hnn hat
      have HO' := Lib.hid hown'
      have HG := Lib.hid hg
      have HR := Lib.hid (fun k hk => own_row_ge HO.out (k := k) hk)
      clear hown' hg hnn hat
      go_wp2_with fail
      go_roundw
      case rel =>
        refine ⟨s / 10000, l ++ [((s % 10000 : Nat) : Int)], by go_num, by omega, ?_, dOk_snoc HD.out (by omega) (by omega), HN.out, ?_, ?_⟩
        · have := HO'.out
          rw [List.length_append, ints_app]
          exact this
        · exact (HB.out.alloc HZ.out _).grown HG.out (by rw [alloc_sz]; have := HZ.out; omega) (fun k hk => by have := HR.out k hk; omega)
        · exact (HX.out.alloc _).grown HG.out (fun e => by have := HR.out _ e; omega)
      case measure => simp [intOf] <;> omega
    · obtain rfl : s = 0 := by omega
      obtain ⟨A, c, rfl, hs⟩ := sl_of_own hown
      have HS := Lib.hid hs
      have HZ := Lib.hid HB.out.size
      clear hs hown HO
      go_wp2_with fail
      (refine (trimmed_any A l.length c l _ HS.out HD.out).mono ?_; rintro e w3 ⟨R, k, r, rfl, hR, _, rfl⟩)
      have HR := Lib.hid hR
      have HT : Hid (trimL l = digs N) := trim_of (by have := HV.out; simpa using this)
      clear hR
      go_wp2_with fail
      (refine (signed_any true R k r N _ (by rw [← HT.out]; exact HR.out)).mono ?_; rintro e w4 ⟨rfl, hR, hb⟩)
      have HR4 := Lib.hid hR
      have HX4 := Lib.hid (HX.out.below hb)
      have HB4 := Lib.hid (below_up HB.out hb)
      have d1 := HX4.out.c0
      have d2 := HX4.out.c1
      have d3 := HX4.out.fz 0
      have d4 := HX4.out.fz 1
      clear hR hb
      go_wp2_with fail
      refine bodyPost_ret (v := .agg #[.bool (nOf (sgn true (N : Nat))), .slice R k r]) (by simp [results, Tryd.results65, go_sem, *]) rfl ⟨R, k, r, rfl, ?_, ?_⟩
      · exact HR4.out.box HX4.out.box _ _
      · exact (HB4.out.setCell (p := ⟨w.heap.size, 0, none⟩) (by simp) _).setCell (p := ⟨w.heap.size, 1, none⟩) (by simp) _

theorem of_any (n : Int) (w : World) (h1 : -9223372036854775808 ≤ n) (h2 : n ≤ 9223372036854775807) :
    Calls Tryd.prog 65 #[.int .i64 n] w fun e w' => ∃ B m d, e = .returned (.agg #[.bool (nOf n), .slice B m d]) ∧ Sl w' B m d (lOf n) ∧ Below w.heap.size w w' := by
  by_cases h : n < 0
  · exact of_neg n w h h1
  · exact of_pos n w (by omega) h2
end Go.Proofs.YtfenmogbellhdaaDoor
