/-
  Contracts of the reference's trim and number.
-/
import Derived.Test.YtfkfbomllkpjjaaDoorBigR1
namespace Go.Proofs.YtfkfbomllkpjjaaDoor
open Go.RowKit

theorem own_empty (w : World) (base : Nat) (hb : base ≤ w.heap.size) : (w.alloc (.cells (ints []).toArray 3)).ownsRow base 3 1 (.slice (some ⟨w.heap.size, 0, none⟩) 0 0) 0 (ints []) :=
  ⟨rfl, .inr ⟨w.heap.size, 0, (ints []).toArray, rfl, hb, Own.new w [], Nat.le_refl _, by unfold maxLen; omega, rfl, rfl⟩⟩
theorem sl_of_own' {w : World} {base n : Nat} {v : Value} {l : List Int} (h : w.ownsRow base 3 1 v n (ints l)) : ∃ A c, v = .slice A n c ∧ Sl w A n c l := by
  have hn : n = l.length := by have := h.1; rw [ints_len] at this; omega
  subst hn
  exact sl_of_own h

theorem wpList_append_nil {P : Program} (w : World) {ops : Array Oper} {rest : List Oper} {o : Oper} {a : Act} {Q : Exit → Act → World → Prop} (hgd : o.guard = none) (s x : Operand) (t : TypeId)
    (ho : o.op = .call { callee := .builtin .append, args := #[s, x], argTypes := #[t, t] })
    (base : Nat) (e : TypeId) (i : TypeInfo) (size : Nat) (ht : P.underlying t = some (.slice e)) (hi : P.info? e = some i)
    (v : Value) (n : Nat) (xs : List Value) (hs : a.eval s = v) (hown : w.ownsRow base e size v n xs) (c : Nat) (hx : a.eval x = .slice none 0 c)
    (h : wpList P ops Q rest (a.put o.dst v) w) : wpList P ops Q (o :: rest) a w := by
  refine wpList_plain hgd fun K hK => ?_
  have hrun : (Builtin.append_ #[t, t] o.type #[v, .slice none 0 c]).run P w = .ok v w := by
    rcases hown.2 with ⟨rfl, rfl⟩ | ⟨g, cap, cur, rfl, _, _, hnc, _⟩
    · simp [Builtin.append_, run_underlying ht, sizeOf, typeInfo, hi, Builtin.lenOf, Builtin.firstCells]
    · simp [Builtin.append_, run_underlying ht, sizeOf, typeInfo, hi, Builtin.lenOf, Builtin.firstCells, hnc, storeCells]
  unfold Oper.wp
  simp [execOp, ho, resolve, invoke, builtin, hs, hx, hrun, Result.andThen]
  exact hK _ _ h

set_option maxHeartbeats 1000000 in
/-- trim, of whatever ints: a copy in new memory. -/
theorem rtrim_gen (A : Option Addr) (n c : Nat) (xs : List Int) (w : World) (hs : Sl w A n c xs) (hn : n ≤ 100000) :
    Calls Tryd.prog 66 #[.slice A n c] w fun e w' => ∃ B m d, e = .returned (.slice B m d) ∧ Sl w' B m d (xs.take m) ∧ val (xs.take m) = val xs ∧ m ≤ n ∧ (m = 0 ∨ xs.getD (m - 1) 0 ≠ 0) ∧ Below w.heap.size w w' := by
  have hl := Lib.hid hs.len
  have htop := hs.top
  have hcap := hs.cap
  obtain ⟨i0, hi, hz0, hz1, hz2⟩ := info_parts int_info
  go_enter Tryd.func66, Tryd.ntmps66
  go_wp2_with fail
  go_loop [3] (fun i => ∃ k : Nat, k ≤ n ∧ i = .int .i64 (k : Int) ∧ val (xs.take k) = val xs) (fun i => (intOf i).toNat)
  case atStart => exact ⟨n, Nat.le_refl _, rfl, by rw [List.take_of_length_le (by rw [hl.out]; exact Nat.le_refl _)]⟩
  case round =>
    obtain ⟨k, hk, rfl, hv⟩ := hrel
    have HV := Lib.hid hv
    clear hv
    by_cases h0 : 0 < k
    · obtain ⟨k', rfl⟩ : ∃ k', k = k' + 1 := ⟨k - 1, by omega⟩
      obtain ⟨g, o, x, rfl, hg, hc, hx⟩ := hs.at_ (show k' < n by omega)
      have b1 : (0 : Int) < ((k' + 1 : Nat) : Int) := by omega
      have b2 : (k' : Int) < (n : Int) := by omega
      cases hz : (x == 0) with
      | true =>
        have h0 := beq_iff_eq.1 hz
        have HX := Lib.hid (hx.out.trans h0)
        clear h0 hx
        go_wp2_with fail
        go_round
        case rel => exact ⟨k', by omega, by go_num, take_zero_step HX.out HV.out⟩
        case measure => simp [intOf]
      | false =>
        have b3 : ((k' + 1 : Nat) : Int) ≤ (c : Int) := by omega
        have HT := Lib.hid (show xs.getD (k' + 1 - 1) 0 ≠ 0 by rw [Nat.add_sub_cancel, hx.out]; simpa using hz)
        have HE := Lib.hid (own_empty w w.heap.size (Nat.le_refl _))
        have HSl := Lib.hid (hs.take_ hk)
        have HN : Hid (∀ (j : Nat) (u : Value), (ints (xs.take (k' + 1)))[j]? = some u → w.cell? ⟨g, o + j, none⟩ = some u) := by
          intro j u hj
          have hjl : j < (xs.take (k' + 1)).length := by
            have := (List.getElem?_eq_some_iff.1 hj).1
            rwa [ints_len] at this
          rw [ints_at hjl] at hj
          injection hj with hj
          subst hj
          obtain ⟨g', o', e, _, hcs⟩ := HSl.out.cells (by omega)
          cases e
          exact hcs j (by rw [← HSl.out.len]; exact hjl)
        have HLn : Hid ((ints (xs.take (k' + 1))).length = (k' + 1) * 1) := by show _ = _; rw [ints_len, HSl.out.len, Nat.mul_one]
        clear hx
        go_wp2_with (at_builtin; refine wpList_append_own_at _ rfl _ _ 22 rfl w.heap.size 3 i0 (.int .i64 0) 1 8 Tryd.underlying22 hi hz0 hz1 hz2 rfl (by decide) _ _ _ rfl HE.out ⟨g, o, none⟩ (k' + 1) _ (ints (xs.take (k' + 1))) rfl HLn.out ?c1 ?c2 ?c3 ?c4 ?c5 ?_)
        case c1 => exact HN.out
        case c2 => exact ints_one _
        case c3 => unfold maxLen; omega
        case c4 => omega
        intro v' w' hown' hg' hnn hat
        obtain ⟨B, d, rfl, hsl⟩ := sl_of_own' (l := xs.take (k' + 1)) (by simpa [ints] using hown')
        have HS2 := Lib.hid hsl
        have HG := Lib.hid (((Below.refl w.heap.size w).alloc (Nat.le_refl _) (.cells (ints []).toArray 3)).grown hg' (by rw [alloc_sz]; omega) (fun k hk => by cases hk; exact Nat.le_refl _))
        clear hown' hg' hnn hat hsl
        go_wp2_with fail
        go_ret
        exact ⟨_, _, _, rfl, HS2.out, HV.out, hk, .inr HT.out, HG.out⟩
    · obtain rfl : k = 0 := by omega
      have b3 : (0 : Int) ≤ (c : Int) := by omega
      have HE := Lib.hid (own_empty w w.heap.size (Nat.le_refl _))
      have HG := Lib.hid ((Below.refl w.heap.size w).alloc (Nat.le_refl _) (.cells (ints []).toArray 3))
      have HSE : Hid (Sl (w.alloc (.cells (ints []).toArray 3)) (some ⟨w.heap.size, 0, none⟩) 0 0 []) := Sl.empty _ _ (by omega)
      cases A with
      | none =>
        go_wp2_with (at_builtin; refine wpList_append_nil _ rfl _ _ 22 rfl w.heap.size 3 i0 1 Tryd.underlying22 hi _ 0 _ rfl HE.out c rfl ?_)
        go_wp2_with fail
        go_ret
        exact ⟨_, _, _, rfl, by rw [List.take_zero]; exact HSE.out, HV.out, by omega, .inl rfl, HG.out⟩
      | some ad =>
        go_wp2_with (at_builtin; refine wpList_append_own_at _ rfl _ _ 22 rfl w.heap.size 3 i0 (.int .i64 0) 1 8 Tryd.underlying22 hi hz0 hz1 hz2 rfl (by decide) _ _ _ rfl HE.out ad 0 _ [] rfl rfl ?c1 ?c2 ?c3 ?c4 ?c5 ?_)
        go_goals
        intro v' w' hown' hg' hnn hat
        obtain ⟨B, d, rfl, hsl⟩ := sl_of_own' (l := []) (by simpa [ints] using hown')
        have HS2 := Lib.hid hsl
        have HG2 := Lib.hid (HG.out.grown hg' (by rw [alloc_sz]; omega) (fun k hk => by cases hk; exact Nat.le_refl _))
        clear hown' hg' hnn hat hsl
        go_wp2_with fail
        go_ret
        exact ⟨_, _, _, rfl, by rw [List.take_zero]; exact HS2.out, HV.out, by omega, .inl rfl, HG2.out⟩

theorem rtrim_any (A : Option Addr) (n c : Nat) (xs : List Int) (w : World) (hs : Sl w A n c xs) (hn : n ≤ 100000) (hd : dOk xs) :
    Calls Tryd.prog 66 #[.slice A n c] w fun e w' => ∃ B m d, e = .returned (.slice B m d) ∧ Sl w' B m d (digs (val xs).toNat) ∧ Below w.heap.size w w' := by
  refine (rtrim_gen A n c xs w hs hn).mono ?_
  rintro e w' ⟨B, m, d, he, h1, h2, h3, h4, h5⟩
  refine ⟨B, m, d, he, ?_, h5⟩
  have hl := hs.len
  have : xs.take m = digs (val xs).toNat := by
    rw [← h2]
    refine (digs_val (dOk_take hd m) ?_).symm
    rcases Nat.eq_zero_or_pos m with h0 | h0
    · subst h0; rw [List.take_zero]; simp [topOk]
    · rcases h4 with h4 | h4
      · omega
      · obtain ⟨m', rfl⟩ : ∃ m', m = m' + 1 := ⟨m - 1, by omega⟩
        rw [Nat.add_sub_cancel] at h4
        rw [take_succ_at xs (by omega)]
        refine topOk_snoc ?_
        simpa [List.getD, show m' < xs.length by omega] using h4
  rw [← this]; exact h1

set_option maxHeartbeats 400000 in
theorem number_any (neg : Bool) (A : Option Addr) (n c : Nat) (xs : List Int) (k : Nat) (w : World) (hs : Sl w A n c xs) (hn : n ≤ 100000) (hd : dOk xs) (hk : val xs = k) :
    Calls Tryd.prog 47 #[.bool neg, .slice A n c] w fun e w' => ∃ B m d, e = .returned (.tuple #[.agg #[.bool (nOf (fitZ (sgn neg k))), .slice B m d], .bool (fitB (sgn neg k))]) ∧ Sl w' B m d (lOf (fitZ (sgn neg k))) ∧ Below w.heap.size w w' := by
  have HS := Lib.hid hs
  have HK := Lib.hid hk
  have HD := Lib.hid hd
  obtain ⟨s1, s2⟩ := sgn_form neg k
  have F1 := Lib.hid s1
  have F2 := Lib.hid s2
  clear hs hk hd s1 s2
  go_enter Tryd.func47, Tryd.ntmps47
  go_wp2_with fail
  (refine (rtrim_any A n c xs _ (HS.out.alloc _) hn HD.out).mono ?_; rintro e w1 ⟨B, m, d, rfl, hsl, hb⟩)
  rw [HK.out, Int.toNat_natCast] at hsl
  have H1 := Lib.hid hsl
  have X1 := Lib.hid ((Bx.new w (.bool false) (.slice none 0 0)).below hb)
  have HB := Lib.hid (below_box1 hb)
  have c0 := X1.out.c0
  have c1 := X1.out.c1
  have f0 := X1.out.fz 0
  have f1 := X1.out.fz 1
  have htop := hsl.top
  have hcap := hsl.cap
  have HLn := Lib.hid hsl.len
  clear hsl hb
  by_cases h : 200 < m
  · have hF : Hid (fitB (sgn neg k) = false) := by
      show fitB _ = false
      unfold fitB; rw [← F2.out, HLn.out]; exact decide_eq_false (by omega)
    go_wp2_with fail
    refine bodyPost_ret (v := .tuple #[.agg #[.bool false, .slice none 0 0], .bool false]) (by simp [results, Tryd.results47, go_sem, *]) rfl ⟨none, 0, 0, ?_, ?_, ?_⟩
    · rw [hF.out, fitZ_not hF.out, nOf_zero]
    · rw [fitZ_not hF.out, lOf_zero]; exact Sl.nil _
    · exact (HB.out.setCell (p := ⟨w.heap.size, 0, none⟩) (by simp) _).setCell (p := ⟨w.heap.size, 1, none⟩) (by simp) _
  · have hF : Hid (fitB (sgn neg k) = true) := by
      show fitB _ = true
      unfold fitB; rw [← F2.out, HLn.out]; exact decide_eq_true (by omega)
    have hh : ¬ (200 : Int) < (m : Int) := by omega
    have FN : Hid ((neg && decide (0 < m)) = nOf (sgn neg k)) := by
      have := F1.out
      rwa [HLn.out] at this
    clear h
    have fin : ∀ b : Bool, b = nOf (sgn neg k) → (∃ B' m' d', Ending.returned (.tuple #[.agg #[.bool b, .slice B m d], .bool true]) = .returned (.tuple #[.agg #[.bool (nOf (fitZ (sgn neg k))), .slice B' m' d'], .bool (fitB (sgn neg k))]) ∧ Sl ((w1.setCell ⟨w.heap.size, 0, none⟩ (.bool b)).setCell ⟨w.heap.size, 1, none⟩ (.slice B m d)) B' m' d' (lOf (fitZ (sgn neg k))) ∧ Below w.heap.size w ((w1.setCell ⟨w.heap.size, 0, none⟩ (.bool b)).setCell ⟨w.heap.size, 1, none⟩ (.slice B m d))) := by
      intro b hbb
      refine ⟨B, m, d, by rw [hF.out, fitZ_of hF.out, hbb], ?_, (HB.out.setCell (p := ⟨w.heap.size, 0, none⟩) (by simp) _).setCell (p := ⟨w.heap.size, 1, none⟩) (by simp) _⟩
      rw [fitZ_of hF.out, ← F2.out]
      exact H1.out.box X1.out.box _ _
    have FIN := Lib.hid fin
    clear fin
    cases neg with
    | false =>
      go_wp2_with fail
      refine bodyPost_ret (v := .tuple #[.agg #[.bool false, .slice B m d], .bool true]) (by simp [results, Tryd.results47, go_sem, *]) rfl (FIN.out false (by rw [← FN.out]; rfl))
    | true =>
      rcases Nat.eq_zero_or_pos m with h0 | h0
      · subst h0
        go_wp2_with fail
        refine bodyPost_ret (v := .tuple #[.agg #[.bool false, .slice B 0 d], .bool true]) (by simp [results, Tryd.results47, go_sem, *]) rfl (FIN.out false (by rw [← FN.out]; rfl))
      · have z0 : decide ((0 : Int) < (m : Int)) = true := decide_eq_true (by omega)
        go_wp2_with fail
        refine bodyPost_ret (v := .tuple #[.agg #[.bool true, .slice B m d], .bool true]) (by simp [results, Tryd.results47, go_sem, *]) rfl (FIN.out true (by rw [← FN.out, decide_eq_true h0]; rfl))
end Go.Proofs.YtfkfbomllkpjjaaDoor
