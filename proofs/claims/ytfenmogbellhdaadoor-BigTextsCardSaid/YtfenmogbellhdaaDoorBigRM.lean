/-
  Layer 2's reference: Valid, digits, trim, number, plus, minus, times, Of.
-/
import Derived.Test.YtfenmogbellhdaaDoorBigG
import Derived.Test.YtfenmogbellhdaaDoorBigJ
import Derived.BigQuiet
import Derived.Deep.QuietTactic
import Derived.Deep.LoopGhost

namespace Go.Proofs.YtfenmogbellhdaaDoor
open Go.RowKit

set_option maxHeartbeats 400000 in
theorem r2valid_any (neg : Bool) (A : Option Addr) (n c : Nat) (xs : List Int) (w : World) (hs : Sl w A n c xs) :
    Calls Tryd.prog 124 #[.agg #[.bool neg, .slice A n c]] w fun e w' => e = .returned (.bool (validB neg xs)) ∧ Below w.heap.size w w' := by
  have hl := Lib.hid hs.len
  have hc := hs.cap
  have ht := hs.top
  rcases Nat.eq_zero_or_pos n with h0 | h0
  · subst h0
    have HV : Hid ((!neg) = validB neg xs) := by
      show (!neg) = validB neg xs
      rw [List.eq_nil_of_length_eq_zero hl.out, validB_nil]
    cases neg with
    | true =>
      go_enter Tryd.func124, Tryd.ntmps124
      go_wp2_with fail
      go_ret
      exact ⟨ret_bool HV.out, (Below.refl _ _).alloc (Nat.le_refl _) _⟩
    | false =>
      go_enter Tryd.func124, Tryd.ntmps124
      go_wp2_with fail
      go_loop [4] (fun i => i = .int .i64 0) (fun _ => 0)
      case atStart => rfl
      case round =>
        obtain rfl := hrel
        go_wp2_with fail
        go_ret
        exact ⟨ret_bool HV.out, (Below.refl _ _).alloc (Nat.le_refl _) _⟩
  · have z0 : ((n : Int) == 0) = false := by simp; omega
    by_cases h1 : 200 < n
    · have HV : Hid (false = validB neg xs) := (validB_long (by rw [hl.out]; exact h1)).symm
      have h1' : decide ((200 : Int) < (n : Int)) = true := decide_eq_true (by omega)
      go_enter Tryd.func124, Tryd.ntmps124
      go_wp2_with fail
      go_ret
      exact ⟨ret_bool HV.out, (Below.refl _ _).alloc (Nat.le_refl _) _⟩
    · have h1' : decide ((200 : Int) < (n : Int)) = false := decide_eq_false (by omega)
      obtain ⟨g, o, rfl, hg, hcs⟩ := hs.cells h0
      have hg' : ∀ k x, w.cell? ⟨g, o + k, none⟩ = some x → (w.alloc (.cells #[.bool neg, .slice (some ⟨g, o, none⟩) n c] 35)).cell? ⟨g, o + k, none⟩ = some x := fun k x hx => (World.cell?_alloc_lt w _ ⟨g, o + k, none⟩ hg).trans hx
      have HG := Lib.hid hg'
      have HC := Lib.hid hcs
      clear hg' hcs
      obtain ⟨x, hx⟩ : ∃ x, xs.getD (n - 1) 0 = x := ⟨_, rfl⟩
      have cx := HG.out (n - 1) _ (HC.out (n - 1) (by omega))
      rw [hx] at cx
      have HX := Lib.hid hx
      clear hx
      have p1 : (n : Int) - 1 < (n : Int) := by omega
      have p2 : (0 : Int) ≤ (n : Int) - 1 := by omega
      cases hxz : (x == 0) with
      | true =>
        have HV : Hid (false = validB neg xs) := (validB_top (by rw [hl.out]; exact h0) (by rw [hl.out, HX.out]; simpa using hxz)).symm
        go_enter Tryd.func124, Tryd.ntmps124
        go_wp2_with fail
        go_ret
        exact ⟨ret_bool HV.out, (Below.refl _ _).alloc (Nat.le_refl _) _⟩
      | false =>
        have HT : Hid (xs.getD (xs.length - 1) 0 ≠ 0) := by
          show _ ≠ _
          rw [hl.out, HX.out]; simpa using hxz
        go_enter Tryd.func124, Tryd.ntmps124
        go_wp2_with fail
        clear cx
        go_loop [4] (fun i => ∃ k : Nat, k ≤ n ∧ i = .int .i64 (k : Int) ∧ dOk (xs.take k)) (fun i => n - (intOf i).toNat)
        case atStart => exact ⟨0, Nat.zero_le _, rfl, by rw [List.take_zero]; exact dOk_nil⟩
        case round =>
          obtain ⟨k, hk, rfl, hd⟩ := hrel
          have HD := Lib.hid hd
          clear hd
          by_cases hlt : k < n
          · obtain ⟨y, hy⟩ : ∃ y, xs.getD k 0 = y := ⟨_, rfl⟩
            have cy := HG.out k _ (HC.out k hlt)
            rw [hy] at cy
            have HY := Lib.hid hy
            clear hy
            by_cases y0 : y < 0
            · have HV : Hid (false = validB neg xs) := (validB_bad (k := k) (by rw [hl.out]; exact hlt) (by rw [HY.out]; exact .inl y0)).symm
              go_wp2_with fail
              go_ret
              exact ⟨ret_bool HV.out, (Below.refl _ _).alloc (Nat.le_refl _) _⟩
            · by_cases y1 : 10000 ≤ y
              · have HV : Hid (false = validB neg xs) := (validB_bad (k := k) (by rw [hl.out]; exact hlt) (by rw [HY.out]; exact .inr y1)).symm
                have y0' : decide (y < 0) = false := decide_eq_false y0
                go_wp2_with fail
                go_ret
                exact ⟨ret_bool HV.out, (Below.refl _ _).alloc (Nat.le_refl _) _⟩
              · have HN := Lib.hid (dOk_take_succ (by rw [hl.out]; exact hlt) HD.out HY.out (by omega) (by omega))
                have y0' : decide (y < 0) = false := decide_eq_false y0
                go_wp2_with fail
                go_round
                case rel => exact ⟨k + 1, by omega, by go_num, HN.out⟩
                case measure => simp [intOf] <;> omega
          · obtain rfl : k = n := by omega
            have HV : Hid (true = validB neg xs) := by
              refine (validB_good (by rw [hl.out]; exact h0) (by rw [hl.out]; omega) HT.out ?_).symm
              have := HD.out
              rwa [List.take_of_length_le (by rw [hl.out]; exact Nat.le_refl _)] at this
            go_wp2_with fail
            go_ret
            exact ⟨ret_bool HV.out, (Below.refl _ _).alloc (Nat.le_refl _) _⟩

theorem rdigits_any (neg : Bool) (A : Option Addr) (n c : Nat) (xs : List Int) (w : World) (hs : Sl w A n c xs) :
    Calls Tryd.prog 72 #[.agg #[.bool neg, .slice A n c]] w fun e w' => ∃ B m d, e = .returned (.slice B m d) ∧ Sl w' B m d (lOf (zOf neg xs)) ∧ Below w.heap.size w w' := by
  have HS := Lib.hid hs
  clear hs
  cases hv : validB neg xs with
  | true =>
    have HV := Lib.hid hv
    have H2 := Lib.hid (zOf_valid hv).2
    clear hv
    go_enter Tryd.func72, Tryd.ntmps72
    go_wp2_with fail
    (refine (r2valid_any neg A n c xs _ (HS.out.alloc _)).mono ?_; rintro e w1 ⟨rfl, hb⟩)
    rw [HV.out]
    have X1 := Lib.hid ((Bx.new w (.bool neg) (.slice A n c)).below hb)
    have HB := Lib.hid (below_box1 hb)
    have c1 := X1.out.c0
    have c2 := X1.out.c1
    clear hb
    go_wp2_with fail
    go_ret
    exact ⟨A, n, c, rfl, by rw [← H2.out]; exact HS.out.below HB.out, HB.out⟩
  | false =>
    have HV := Lib.hid hv
    have H0 := Lib.hid (zOf_invalid hv)
    clear hv
    go_enter Tryd.func72, Tryd.ntmps72
    go_wp2_with fail
    (refine (r2valid_any neg A n c xs _ (HS.out.alloc _)).mono ?_; rintro e w1 ⟨rfl, hb⟩)
    rw [HV.out]
    have HB := Lib.hid (below_box1 hb)
    clear hb
    go_wp2_with fail
    go_ret
    exact ⟨none, 0, 0, rfl, by rw [H0.out, lOf_zero]; exact Sl.nil _, HB.out⟩

theorem rnegative_any (neg : Bool) (A : Option Addr) (n c : Nat) (xs : List Int) (w : World) (hs : Sl w A n c xs) :
    Calls Tryd.prog 74 #[.agg #[.bool neg, .slice A n c]] w fun e w' => e = .returned (.bool (nOf (zOf neg xs))) ∧ Below w.heap.size w w' := by
  have HS := Lib.hid hs
  clear hs
  cases hv : validB neg xs with
  | true =>
    have HV := Lib.hid hv
    have H1 := Lib.hid (zOf_valid hv).1
    clear hv
    go_enter Tryd.func74, Tryd.ntmps74
    go_wp2_with fail
    (refine (r2valid_any neg A n c xs _ (HS.out.alloc _)).mono ?_; rintro e w1 ⟨rfl, hb⟩)
    rw [HV.out]
    have X1 := Lib.hid ((Bx.new w (.bool neg) (.slice A n c)).below hb)
    have HB := Lib.hid (below_box1 hb)
    have c1 := X1.out.c0
    have c2 := X1.out.c1
    clear hb
    go_wp2_with fail
    go_ret
    exact ⟨ret_bool H1.out, HB.out⟩
  | false =>
    have HV := Lib.hid hv
    have H0 := Lib.hid (zOf_invalid hv)
    clear hv
    go_enter Tryd.func74, Tryd.ntmps74
    go_wp2_with fail
    (refine (r2valid_any neg A n c xs _ (HS.out.alloc _)).mono ?_; rintro e w1 ⟨rfl, hb⟩)
    rw [HV.out]
    have HB := Lib.hid (below_box1 hb)
    clear hb
    go_wp2_with fail
    go_ret
    exact ⟨ret_bool (by rw [H0.out, nOf_zero]), HB.out⟩

theorem digit_any (A : Option Addr) (n c : Nat) (xs : List Int) (k : Nat) (ki : Int) (w : World) (hs : Sl w A n c xs) (hk : ki = k) :
    Calls Tryd.prog 128 #[.slice A n c, .int .i64 ki] w fun e w' => e = .returned (.int .i64 (xs.getD k 0)) ∧ w = w' := by
  subst hk
  have hl := Lib.hid hs.len
  have htop := hs.top
  have hcap := hs.cap
  by_cases h : k < n
  · obtain ⟨g, o, x, rfl, hg, hc, hx⟩ := hs.at_ h
    have p1 : (k : Int) < (n : Int) := by omega
    go_enter Tryd.func128, Tryd.ntmps128
    go_wp2_with fail
    go_ret
    exact ⟨ret_int hx.out.symm, rfl⟩
  · have p1 : (n : Int) ≤ (k : Int) := by omega
    have HX : Hid (xs.getD k 0 = 0) := by
      have := hl.out
      show xs.getD k 0 = 0
      simp [List.getD, show xs.length ≤ k by omega]
    clear h
    go_enter Tryd.func128, Tryd.ntmps128
    go_wp2_with fail
    go_ret
    exact ⟨ret_int HX.out.symm, rfl⟩

/-! ### order -/
set_option maxHeartbeats 400000 in
theorem order_any (A B : Option Addr) (n c m d : Nat) (a b : List Int) (w : World) (ha : Sl w A n c a) (hb : Sl w B m d b) (da : dOk a) (db : dOk b) (ta : topOk a) (tb : topOk b) :
    Calls Tryd.prog 126 #[.slice A n c, .slice B m d] w fun e w' => e = .returned (.int .i64 (cmpI (val a) (val b))) ∧ ∃ q, w' = w.drewN q := by
  have la := Lib.hid ha.len
  have lb := Lib.hid hb.len
  have hc := ha.cap
  have hd := hb.cap
  have ht := ha.top
  have ht2 := hb.top
  by_cases hne : n = m
  · have HNE := Lib.hid hne
    have q1 : ((n : Int) != (m : Int)) = false := by simp [hne]
    clear hne
    go_enter Tryd.func126, Tryd.ntmps126
    go_wp2_with fail
    go_loopw [5] (fun i wr => ∃ (j q : Nat), j ≤ n ∧ i = .int .i64 ((j : Int) - 1) ∧ wr = w.drewN q ∧ a.drop j = b.drop j) (fun i _ => (intOf i + 1).toNat)
    case atStart => exact ⟨n, 0, Nat.le_refl _, rfl, rfl, by rw [List.drop_of_length_le (by rw [la.out]; exact Nat.le_refl _), List.drop_of_length_le (by rw [lb.out, HNE.out]; exact Nat.le_refl _)]⟩
    case round =>
      obtain ⟨j, q, hj, rfl, rfl, hdr⟩ := hrel
      have HD := Lib.hid hdr
      clear hdr
      by_cases h0 : 0 < j
      · obtain ⟨i, rfl⟩ : ∃ i, j = i + 1 := ⟨j - 1, by omega⟩
        have him : i < m := by have := HNE.out; omega
        obtain ⟨g, o, x, rfl, hg, hx, hxe⟩ := ha.at_ (show i < n by omega)
        obtain ⟨g', o', y, rfl, hg', hy, hye⟩ := hb.at_ him
        have p1 : (i : Int) < (n : Int) := by omega
        have p2 : (i : Int) < (m : Int) := by omega
        have p3 : (0 : Int) ≤ (i : Int) := by omega
        have HE := Lib.hid (fun h => cmpI_at da db (by rw [la.out, lb.out]; exact HNE.out) (by rw [la.out]; omega) HD.out hxe.out hye.out h)
        rw [show ((i + 1 : Nat) : Int) - 1 = (i : Int) from by omega]
        rcases Int.lt_trichotomy x y with h | h | h
        · have HC : Hid (-1 = cmpI (val a) (val b)) := by have := HE.out (by omega); rw [cmpI_lt h] at this; exact this
          have h' : decide (x < y) = true := decide_eq_true h
          go_wp2_with fail
          go_quiet (fail)
          go_wp2_with fail
          go_ret
          exact ⟨ret_int HC.out, _, by rw [World.drewN_drewN]⟩
        · have HS := Lib.hid (drop_eq_step (by rw [la.out, lb.out]; exact HNE.out) (by rw [la.out]; omega) HD.out (by rw [hxe.out, hye.out]; exact h))
          have h1 : decide (x < y) = false := decide_eq_false (by omega)
          have h2 : decide (y < x) = false := decide_eq_false (by omega)
          clear h
          go_wp2_with fail
          go_quiet (fail)
          go_wp2_with fail
          go_quiet (fail)
          go_wp2_with fail
          go_roundw
          case rel => exact ⟨i, _, by omega, rfl, rfl, HS.out⟩
          case measure => simp [intOf] <;> omega
        · have HC : Hid (1 = cmpI (val a) (val b)) := by have := HE.out (by omega); rw [cmpI_gt h] at this; exact this
          have h1 : decide (x < y) = false := decide_eq_false (by omega)
          have h2 : decide (y < x) = true := decide_eq_true h
          go_wp2_with fail
          go_quiet (fail)
          go_wp2_with fail
          go_quiet (fail)
          go_wp2_with fail
          go_ret
          exact ⟨ret_int HC.out, _, by rw [World.drewN_drewN, World.drewN_drewN]⟩
      · obtain rfl : j = 0 := by omega
        have HE : Hid (0 = cmpI (val a) (val b)) := by
          have := HD.out
          rw [List.drop_zero, List.drop_zero] at this
          exact (cmpI_eq (by rw [this])).symm
        go_wp2_with fail
        go_ret
        exact ⟨ret_int HE.out, _, rfl⟩
  · have q1 : ((n : Int) != (m : Int)) = true := by simp; omega
    have HE := Lib.hid (cmpI_nat hne da db ta tb la.out lb.out)
    by_cases h : n < m
    · have HC : Hid (-1 = cmpI (val a) (val b)) := by have := HE.out; rw [cmpI_lt (by omega)] at this; exact this
      have p1 : (n : Int) < (m : Int) := by omega
      clear hne
      go_enter Tryd.func126, Tryd.ntmps126
      go_wp2_with fail
      go_ret
      exact ⟨ret_int HC.out, 0, rfl⟩
    · have HC : Hid (1 = cmpI (val a) (val b)) := by have := HE.out; rw [cmpI_gt (by omega)] at this; exact this
      have p1 : ¬ (n : Int) < (m : Int) := by omega
      clear hne h
      go_enter Tryd.func126, Tryd.ntmps126
      go_wp2_with fail
      go_ret
      exact ⟨ret_int HC.out, 0, rfl⟩
end Go.Proofs.YtfenmogbellhdaaDoor

namespace Go.Proofs.YtfenmogbellhdaaDoor
open Go.RowKit

theorem own_empty (w : World) (base : Nat) (hb : base ≤ w.heap.size) : (w.alloc (.cells (ints []).toArray 3)).ownsRow base 3 1 (.slice (some ⟨w.heap.size, 0, none⟩) 0 0) 0 (ints []) :=
  ⟨rfl, .inr ⟨w.heap.size, 0, (ints []).toArray, rfl, hb, Own.new w [], Nat.le_refl _, by unfold maxLen; omega, rfl, rfl⟩⟩
theorem sl_of_own' {w : World} {base n : Nat} {v : Value} {l : List Int} (h : w.ownsRow base 3 1 v n (ints l)) : ∃ A c, v = .slice A n c ∧ Sl w A n c l := by
  have hn : n = l.length := by have := h.1; rw [ints_len] at this; omega
  subst hn
  exact sl_of_own h

theorem wpList_append_nil {P : Program} (w : World) {ops : Array Oper} {rest : List Oper} {o : Oper} {a : Act} {Q : Exit → Act → World → Prop} (hgd : o.guard = none) (s x : Operand) (t : TypeId)
    (ho : o.op = .call { callee := .builtin .append, args := #[s, x], argTypes := #[t, t] })
    (base : Nat) (e : TypeId) (i : TypeInfo) (size : Nat) (ht : P.underlying t = some (.slice e)) (hi : P.info? e = some i)
    (v : Value) (n : Nat) (xs : List Value) (hs : a.eval s = v) (hown : w.ownsRow base e size v n xs) (c : Nat) (hx : a.eval x = .slice none 0 c)
    (h : wpList P ops Q rest (a.put o.dst v) w) : wpList P ops Q (o :: rest) a w := by
  refine wpList_plain hgd fun K hK => ?_
  have hrun : (Builtin.append_ #[t, t] o.type #[v, .slice none 0 c]).run P w = .ok v w := by
    rcases hown.2 with ⟨rfl, rfl⟩ | ⟨g, cap, cur, rfl, _, _, hnc, _⟩
    · simp [Builtin.append_, run_underlying ht, sizeOf, typeInfo, hi, Builtin.lenOf, Builtin.firstCells]
    · simp [Builtin.append_, run_underlying ht, sizeOf, typeInfo, hi, Builtin.lenOf, Builtin.firstCells, hnc, storeCells]
  unfold Oper.wp
  simp [execOp, ho, resolve, invoke, builtin, hs, hx, hrun, Result.andThen]
  exact hK _ _ h

set_option maxRecDepth 100000 in
set_option maxHeartbeats 1000000 in
/-- trim, of whatever ints: a copy in new memory. -/
theorem rtrim_gen (A : Option Addr) (n c : Nat) (xs : List Int) (w : World) (hs : Sl w A n c xs) (hn : n ≤ 100000) :
    Calls Tryd.prog 125 #[.slice A n c] w fun e w' => ∃ B m d, e = .returned (.slice B m d) ∧ Sl w' B m d (xs.take m) ∧ val (xs.take m) = val xs ∧ m ≤ n ∧ (m = 0 ∨ xs.getD (m - 1) 0 ≠ 0) ∧ Below w.heap.size w w' := by
  have hl := Lib.hid hs.len
  have htop := hs.top
  have hcap := hs.cap
  obtain ⟨i0, hi, hz0, hz1, hz2⟩ := info_parts int_info
  go_enter Tryd.func125, Tryd.ntmps125
  go_wp2_with fail
  go_loop [3] (fun i => ∃ k : Nat, k ≤ n ∧ i = .int .i64 (k : Int) ∧ val (xs.take k) = val xs) (fun i => (intOf i).toNat)
  case atStart => exact ⟨n, Nat.le_refl _, rfl, by rw [List.take_of_length_le (by rw [hl.out]; exact Nat.le_refl _)]⟩
  case round =>
    obtain ⟨k, hk, rfl, hv⟩ := hrel
    have HV := Lib.hid hv
    clear hv
    by_cases h0 : 0 < k
    · obtain ⟨k', rfl⟩ : ∃ k', k = k' + 1 := ⟨k - 1, by omega⟩
      obtain ⟨g, o, x, rfl, hg, hc, hx⟩ := hs.at_ (show k' < n by omega)
      have b1 : (0 : Int) < ((k' + 1 : Nat) : Int) := by omega
      have b2 : (k' : Int) < (n : Int) := by omega
      cases hz : (x == 0) with
      | true =>
        have h0 := beq_iff_eq.1 hz
        have HX := Lib.hid (hx.out.trans h0)
        clear h0 hx
        go_wp2_with fail
        go_round
        case rel => exact ⟨k', by omega, by go_num, take_zero_step HX.out HV.out⟩
        case measure => simp [intOf]
      | false =>
        have b3 : ((k' + 1 : Nat) : Int) ≤ (c : Int) := by omega
        have HT := Lib.hid (show xs.getD (k' + 1 - 1) 0 ≠ 0 by rw [Nat.add_sub_cancel, hx.out]; simpa using hz)
        have HE := Lib.hid (own_empty w w.heap.size (Nat.le_refl _))
        have HSl := Lib.hid (hs.take_ hk)
        have HN : Hid (∀ (j : Nat) (u : Value), (ints (xs.take (k' + 1)))[j]? = some u → w.cell? ⟨g, o + j, none⟩ = some u) := by
          intro j u hj
          have hjl : j < (xs.take (k' + 1)).length := by
            have := (List.getElem?_eq_some_iff.1 hj).1
            rwa [ints_len] at this
          rw [ints_at hjl] at hj
          injection hj with hj
          subst hj
          obtain ⟨g', o', e, _, hcs⟩ := HSl.out.cells (by omega)
          cases e
          exact hcs j (by rw [← HSl.out.len]; exact hjl)
        have HLn : Hid ((ints (xs.take (k' + 1))).length = (k' + 1) * 1) := by show _ = _; rw [ints_len, HSl.out.len, Nat.mul_one]
        clear hx
        go_wp2_with (at_builtin; refine wpList_append_own_at _ rfl _ _ 33 rfl w.heap.size 3 i0 (.int .i64 0) 1 8 Tryd.underlying33 hi hz0 hz1 hz2 rfl (by decide) _ _ _ rfl HE.out ⟨g, o, none⟩ (k' + 1) _ (ints (xs.take (k' + 1))) rfl HLn.out ?c1 ?c2 ?c3 ?c4 ?c5 ?_)
        case c1 => exact HN.out
        case c2 => exact ints_one _
        case c3 => unfold maxLen; omega
        case c4 => omega
        intro v' w' hown' hg' hnn hat
        obtain ⟨B, d, rfl, hsl⟩ := sl_of_own' (l := xs.take (k' + 1)) (by simpa [ints] using hown')
        have HS2 := Lib.hid hsl
        have HG := Lib.hid (((Below.refl w.heap.size w).alloc (Nat.le_refl _) (.cells (ints []).toArray 3)).grown hg' (by rw [alloc_sz]; omega) (fun k hk => by cases hk; exact Nat.le_refl _))
        clear hown' hg' hnn hat hsl
        go_wp2_with fail
        go_ret
        exact ⟨_, _, _, rfl, HS2.out, HV.out, hk, .inr HT.out, HG.out⟩
    · obtain rfl : k = 0 := by omega
      have b3 : (0 : Int) ≤ (c : Int) := by omega
      have HE := Lib.hid (own_empty w w.heap.size (Nat.le_refl _))
      have HG := Lib.hid ((Below.refl w.heap.size w).alloc (Nat.le_refl _) (.cells (ints []).toArray 3))
      have HSE : Hid (Sl (w.alloc (.cells (ints []).toArray 3)) (some ⟨w.heap.size, 0, none⟩) 0 0 []) := Sl.empty _ _ (by omega)
      cases A with
      | none =>
        go_wp2_with (at_builtin; refine wpList_append_nil _ rfl _ _ 33 rfl w.heap.size 3 i0 1 Tryd.underlying33 hi _ 0 _ rfl HE.out c rfl ?_)
        go_wp2_with fail
        go_ret
        exact ⟨_, _, _, rfl, by rw [List.take_zero]; exact HSE.out, HV.out, by omega, .inl rfl, HG.out⟩
      | some ad =>
        go_wp2_with (at_builtin; refine wpList_append_own_at _ rfl _ _ 33 rfl w.heap.size 3 i0 (.int .i64 0) 1 8 Tryd.underlying33 hi hz0 hz1 hz2 rfl (by decide) _ _ _ rfl HE.out ad 0 _ [] rfl rfl ?c1 ?c2 ?c3 ?c4 ?c5 ?_)
        go_goals
        intro v' w' hown' hg' hnn hat
        obtain ⟨B, d, rfl, hsl⟩ := sl_of_own' (l := []) (by simpa [ints] using hown')
        have HS2 := Lib.hid hsl
        have HG2 := Lib.hid (HG.out.grown hg' (by rw [alloc_sz]; omega) (fun k hk => by cases hk; exact Nat.le_refl _))
        clear hown' hg' hnn hat hsl
        go_wp2_with fail
        go_ret
        exact ⟨_, _, _, rfl, by rw [List.take_zero]; exact HS2.out, HV.out, by omega, .inl rfl, HG2.out⟩

theorem rtrim_any (A : Option Addr) (n c : Nat) (xs : List Int) (w : World) (hs : Sl w A n c xs) (hn : n ≤ 100000) (hd : dOk xs) :
    Calls Tryd.prog 125 #[.slice A n c] w fun e w' => ∃ B m d, e = .returned (.slice B m d) ∧ Sl w' B m d (digs (val xs).toNat) ∧ Below w.heap.size w w' := by
  refine (rtrim_gen A n c xs w hs hn).mono ?_
  rintro e w' ⟨B, m, d, he, h1, h2, h3, h4, h5⟩
  refine ⟨B, m, d, he, ?_, h5⟩
  have hl := hs.len
  have : xs.take m = digs (val xs).toNat := by
    rw [← h2]
    refine (digs_val (dOk_take hd m) ?_).symm
    rcases Nat.eq_zero_or_pos m with h0 | h0
    · subst h0; rw [List.take_zero]; simp [topOk]
    · rcases h4 with h4 | h4
      · omega
      · obtain ⟨m', rfl⟩ : ∃ m', m = m' + 1 := ⟨m - 1, by omega⟩
        rw [Nat.add_sub_cancel] at h4
        rw [take_succ_at xs (by omega)]
        refine topOk_snoc ?_
        simpa [List.getD, show m' < xs.length by omega] using h4
  rw [← this]; exact h1

set_option maxHeartbeats 400000 in
theorem number_any (neg : Bool) (A : Option Addr) (n c : Nat) (xs : List Int) (k : Nat) (w : World) (hs : Sl w A n c xs) (hn : n ≤ 100000) (hd : dOk xs) (hk : val xs = k) :
    Calls Tryd.prog 77 #[.bool neg, .slice A n c] w fun e w' => ∃ B m d, e = .returned (.tuple #[.agg #[.bool (nOf (fitZ (sgn neg k))), .slice B m d], .bool (fitB (sgn neg k))]) ∧ Sl w' B m d (lOf (fitZ (sgn neg k))) ∧ Below w.heap.size w w' := by
  have HS := Lib.hid hs
  have HK := Lib.hid hk
  have HD := Lib.hid hd
  obtain ⟨s1, s2⟩ := sgn_form neg k
  have F1 := Lib.hid s1
  have F2 := Lib.hid s2
  clear hs hk hd s1 s2
  go_enter Tryd.func77, Tryd.ntmps77
  go_wp2_with fail
  (refine (rtrim_any A n c xs _ (HS.out.alloc _) hn HD.out).mono ?_; rintro e w1 ⟨B, m, d, rfl, hsl, hb⟩)
  rw [HK.out, Int.toNat_natCast] at hsl
  have H1 := Lib.hid hsl
  have X1 := Lib.hid ((Bx.new w (.bool false) (.slice none 0 0)).below hb)
  have HB := Lib.hid (below_box1 hb)
  have c0 := X1.out.c0
  have c1 := X1.out.c1
  have f0 := X1.out.fz 0
  have f1 := X1.out.fz 1
  have htop := hsl.top
  have hcap := hsl.cap
  have HLn := Lib.hid hsl.len
  clear hsl hb
  by_cases h : 200 < m
  · have hF : Hid (fitB (sgn neg k) = false) := by
      show fitB _ = false
      unfold fitB; rw [← F2.out, HLn.out]; exact decide_eq_false (by omega)
    go_wp2_with fail
    refine bodyPost_ret (v := .tuple #[.agg #[.bool false, .slice none 0 0], .bool false]) (by simp [results, Tryd.results77, go_sem, *]) rfl ⟨none, 0, 0, ?_, ?_, ?_⟩
    · rw [hF.out, fitZ_not hF.out, nOf_zero]
    · rw [fitZ_not hF.out, lOf_zero]; exact Sl.nil _
    · exact (HB.out.setCell (p := ⟨w.heap.size, 0, none⟩) (by simp) _).setCell (p := ⟨w.heap.size, 1, none⟩) (by simp) _
  · have hF : Hid (fitB (sgn neg k) = true) := by
      show fitB _ = true
      unfold fitB; rw [← F2.out, HLn.out]; exact decide_eq_true (by omega)
    have hh : ¬ (200 : Int) < (m : Int) := by omega
    have FN : Hid ((neg && decide (0 < m)) = nOf (sgn neg k)) := by
      have := F1.out
      rwa [HLn.out] at this
    clear h
    have fin : ∀ b : Bool, b = nOf (sgn neg k) → (∃ B' m' d', Ending.returned (.tuple #[.agg #[.bool b, .slice B m d], .bool true]) = .returned (.tuple #[.agg #[.bool (nOf (fitZ (sgn neg k))), .slice B' m' d'], .bool (fitB (sgn neg k))]) ∧ Sl ((w1.setCell ⟨w.heap.size, 0, none⟩ (.bool b)).setCell ⟨w.heap.size, 1, none⟩ (.slice B m d)) B' m' d' (lOf (fitZ (sgn neg k))) ∧ Below w.heap.size w ((w1.setCell ⟨w.heap.size, 0, none⟩ (.bool b)).setCell ⟨w.heap.size, 1, none⟩ (.slice B m d))) := by
      intro b hbb
      refine ⟨B, m, d, by rw [hF.out, fitZ_of hF.out, hbb], ?_, (HB.out.setCell (p := ⟨w.heap.size, 0, none⟩) (by simp) _).setCell (p := ⟨w.heap.size, 1, none⟩) (by simp) _⟩
      rw [fitZ_of hF.out, ← F2.out]
      exact H1.out.box X1.out.box _ _
    have FIN := Lib.hid fin
    clear fin
    cases neg with
    | false =>
      go_wp2_with fail
      refine bodyPost_ret (v := .tuple #[.agg #[.bool false, .slice B m d], .bool true]) (by simp [results, Tryd.results77, go_sem, *]) rfl (FIN.out false (by rw [← FN.out]; rfl))
    | true =>
      rcases Nat.eq_zero_or_pos m with h0 | h0
      · subst h0
        go_wp2_with fail
        refine bodyPost_ret (v := .tuple #[.agg #[.bool false, .slice B 0 d], .bool true]) (by simp [results, Tryd.results77, go_sem, *]) rfl (FIN.out false (by rw [← FN.out]; rfl))
      · have z0 : decide ((0 : Int) < (m : Int)) = true := decide_eq_true (by omega)
        go_wp2_with fail
        refine bodyPost_ret (v := .tuple #[.agg #[.bool true, .slice B m d], .bool true]) (by simp [results, Tryd.results77, go_sem, *]) rfl (FIN.out true (by rw [← FN.out, decide_eq_true h0]; rfl))
end Go.Proofs.YtfenmogbellhdaaDoor

namespace Go.Proofs.YtfenmogbellhdaaDoor
open Go.RowKit

def plusP (a b : List Int) (k : Nat) (c : Int) : Int := a.getD k 0 + b.getD k 0 + c
/-- After k digits of a sum. -/
structure PlusAt (a b : List Int) (k : Nat) (l : List Int) (c : Int) : Prop where
  len : l.length = k
  ok : dOk l
  lo : 0 ≤ c
  hi : c ≤ 1
  eq : val l + pw k * c = val (a.take k) + val (b.take k)
theorem PlusAt.start (a b : List Int) : PlusAt a b 0 [] 0 := ⟨rfl, dOk_nil, by omega, by omega, by simp [val]⟩
theorem PlusAt.bd {a b l : List Int} {k : Nat} {c : Int} (h : PlusAt a b k l c) (da : dOk a) (db : dOk b) : 0 ≤ plusP a b k c ∧ plusP a b k c ≤ 19999 := by
  have := dOk_getD da k
  have := dOk_getD db k
  have := h.lo
  have := h.hi
  unfold plusP
  omega
theorem PlusAt.step {a b l : List Int} {k : Nat} {c : Int} (h : PlusAt a b k l c) (da : dOk a) (db : dOk b) : PlusAt a b (k + 1) (l ++ [plusP a b k c % 10000]) (plusP a b k c / 10000) := by
  have hp := h.bd da db
  refine ⟨by rw [List.length_append, h.len]; rfl, dOk_snoc h.ok (by omega) (by omega), by omega, by omega, ?_⟩
  rw [val_snoc, h.len, val_take_succ, val_take_succ, pw_succ]
  have e := h.eq
  have e2 : pw k * (plusP a b k c % 10000) + 10000 * pw k * (plusP a b k c / 10000) = pw k * plusP a b k c := by
    have : plusP a b k c = plusP a b k c % 10000 + 10000 * (plusP a b k c / 10000) := by omega
    conv => rhs; rw [this, Int.mul_add]
    rw [← Int.mul_assoc, Int.mul_comm (pw k) 10000]
  have e3 : pw k * plusP a b k c = pw k * a.getD k 0 + pw k * b.getD k 0 + pw k * c := by unfold plusP; rw [Int.mul_add, Int.mul_add]
  omega
theorem PlusAt.done {a b l : List Int} {k : Nat} (h : PlusAt a b k l 0) (ha : a.length ≤ k) (hb : b.length ≤ k) : val l = val a + val b := by
  have := h.eq
  rw [List.take_of_length_le ha, List.take_of_length_le hb] at this
  omega

set_option maxHeartbeats 2000000 in
theorem plus_any (A B : Option Addr) (n cn m cm : Nat) (a b : List Int) (w : World) (ha : Sl w A n cn a) (hb : Sl w B m cm b) (da : dOk a) (db : dOk b) (n1 : n ≤ 1000) (m1 : m ≤ 1000) :
    Calls Tryd.prog 75 #[.slice A n cn, .slice B m cm] w fun e w' => ∃ R k r, e = .returned (.slice R k r) ∧ Sl w' R k r (digs (val a + val b).toNat) ∧ Below w.heap.size w w' := by
  obtain ⟨i0, hi, hz0, hz1, hz2⟩ := info_parts int_info
  have la := Lib.hid ha.len
  have lb := Lib.hid hb.len
  have ht := ha.top
  have ht2 := hb.top
  have hq := ha.cap
  have hq2 := hb.cap
  go_enter Tryd.func75, Tryd.ntmps75
  go_wp2_with fail
  go_loopw [5, 6, 7] (fun ov cv iv wr => ∃ (k : Nat) (c : Int) (l : List Int), k ≤ max n m + 1 ∧ iv = .int .i64 (k : Int) ∧ cv = .int .i64 c ∧ PlusAt a b k l c ∧ wr.ownsRow w.heap.size 3 1 ov l.length (ints l) ∧ Below w.heap.size w wr ∧ (max n m < k → c = 0)) (fun _ _ iv _ => max n m + 2 - (intOf iv).toNat)
  case atStart => exact ⟨0, 0, [], by omega, rfl, rfl, PlusAt.start a b, own_nil _ _, Below.refl _ _, fun h => rfl⟩
  case round =>
    obtain ⟨k, c, l, hk, rfl, rfl, hp, hown, hbw, hcz⟩ := hrel
    have HP := Lib.hid hp
    have HO := Lib.hid hown
    have HB := Lib.hid hbw
    have HCZ := Lib.hid hcz
    clear hp hbw hcz
    have hl0 := HP.out.lo
    have hl1 := HP.out.hi
    by_cases h1 : k < n
    · have g1 : (k : Int) < (n : Int) := by omega
      have hkm : k ≤ max n m := by omega
      clear hown
      have HST := Lib.hid (HP.out.step da db)
      have pb := HP.out.bd da db
      obtain ⟨pb0, pb1⟩ := pb
      have HPL : Hid (a.getD k 0 + b.getD k 0 + c = plusP a b k c) := rfl
      have da1 := dOk_getD da k
      have db1 := dOk_getD db k
      obtain ⟨x0, x1⟩ := da1
      obtain ⟨y0, y1⟩ := db1
      have hc0 := HP.out.lo
      have hc1 := HP.out.hi
      have hll := HP.out.len
      have HLL := Lib.hid hll
      have hlk : l.length ≤ 2000 := by omega
      clear hll
      generalize hx : a.getD k 0 = x at *
      generalize hy : b.getD k 0 = y at *
      have HX := Lib.hid hx
      have HY := Lib.hid hy
      clear hx hy
      generalize plusP a b k c = p at *
      have pe0 : 0 ≤ x + y + c := by omega
      have pe1 : x + y + c ≤ 19999 := by omega
      go_wp2_with fail
      (refine (digit_any _ _ _ a k _ _ (ha.below HB.out) rfl).mono ?_; rintro e w3 ⟨rfl, rfl⟩)
      rw [HX.out]
      go_wp2_with fail
      (refine (digit_any _ _ _ b k _ _ (hb.below HB.out) rfl).mono ?_; rintro e w3 ⟨rfl, rfl⟩)
      rw [HY.out]
      go_wp2_with (at_builtin; refine wpList_append_own_at _ rfl _ _ 33 rfl w.heap.size 3 i0 (.int .i64 0) 1 8 Tryd.underlying33 hi hz0 hz1 hz2 rfl (by decide) _ _ _ rfl (HO.out.alloc _) ⟨wr.heap.size, 0, none⟩ 1 1 [.int .i64 ((x + y + c) % 10000)] rfl rfl ?c1 ?c2 ?c3 ?c4 ?c5 ?_)
      try (case c1 => exact one_cell wr _)
      case c2 => first | exact ints_one [_] | rfl
      case c3 => unfold maxLen; omega
      case c4 => omega
      case c5 => first | (rw [alloc_sz]; have := HB.out.size; omega) | (have := HB.out.size; omega)
      intro v' w' hown' hg hnn hat
      have HO' : Hid (w'.ownsRow w.heap.size 3 1 v' (l ++ [(x + y + c) % 10000]).length (ints (l ++ [(x + y + c) % 10000]))) := by
        rw [List.length_append, ints_app]
        exact hown'
      have HB' : Hid (Below w.heap.size w w') := (HB.out.alloc HB.out.size _).grown hg (by rw [alloc_sz]; have := HB.out.size; omega) (fun k hk => own_row_ge HO.out (k := k) hk)
      clear hown' hg hnn hat
      go_wp2_with fail
      go_roundw
      case rel => exact ⟨k + 1, _, _, by omega, by go_num, rfl, by have := HST.out; rw [← HPL.out] at this; exact this, HO'.out, HB'.out, by
        intro hk
        have : k = max n m := by omega
        have e1 : x = 0 := by rw [← HX.out]; simp [List.getD, show a.length ≤ k by rw [la.out]; omega]
        have e2 : y = 0 := by rw [← HY.out]; simp [List.getD, show b.length ≤ k by rw [lb.out]; omega]
        omega⟩
      case measure => simp [intOf] <;> omega
    · by_cases h2 : k < m
      · have g1 : decide ((k : Int) < (n : Int)) = false := decide_eq_false (by omega)
        have g2 : (k : Int) < (m : Int) := by omega
        have hkm : k ≤ max n m := by omega
        clear hown
        have HST := Lib.hid (HP.out.step da db)
        have pb := HP.out.bd da db
        obtain ⟨pb0, pb1⟩ := pb
        have HPL : Hid (a.getD k 0 + b.getD k 0 + c = plusP a b k c) := rfl
        have da1 := dOk_getD da k
        have db1 := dOk_getD db k
        obtain ⟨x0, x1⟩ := da1
        obtain ⟨y0, y1⟩ := db1
        have hc0 := HP.out.lo
        have hc1 := HP.out.hi
        have hll := HP.out.len
        have HLL := Lib.hid hll
        have hlk : l.length ≤ 2000 := by omega
        clear hll
        generalize hx : a.getD k 0 = x at *
        generalize hy : b.getD k 0 = y at *
        have HX := Lib.hid hx
        have HY := Lib.hid hy
        clear hx hy
        generalize plusP a b k c = p at *
        have pe0 : 0 ≤ x + y + c := by omega
        have pe1 : x + y + c ≤ 19999 := by omega
        go_wp2_with fail
        (refine (digit_any _ _ _ a k _ _ (ha.below HB.out) rfl).mono ?_; rintro e w3 ⟨rfl, rfl⟩)
        rw [HX.out]
        go_wp2_with fail
        (refine (digit_any _ _ _ b k _ _ (hb.below HB.out) rfl).mono ?_; rintro e w3 ⟨rfl, rfl⟩)
        rw [HY.out]
        go_wp2_with (at_builtin; refine wpList_append_own_at _ rfl _ _ 33 rfl w.heap.size 3 i0 (.int .i64 0) 1 8 Tryd.underlying33 hi hz0 hz1 hz2 rfl (by decide) _ _ _ rfl (HO.out.alloc _) ⟨wr.heap.size, 0, none⟩ 1 1 [.int .i64 ((x + y + c) % 10000)] rfl rfl ?c1 ?c2 ?c3 ?c4 ?c5 ?_)
        try (case c1 => exact one_cell wr _)
        case c2 => first | exact ints_one [_] | rfl
        case c3 => unfold maxLen; omega
        case c4 => omega
        case c5 => first | (rw [alloc_sz]; have := HB.out.size; omega) | (have := HB.out.size; omega)
        intro v' w' hown' hg hnn hat
        have HO' : Hid (w'.ownsRow w.heap.size 3 1 v' (l ++ [(x + y + c) % 10000]).length (ints (l ++ [(x + y + c) % 10000]))) := by
          rw [List.length_append, ints_app]
          exact hown'
        have HB' : Hid (Below w.heap.size w w') := (HB.out.alloc HB.out.size _).grown hg (by rw [alloc_sz]; have := HB.out.size; omega) (fun k hk => own_row_ge HO.out (k := k) hk)
        clear hown' hg hnn hat
        go_wp2_with fail
        go_roundw
        case rel => exact ⟨k + 1, _, _, by omega, by go_num, rfl, by have := HST.out; rw [← HPL.out] at this; exact this, HO'.out, HB'.out, by
          intro hk
          have : k = max n m := by omega
          have e1 : x = 0 := by rw [← HX.out]; simp [List.getD, show a.length ≤ k by rw [la.out]; omega]
          have e2 : y = 0 := by rw [← HY.out]; simp [List.getD, show b.length ≤ k by rw [lb.out]; omega]
          omega⟩
        case measure => simp [intOf] <;> omega
      · by_cases h3 : 0 < c
        · have g1 : decide ((k : Int) < (n : Int)) = false := decide_eq_false (by omega)
          have g2 : decide ((k : Int) < (m : Int)) = false := decide_eq_false (by omega)
          have hkm : k ≤ max n m := by
            refine Nat.not_lt.1 fun h => ?_
            have := HCZ.out h
            omega
          clear hown
          have HST := Lib.hid (HP.out.step da db)
          have pb := HP.out.bd da db
          obtain ⟨pb0, pb1⟩ := pb
          have HPL : Hid (a.getD k 0 + b.getD k 0 + c = plusP a b k c) := rfl
          have da1 := dOk_getD da k
          have db1 := dOk_getD db k
          obtain ⟨x0, x1⟩ := da1
          obtain ⟨y0, y1⟩ := db1
          have hc0 := HP.out.lo
          have hc1 := HP.out.hi
          have hll := HP.out.len
          have HLL := Lib.hid hll
          have hlk : l.length ≤ 2000 := by omega
          clear hll
          generalize hx : a.getD k 0 = x at *
          generalize hy : b.getD k 0 = y at *
          have HX := Lib.hid hx
          have HY := Lib.hid hy
          clear hx hy
          generalize plusP a b k c = p at *
          have pe0 : 0 ≤ x + y + c := by omega
          have pe1 : x + y + c ≤ 19999 := by omega
          go_wp2_with fail
          (refine (digit_any _ _ _ a k _ _ (ha.below HB.out) rfl).mono ?_; rintro e w3 ⟨rfl, rfl⟩)
          rw [HX.out]
          go_wp2_with fail
          (refine (digit_any _ _ _ b k _ _ (hb.below HB.out) rfl).mono ?_; rintro e w3 ⟨rfl, rfl⟩)
          rw [HY.out]
          go_wp2_with (at_builtin; refine wpList_append_own_at _ rfl _ _ 33 rfl w.heap.size 3 i0 (.int .i64 0) 1 8 Tryd.underlying33 hi hz0 hz1 hz2 rfl (by decide) _ _ _ rfl (HO.out.alloc _) ⟨wr.heap.size, 0, none⟩ 1 1 [.int .i64 ((x + y + c) % 10000)] rfl rfl ?c1 ?c2 ?c3 ?c4 ?c5 ?_)
          try (case c1 => exact one_cell wr _)
          case c2 => first | exact ints_one [_] | rfl
          case c3 => unfold maxLen; omega
          case c4 => omega
          case c5 => first | (rw [alloc_sz]; have := HB.out.size; omega) | (have := HB.out.size; omega)
          intro v' w' hown' hg hnn hat
          have HO' : Hid (w'.ownsRow w.heap.size 3 1 v' (l ++ [(x + y + c) % 10000]).length (ints (l ++ [(x + y + c) % 10000]))) := by
            rw [List.length_append, ints_app]
            exact hown'
          have HB' : Hid (Below w.heap.size w w') := (HB.out.alloc HB.out.size _).grown hg (by rw [alloc_sz]; have := HB.out.size; omega) (fun k hk => own_row_ge HO.out (k := k) hk)
          clear hown' hg hnn hat
          go_wp2_with fail
          go_roundw
          case rel => exact ⟨k + 1, _, _, by omega, by go_num, rfl, by have := HST.out; rw [← HPL.out] at this; exact this, HO'.out, HB'.out, by
            intro hk
            have : k = max n m := by omega
            have e1 : x = 0 := by rw [← HX.out]; simp [List.getD, show a.length ≤ k by rw [la.out]; omega]
            have e2 : y = 0 := by rw [← HY.out]; simp [List.getD, show b.length ≤ k by rw [lb.out]; omega]
            omega⟩
          case measure => simp [intOf] <;> omega
        · obtain rfl : c = 0 := by omega
          have g1 : decide ((k : Int) < (n : Int)) = false := decide_eq_false (by omega)
          have g2 : decide ((k : Int) < (m : Int)) = false := decide_eq_false (by omega)
          obtain ⟨A', c', rfl, hs⟩ := sl_of_own hown
          have HS := Lib.hid hs
          have HV := Lib.hid (HP.out.done (by rw [la.out]; omega) (by rw [lb.out]; omega))
          have hlk : l.length ≤ 2000 := by have := HP.out.len; omega
          clear hown hs HO
          go_wp2_with fail
          (refine (rtrim_any A' l.length c' l _ HS.out (by omega) HP.out.ok).mono ?_; rintro e w3 ⟨R, q, r, rfl, hR, hb3⟩)
          rw [HV.out] at hR
          have HR := Lib.hid hR
          have HB3 := Lib.hid (below_on HB.out hb3)
          clear hR hb3
          go_wp2_with fail
          go_ret
          exact ⟨_, _, _, rfl, HR.out, HB3.out⟩

/-- After k digits of a difference. -/
structure MinAt (a b : List Int) (k : Nat) (l : List Int) (c : Int) : Prop where
  len : l.length = k
  ok : dOk l
  lo : 0 ≤ c
  hi : c ≤ 1
  eq : val l - pw k * c = val (a.take k) - val (b.take k)
theorem MinAt.start (a b : List Int) : MinAt a b 0 [] 0 := ⟨rfl, dOk_nil, by omega, by omega, by simp [val]⟩
theorem MinAt.step {a b l : List Int} {k : Nat} {c d c' : Int} (h : MinAt a b k l c) (h0 : 0 ≤ d) (h1 : d < 10000) (c0 : 0 ≤ c') (c1 : c' ≤ 1) (he : d = a.getD k 0 - b.getD k 0 - c + 10000 * c') : MinAt a b (k + 1) (l ++ [d]) c' := by
  refine ⟨by rw [List.length_append, h.len]; rfl, dOk_snoc h.ok h0 h1, c0, c1, ?_⟩
  rw [val_snoc, h.len, val_take_succ, val_take_succ, pw_succ, he, Int.mul_add, Int.mul_sub, Int.mul_sub, Int.mul_assoc]
  have e := h.eq
  have : pw k * (10000 * c') = 10000 * (pw k * c') := by rw [Int.mul_left_comm]
  omega
theorem MinAt.done {a b l : List Int} {c : Int} (h : MinAt a b a.length l c) (_da : dOk a) (db : dOk b) (hl : b.length ≤ a.length) (hle : val b ≤ val a) : val l = val a - val b := by
  have e := h.eq
  rw [List.take_of_length_le (Nat.le_refl _), List.take_of_length_le hl] at e
  have b1 := val_bd h.ok
  rw [h.len] at b1
  have b2 := val_bd db
  have b3 := val_bd _da
  have := win_eq (x := val l) (c := -c) (m := pw a.length) (v := val a - val b) (by rw [Int.mul_neg]; omega) b1.1 b1.2 (by omega) (by omega)
  exact this.1

set_option maxHeartbeats 2000000 in
theorem minus_any (A B : Option Addr) (n cn m cm : Nat) (a b : List Int) (w : World) (ha : Sl w A n cn a) (hb : Sl w B m cm b) (da : dOk a) (db : dOk b) (n1 : n ≤ 1000) (hmn : m ≤ n) (hle : val b ≤ val a) :
    Calls Tryd.prog 76 #[.slice A n cn, .slice B m cm] w fun e w' => ∃ R k r, e = .returned (.slice R k r) ∧ Sl w' R k r (digs (val a - val b).toNat) ∧ Below w.heap.size w w' := by
  obtain ⟨i0, hi, hz0, hz1, hz2⟩ := info_parts int_info
  have la := Lib.hid ha.len
  have lb := Lib.hid hb.len
  have ht := ha.top
  have ht2 := hb.top
  have hq := ha.cap
  have hq2 := hb.cap
  go_enter Tryd.func76, Tryd.ntmps76
  go_wp2_with fail
  go_loopw [5, 6, 7] (fun ov cv iv wr => ∃ (k : Nat) (c : Int) (l : List Int), k ≤ n ∧ iv = .int .i64 (k : Int) ∧ cv = .int .i64 c ∧ MinAt a b k l c ∧ wr.ownsRow w.heap.size 3 1 ov l.length (ints l) ∧ Below w.heap.size w wr) (fun _ _ iv _ => n - (intOf iv).toNat)
  case atStart => exact ⟨0, 0, [], by omega, rfl, rfl, MinAt.start a b, own_nil _ _, Below.refl _ _⟩
  case round =>
    obtain ⟨k, c, l, hk, rfl, rfl, hp, hown, hbw⟩ := hrel
    have HP := Lib.hid hp
    have HO := Lib.hid hown
    have HB := Lib.hid hbw
    clear hp hbw
    have hl0 := HP.out.lo
    have hl1 := HP.out.hi
    have hll : l.length ≤ 2000 := by have := HP.out.len; omega
    by_cases h1 : k < n
    · obtain ⟨g, o, x, rfl, hg', hx, hxe⟩ := (ha.below HB.out).at_ h1
      have g1 : (k : Int) < (n : Int) := by omega
      have g2 : (0 : Int) ≤ (k : Int) := by omega
      have dx := dOk_getD da k
      rw [hxe.out] at dx
      obtain ⟨x0, x1⟩ := dx
      have dy := dOk_getD db k
      obtain ⟨y, hy⟩ : ∃ y, b.getD k 0 = y := ⟨_, rfl⟩
      rw [hy] at dy
      have HY := Lib.hid hy
      obtain ⟨y0, y1⟩ := dy
      clear hy hown
      have HST := Lib.hid (fun d c' h0 h1 c0 c1 he => HP.out.step (d := d) (c' := c') h0 h1 c0 c1 he)
      rw [hxe.out, HY.out] at HST
      have q0 : IntKind.i64.wrap (x - y) = x - y := IntWalk.i64_in _ (by omega)
      have q1 : IntKind.i64.wrap (x - y - c) = x - y - c := IntWalk.i64_in _ (by omega)
      have DG : Hid (∀ q, Calls Tryd.prog 128 #[.slice B m cm, .int .i64 (k : Int)] (wr.drewN q) fun e w' => e = .returned (.int .i64 y) ∧ wr.drewN q = w') := fun q => by
        have := digit_any B m cm b k (k : Int) (wr.drewN q) ((hb.below HB.out).drewN q) rfl
        rwa [HY.out] at this
      have Q0 := Lib.hid q0
      have Q1 := Lib.hid q1
      go_wp2_with fail
      go_quiet ((go_at_call 128; exact quiet_left (DG.out _)))
      have HO := Lib.hid (show (wr.drewN nq).ownsRow _ _ _ _ _ _ from HO.out)
      have HB := Lib.hid (below_drewN HB.out nq)
      clear q0 q1 DG Q0 Q1
      generalize wr.drewN nq = wr at *
      by_cases hneg : x - y - c < 0
      · have h' : decide (x - y - c < 0) = true := decide_eq_true hneg
        go_wp2_with (at_builtin; refine wpList_append_own_at _ rfl _ _ 33 rfl w.heap.size 3 i0 (.int .i64 0) 1 8 Tryd.underlying33 hi hz0 hz1 hz2 rfl (by decide) _ _ _ rfl (HO.out.alloc _) ⟨wr.heap.size, 0, none⟩ 1 1 [.int .i64 (x - y - c + 10000)] rfl rfl ?c1 ?c2 ?c3 ?c4 ?c5 ?_)
        try (case c1 => exact one_cell wr _)
        case c2 => first | exact ints_one [_] | rfl
        case c3 => unfold maxLen; omega
        case c4 => omega
        case c5 => first | (rw [alloc_sz]; have := HB.out.size; omega) | (have := HB.out.size; omega)
        intro v' w' hown' hg hnn hat
        have HO' : Hid (w'.ownsRow w.heap.size 3 1 v' (l ++ [x - y - c + 10000]).length (ints (l ++ [x - y - c + 10000]))) := by
          rw [List.length_append, ints_app]
          exact hown'
        have HB' : Hid (Below w.heap.size w w') := (HB.out.alloc HB.out.size _).grown hg (by rw [alloc_sz]; have := HB.out.size; omega) (fun k hk => own_row_ge HO.out (k := k) hk)
        clear hown' hg hnn hat
        go_wp2_with fail
        go_roundw
        case rel => exact ⟨k + 1, 1, _, by omega, by go_num, rfl, HST.out _ 1 (by omega) (by omega) (by omega) (by omega) (by omega), HO'.out, HB'.out⟩
        case measure => simp [intOf] <;> omega
      · have h' : decide (x - y - c < 0) = false := decide_eq_false hneg
        go_wp2_with (at_builtin; refine wpList_append_own_at _ rfl _ _ 33 rfl w.heap.size 3 i0 (.int .i64 0) 1 8 Tryd.underlying33 hi hz0 hz1 hz2 rfl (by decide) _ _ _ rfl (HO.out.alloc _) ⟨wr.heap.size, 0, none⟩ 1 1 [.int .i64 (x - y - c)] rfl rfl ?c1 ?c2 ?c3 ?c4 ?c5 ?_)
        try (case c1 => exact one_cell wr _)
        case c2 => first | exact ints_one [_] | rfl
        case c3 => unfold maxLen; omega
        case c4 => omega
        case c5 => first | (rw [alloc_sz]; have := HB.out.size; omega) | (have := HB.out.size; omega)
        intro v' w' hown' hg hnn hat
        have HO' : Hid (w'.ownsRow w.heap.size 3 1 v' (l ++ [x - y - c]).length (ints (l ++ [x - y - c]))) := by
          rw [List.length_append, ints_app]
          exact hown'
        have HB' : Hid (Below w.heap.size w w') := (HB.out.alloc HB.out.size _).grown hg (by rw [alloc_sz]; have := HB.out.size; omega) (fun k hk => own_row_ge HO.out (k := k) hk)
        clear hown' hg hnn hat
        go_wp2_with fail
        go_roundw
        case rel => exact ⟨k + 1, 0, _, by omega, by go_num, rfl, HST.out _ 0 (by omega) (by omega) (by omega) (by omega) (by omega), HO'.out, HB'.out⟩
        case measure => simp [intOf] <;> omega
    · obtain rfl : k = n := by omega
      obtain ⟨A', c', rfl, hs⟩ := sl_of_own hown
      have HS := Lib.hid hs
      have HV := Lib.hid (MinAt.done (show MinAt a b a.length l c by rw [la.out]; exact HP.out) da db (by rw [la.out, lb.out]; omega) hle)
      clear hown hs HO
      go_wp2_with fail
      (refine (rtrim_any A' l.length c' l _ HS.out (by omega) HP.out.ok).mono ?_; rintro e w3 ⟨R, q, r, rfl, hR, hb3⟩)
      rw [HV.out] at hR
      have HR := Lib.hid hR
      have HB3 := Lib.hid (below_on HB.out hb3)
      clear hR hb3
      go_wp2_with fail
      go_ret
      exact ⟨_, _, _, rfl, HR.out, HB3.out⟩
end Go.Proofs.YtfenmogbellhdaaDoor

namespace Go.Proofs.YtfenmogbellhdaaDoor
open Go.RowKit

theorem val_set {l : List Int} {j : Nat} {d : Int} (h : j < l.length) : val (l.set j d) = val l + pw j * (d - l.getD j 0) := by
  have s1 := val_split (l.set j d) (j + 1) (by rw [List.length_set]; omega)
  have s2 := val_split l (j + 1) (by omega)
  rw [drop_set_succ, val_take_succ, take_set_self] at s1
  rw [val_take_succ] at s2
  have g : (l.set j d).getD j 0 = d := by simp [List.getD, h]
  rw [g] at s1
  rw [Int.mul_sub]
  omega
/-- In the round of the digit i: k digits of b are done. -/
structure TimAt (O b : List Int) (x : Int) (i k : Nat) (O' : List Int) (c : Int) : Prop where
  len : O'.length = O.length
  ok : dOk O'
  rest : O'.drop (i + k) = O.drop (i + k)
  lo : 0 ≤ c
  hi : c ≤ 9999
  eq : val O' + pw (i + k) * c = val O + pw i * (x * val (b.take k))
theorem TimAt.start {O b : List Int} {x : Int} {i : Nat} (h : dOk O) : TimAt O b x i 0 O 0 := ⟨rfl, h, rfl, by omega, by omega, by simp [val]⟩
def timP (O' b : List Int) (x : Int) (i k : Nat) (c : Int) : Int := O'.getD (i + k) 0 + x * b.getD k 0 + c
theorem mul_dig {x y : Int} (x0 : 0 ≤ x) (x1 : x < 10000) (y0 : 0 ≤ y) (y1 : y < 10000) : 0 ≤ x * y ∧ x * y ≤ 99980001 := by
  refine ⟨Int.mul_nonneg x0 y0, ?_⟩
  have a1 : x * y ≤ 9999 * y := Int.mul_le_mul_of_nonneg_right (by omega) y0
  omega
theorem TimAt.step {O b O' : List Int} {x c : Int} {i k : Nat} (h : TimAt O b x i k O' c) (hb : dOk b) (x0 : 0 ≤ x) (x1 : x < 10000) (hj : i + k < O.length) :
    TimAt O b x i (k + 1) (O'.set (i + k) (timP O' b x i k c % 10000)) (timP O' b x i k c / 10000) ∧ 0 ≤ timP O' b x i k c ∧ timP O' b x i k c ≤ 99999999 := by
  have hz := dOk_getD h.ok (i + k)
  have hy := dOk_getD hb k
  have hm := mul_dig x0 x1 hy.1 hy.2
  have := h.lo
  have := h.hi
  have hp : 0 ≤ timP O' b x i k c ∧ timP O' b x i k c ≤ 99999999 := by unfold timP; omega
  refine ⟨⟨by rw [List.length_set, h.len], dOk_set h.ok _ (by omega) (by omega), ?_, by omega, by omega, ?_⟩, hp⟩
  · rw [show i + (k + 1) = i + k + 1 by omega, drop_set_succ]
    exact drop_succ_of h.rest
  · rw [val_set (by rw [h.len]; exact hj), show i + (k + 1) = i + k + 1 by omega, pw_succ, val_take_succ]
    have e := h.eq
    generalize hP : timP O' b x i k c = p at *
    have e2 : pw (i + k) * (p % 10000) + 10000 * pw (i + k) * (p / 10000) = pw (i + k) * p := by
      have : p = p % 10000 + 10000 * (p / 10000) := by omega
      conv => rhs; rw [this, Int.mul_add]
      rw [← Int.mul_assoc, Int.mul_comm (pw (i + k)) 10000]
    have e3 : pw (i + k) * p = pw (i + k) * O'.getD (i + k) 0 + pw (i + k) * (x * b.getD k 0) + pw (i + k) * c := by
      rw [← hP]; unfold timP; rw [Int.mul_add, Int.mul_add]
    have e4 : pw i * (x * (val (b.take k) + pw k * b.getD k 0)) = pw i * (x * val (b.take k)) + pw (i + k) * (x * b.getD k 0) := by
      rw [Int.mul_add, Int.mul_add, pw_add, Int.mul_left_comm x (pw k), Int.mul_assoc]
    rw [e4, Int.mul_sub]
    omega
/-- Where the digits of b are done: the place is within, and nothing is carried beyond. -/
theorem TimAt.place_le {a O b O' : List Int} {c : Int} {i k : Nat} (hM : MulAt a b i O) (h : TimAt O b (a.getD i 0) i k O' c) (da : dOk a) (db : dOk b) (hi : i < a.length) (hk : b.length ≤ k) (hc : 0 < c) : k ≤ b.length := by
  have e := h.eq
  rw [List.take_of_length_le hk, hM.eq] at e
  have e2 : val (a.take i) * val b + pw i * (a.getD i 0 * val b) = val (a.take (i + 1)) * val b := by
    rw [val_take_succ, Int.add_mul, Int.mul_assoc]
  rw [e2] at e
  have b1 := val_bd (dOk_take da (i + 1))
  rw [List.length_take, Nat.min_eq_left (by omega)] at b1
  have b2 := val_bd db
  have lt := pw_split_lt b1.2 b2.2 b1.1
  have b3 := val_bd h.ok
  have p1 : pw (i + k) * 1 ≤ pw (i + k) * c := Int.mul_le_mul_of_nonneg_left (by omega) (Int.le_of_lt (pw_pos _))
  refine Nat.not_lt.1 fun hlt => ?_
  have := pw_mono (show i + 1 + b.length ≤ i + k by omega)
  omega
theorem TimAt.done {a O b O' : List Int} {i k : Nat} (hM : MulAt a b i O) (h : TimAt O b (a.getD i 0) i k O' 0) (hk : b.length ≤ k) : MulAt a b (i + 1) O' := by
  refine ⟨h.len.trans hM.len, h.ok, ?_⟩
  have e := h.eq
  rw [List.take_of_length_le hk, hM.eq] at e
  rw [val_take_succ, Int.add_mul, Int.mul_assoc]
  omega

set_option maxHeartbeats 2000000 in
theorem times_any (A B : Option Addr) (n cn m cm : Nat) (a b : List Int) (w : World) (ha : Sl w A n cn a) (hb : Sl w B m cm b) (da : dOk a) (db : dOk b) (n1 : n ≤ 1000) (m1 : m ≤ 1000) :
    Calls Tryd.prog 127 #[.slice A n cn, .slice B m cm] w fun e w' => ∃ R k r, e = .returned (.slice R k r) ∧ Sl w' R k r (digs (val a * val b).toNat) ∧ Below w.heap.size w w' := by
  have la := Lib.hid ha.len
  have lb := Lib.hid hb.len
  have hq := ha.cap
  have hq2 := hb.cap
  have ht := ha.top
  have ht2 := hb.top
  have hmk : ∀ W : World, (Instr.makeSlice 33 (.int .i64 ((n : Int) + (m : Int))) (.int .i64 ((n : Int) + (m : Int)))).run Tryd.prog W = .ok (.slice (some ⟨W.heap.size, 0, none⟩) (n + m) (n + m)) (W.alloc (.cells (ints (List.replicate (n + m) 0)).toArray 3)) := fun W => by
    have := run_mk (n + m) (by omega) W
    rwa [Int.natCast_add] at this
  have HS : Hid (MulAt a b 0 (List.replicate (n + m) 0)) := by rw [← la.out, ← lb.out]; exact MulAt.start a b
  have HOS := Lib.hid (Own.new w (List.replicate (n + m) 0))
  have HBS : Hid (Below w.heap.size w (w.alloc (.cells (ints (List.replicate (n + m) 0)).toArray 3))) := (Below.refl _ _).alloc (Nat.le_refl _) _
  go_enter Tryd.func127, Tryd.ntmps127
  go_wp2_with fail
  generalize w.alloc (.cells (ints (List.replicate (n + m) 0)).toArray 3) = w0 at *
  obtain ⟨g, hg⟩ : ∃ g, w.heap.size = g := ⟨_, rfl⟩
  rw [hg] at HOS
  have HG := Lib.hid hg
  rw [hg]
  clear hg hmk
  go_loopw [6] (fun iv wr => ∃ (i : Nat) (O : List Int), i ≤ n ∧ iv = .int .i64 (i : Int) ∧ MulAt a b i O ∧ Own wr g O ∧ Below w.heap.size w wr) (fun iv _ => n - (intOf iv).toNat)
  case atStart => exact ⟨0, _, Nat.zero_le _, rfl, HS.out, HOS.out, HBS.out⟩
  case round =>
    obtain ⟨i, O, hi, rfl, hM, hO, hB⟩ := hrel
    have HM := Lib.hid hM
    have HO := Lib.hid hO
    have HB := Lib.hid hB
    clear hM hO hB
    have HOL : Hid (O.length = n + m) := by rw [← la.out, ← lb.out]; exact HM.out.len
    by_cases hlt : i < n
    · obtain ⟨x, hx⟩ : ∃ x, a.getD i 0 = x := ⟨_, rfl⟩
      have bx := dOk_getD da i
      rw [hx] at bx
      have HX := Lib.hid hx
      obtain ⟨x0, x1⟩ := bx
      clear hx
      go_wp2_with fail
      obtain ⟨wo, rfl⟩ : ∃ wo : World, wo = wr := ⟨_, rfl⟩
      go_loopw [7, 8] (fun cv kv wr => ∃ (k : Nat) (c : Int) (O' : List Int), k ≤ m + 1 ∧ kv = .int .i64 (k : Int) ∧ cv = .int .i64 c ∧ TimAt O b x i k O' c ∧ Own wr g O' ∧ Below w.heap.size w wr) (fun _ kv _ => m + 2 - (intOf kv).toNat)
      case atStart => exact ⟨0, 0, O, by omega, rfl, rfl, TimAt.start HM.out.ok, HO.out, HB.out⟩
      case round =>
        obtain ⟨k, c, O', hk, rfl, rfl, hT, hO, hB⟩ := hrel
        have HT := Lib.hid hT
        have HO' := Lib.hid hO
        have HB' := Lib.hid hB
        clear hT hO hB
        have c0 := HT.out.lo
        have c1 := HT.out.hi
        by_cases hgo : k < m ∨ 0 < c
        · have hkm : k ≤ m := by
            rcases hgo with h | h
            · omega
            · rcases Nat.lt_or_ge k m with h' | h'
              · omega
              · have := TimAt.place_le HM.out (show TimAt O b (a.getD i 0) i k O' c by rw [HX.out]; exact HT.out) da db (by rw [la.out]; exact hlt) (by rw [lb.out]; exact h') h
                rw [lb.out] at this; exact this
          obtain ⟨ST, p0, p1⟩ := HT.out.step db x0 x1 (show i + k < O.length by rw [HOL.out]; omega)
          have HST := Lib.hid ST
          have HPE : Hid (O'.getD (i + k) 0 + x * b.getD k 0 + c = timP O' b x i k c) := rfl
          have hol : i + k < O'.length := by rw [HT.out.len, HOL.out]; omega
          obtain ⟨z, hz⟩ : ∃ z, O'.getD (i + k) 0 = z := ⟨_, rfl⟩
          obtain ⟨y, hy⟩ : ∃ y, b.getD k 0 = y := ⟨_, rfl⟩
          have hcell := HO'.out.cell hol
          have hfz := HO'.out.frozen (i + k)
          have bz := dOk_getD HT.out.ok (i + k)
          have by_ := dOk_getD db k
          rw [hz] at HPE hcell bz
          rw [hy] at HPE by_
          have HY := Lib.hid hy
          obtain ⟨z0, z1⟩ := bz
          obtain ⟨y0, y1⟩ := by_
          obtain ⟨m0, m1'⟩ := mul_dig x0 x1 y0 y1
          obtain ⟨ga, oa, x', rfl, hga, hxc, hxe⟩ := (ha.below HB'.out).at_ hlt
          obtain rfl : x' = x := by have := hxe.out; rw [HX.out] at this; exact this.symm
          have HSTO : Hid (Own (wr.setCell ⟨g, i + k, none⟩ (.int .i64 (timP O' b x' i k c % 10000))) g (O'.set (i + k) (timP O' b x' i k c % 10000))) := HO'.out.set_ (i + k) _
          clear hz hy hxe ST
          generalize timP O' b x' i k c = p at *
          have pe0 : 0 ≤ z + x' * y + c := by have := HPE.out; omega
          have pe1 : z + x' * y + c ≤ 99999999 := by have := HPE.out; omega
          have w1 : IntKind.i64.wrap ((i : Int) + (k : Int)) = (i : Int) + (k : Int) := IntWalk.i64_in _ (by omega)
          have w2 : IntKind.i64.wrap (x' * y) = x' * y := IntWalk.i64_in _ (by omega)
          have w3 : IntKind.i64.wrap (z + x' * y) = z + x' * y := IntWalk.i64_in _ (by omega)
          have w4 : IntKind.i64.wrap (z + x' * y + c) = z + x' * y + c := IntWalk.i64_in _ (by omega)
          have g1 : (i : Int) + (k : Int) < (n : Int) + (m : Int) := by omega
          have g2 : (0 : Int) ≤ (i : Int) + (k : Int) := by omega
          have g3 : (i : Int) < (n : Int) := by omega
          have g4 : (0 : Int) ≤ (i : Int) := by omega
          have g5 : ((i : Int) + (k : Int)).toNat = i + k := by omega
          have g6 : (i : Int) + (k : Int) < ((n + m : Nat) : Int) := by omega
          have DG : Hid (∀ q, Calls Tryd.prog 128 #[.slice B m cm, .int .i64 (k : Int)] (wr.drewN q) fun e w' => e = .returned (.int .i64 y) ∧ wr.drewN q = w') := fun q => by
            have := digit_any B m cm b k (k : Int) (wr.drewN q) ((hb.below HB'.out).drewN q) rfl
            rwa [HY.out] at this
          have W1 := Lib.hid w1
          have W2 := Lib.hid w2
          have W3 := Lib.hid w3
          have W4 := Lib.hid w4
          have G5 := Lib.hid g5
          rcases Nat.lt_or_ge k m with h | h
          case' inl => have t1 : (k : Int) < (m : Int) := by omega
          case' inr =>
            have t1 : decide ((k : Int) < (m : Int)) = false := decide_eq_false (by omega)
            have t2 : 0 < c := by omega
          all_goals
            clear w1 w2 w3 w4 g5
            go_upto_region 9 with fail
            have w1 := W1.out
            have w2 := W2.out
            have w3 := W3.out
            have w4 := W4.out
            have g5 := G5.out
            go_quiet ((go_at_call 128; exact quiet_left (DG.out _)))
            clear w1 w2 w3 w4 g5
            go_wp2_with fail
            go_roundw
            case rel => exact ⟨k + 1, _, _, by omega, by go_num, rfl, (by have := HST.out; rw [← HPE.out] at this; exact this), (by have := HSTO.out; rw [← HPE.out] at this; exact this), (below_drewN HB'.out nq).setCell (by rw [HG.out]; exact Nat.le_refl _) _⟩
            case measure => simp [intOf] <;> omega
        · have hk2 : m ≤ k := by omega
          obtain rfl : c = 0 := by omega
          have DN := Lib.hid (TimAt.done HM.out (show TimAt O b (a.getD i 0) i k O' 0 by rw [HX.out]; exact HT.out) (by rw [lb.out]; exact hk2))
          have t1 : decide ((k : Int) < (m : Int)) = false := decide_eq_false (by omega)
          clear hgo c0 c1
          go_wp2_with fail
          go_roundw
          case rel => exact ⟨i + 1, O', by omega, by go_num, DN.out, HO'.out, HB'.out⟩
          case measure => simp [intOf] <;> omega
    · obtain rfl : i = n := by omega
      have FIN : Hid (val O = val a * val b) := by
        have := HM.out.eq
        rwa [List.take_of_length_le (by rw [la.out]; exact Nat.le_refl _)] at this
      have hol := HOL.out
      have HSL := Lib.hid (HO.out.all HOL.out (Nat.le_refl _) (by omega))
      clear hol
      go_wp2_with fail
      (refine (rtrim_any (some ⟨g, 0, none⟩) (i + m) (i + m) O _ HSL.out (by omega) HM.out.ok).mono ?_; rintro e w3 ⟨R, k, r, rfl, hR, hb⟩)
      rw [FIN.out] at hR
      have HR := Lib.hid hR
      have HBB := Lib.hid (below_up HB.out hb)
      clear hR hb
      go_wp2_with fail
      go_ret
      exact ⟨R, k, r, rfl, HR.out, HBB.out⟩
end Go.Proofs.YtfenmogbellhdaaDoor

namespace Go.Proofs.YtfenmogbellhdaaDoor
open Go.RowKit

theorem nOf_nonneg' {z : Int} (h : 0 ≤ z) : nOf z = false := decide_eq_false (by omega)

end Go.Proofs.YtfenmogbellhdaaDoor
