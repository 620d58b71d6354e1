/-
  Contracts of the program's estimate, divide and compare.
-/
import Derived.Test.YtfenmogbellhdaaDoorBigB
import Derived.BigQuiet
import Derived.Deep.QuietTactic
namespace Go.Proofs.YtfenmogbellhdaaDoor
open Go.RowKit

theorem quiet_left {P : Program} {f : FuncId} {args : Array Value} {w : World} {n : Nat} {v : Value}
    (h : Calls P f args (w.drewN n) fun e w' => e = .returned v ∧ w.drewN n = w') : Calls P f args (w.drewN n) fun e w'' => e = .returned v ∧ ∃ m, w'' = w.drewN m :=
  h.mono fun _ _ ⟨he, hm⟩ => ⟨he, n, hm.symm⟩
theorem quiet_more {P : Program} {f : FuncId} {args : Array Value} {w : World} {a n : Nat} {v : Value}
    (h : Calls P f args (w.drewN (a + n)) fun e w' => e = .returned v ∧ w.drewN (a + n) = w') :
    Calls P f args (w.drewN (a + n)) fun e w'' => e = .returned v ∧ ∃ m, w'' = w.drewN (a + m) :=
  h.mono fun _ _ ⟨he, hm⟩ => ⟨he, n, hm.symm⟩
theorem Sl.from_ {w : World} {g o n c s : Nat} {xs : List Int} (h : Sl w (some ⟨g, o, none⟩) n c xs) (hs : s < n) : Sl w (some ⟨g, o + s, none⟩) (n - s) (c - s) (xs.drop s) :=
  ⟨by rw [List.length_drop, h.len], by have := h.cap; omega, by have := h.top; omega, fun hn => by
    obtain ⟨g', o', e, hg, hc⟩ := h.cells (by omega)
    cases e
    refine ⟨g, o + s, rfl, hg, fun k hk => ?_⟩
    rw [Nat.add_assoc, hc (s + k) (by omega)]
    simp [List.getD, List.getElem?_drop]⟩
theorem ret_one {v v' : Int} {w w' : World} {n : Nat} (h : v = v') (hw : w' = w.drewN n) : Ending.returned (.int .i64 v) = .returned (.int .i64 v') ∧ ∃ q, w' = w.drewN q := ⟨by rw [h], n, hw⟩

theorem estimate_big (g o g' o' m c d : Nat) (a b : List Int) (w : World) (hm : 3 < m) (ha : Sl w (some ⟨g, o, none⟩) (m + 1) c a) (hb : Sl w (some ⟨g', o', none⟩) m d b) (da : dOk a) (db : dOk b) (hp : 0 < val (b.drop (m - 3))) :
    Calls Tryd.prog 122 #[.slice (some ⟨g, o, none⟩) (m + 1) c, .slice (some ⟨g', o', none⟩) m d] w fun e w' => e = .returned (.int .i64 (val (a.drop (m - 3)) / val (b.drop (m - 3)))) ∧ ∃ q, w' = w.drewN q := by
  have SA := Lib.hid (ha.from_ (show m - 3 < m + 1 by omega))
  have SB := Lib.hid (hb.from_ (show m - 3 < m by omega))
  obtain ⟨b1, b2⟩ := val_bd4 (dOk_drop da (m - 3)) (by rw [List.length_drop, ha.len]; omega)
  obtain ⟨b3, b4⟩ := val_bd4 (dOk_drop db (m - 3)) (by rw [List.length_drop, hb.len]; omega)
  have hc := ha.cap
  have hd := hb.cap
  have ht := ha.top
  have ht2 := hb.top
  have DA := Lib.hid (dOk_drop da (m - 3))
  have DB := Lib.hid (dOk_drop db (m - 3))
  clear ha hb da db
  have p1 : 1 ≤ val (b.drop (m - 3)) := by omega
  have q0 : (0 : Int) ≤ (m : Int) - 3 := by omega
  have q1 : ((m : Int) - 3) ≤ (c : Int) := by omega
  have q2 : ((m : Int) - 3) ≤ (d : Int) := by omega
  have q3 : ((m : Int) - 3) ≤ ((m : Int) + 1) := by omega
  have q4 : ((m : Int) - 3) ≤ (m : Int) := by omega
  generalize hx : a.drop (m - 3) = x at *
  generalize hy : b.drop (m - 3) = y at *
  clear hx hy
  go_enter Tryd.func122, Tryd.ntmps122
  go_wp2_with fail
  go_quiet (first | (go_at_call 79; exact quiet_left (small_any _ _ _ x _ (SA.out.drewN _) DA.out (by omega))) | (go_at_call 79; exact quiet_left (small_any _ _ _ y _ (SB.out.drewN _) DB.out (by omega))))
  go_wp2_with fail
  go_ret
  exact ret_one rfl rfl

theorem estimate_small (g o g' o' m c d : Nat) (a b : List Int) (w : World) (hm : m ≤ 3) (h1 : 1 ≤ m) (ha : Sl w (some ⟨g, o, none⟩) (m + 1) c a) (hb : Sl w (some ⟨g', o', none⟩) m d b) (da : dOk a) (db : dOk b) (hp : 0 < val b) :
    Calls Tryd.prog 122 #[.slice (some ⟨g, o, none⟩) (m + 1) c, .slice (some ⟨g', o', none⟩) m d] w fun e w' => e = .returned (.int .i64 (val a / val b)) ∧ ∃ q, w' = w.drewN q := by
  have SA := Lib.hid ha
  have SB := Lib.hid hb
  obtain ⟨b1, b2⟩ := val_bd4 da (by rw [ha.len]; omega)
  obtain ⟨b3, b4⟩ := val_bd4 db (by rw [hb.len]; omega)
  have hc := ha.cap
  have hd := hb.cap
  have ht := ha.top
  have ht2 := hb.top
  have DA := Lib.hid da
  have DB := Lib.hid db
  clear ha hb da db
  have p1 : 1 ≤ val b := by omega
  have q1 : (1 : Int) ≤ (c : Int) := by omega
  have q2 : (1 : Int) ≤ (d : Int) := by omega
  rcases Nat.lt_or_ge m 3 with h3 | h3
  · have h4 : (m : Int) - 3 ≤ 0 := by omega
    have h5 : ¬ (0 : Int) ≤ (m : Int) - 3 := by omega
    go_enter Tryd.func122, Tryd.ntmps122
    go_wp2_with fail
    all_goals
      go_quiet (first | (go_at_call 79; exact quiet_left (small_any _ _ _ a _ (SA.out.drewN _) DA.out (by omega))) | (go_at_call 79; exact quiet_left (small_any _ _ _ b _ (SB.out.drewN _) DB.out (by omega))))
      go_wp2_with fail
      go_ret
      exact ret_one rfl rfl
  · obtain rfl : m = 3 := by omega
    go_enter Tryd.func122, Tryd.ntmps122
    go_wp2_with fail
    all_goals
      go_quiet (first | (go_at_call 79; exact quiet_left (small_any _ _ _ a _ (SA.out.drewN _) DA.out (by omega))) | (go_at_call 79; exact quiet_left (small_any _ _ _ b _ (SB.out.drewN _) DB.out (by omega))))
      go_wp2_with fail
      go_ret
      exact ret_one rfl rfl

/-- The next digit of a quotient, or one more. -/
theorem estimate_any (g o g' o' m k c d : Nat) (a b : List Int) (w : World) (hk : k = m + 1) (ha : Sl w (some ⟨g, o, none⟩) k c a) (hb : Sl w (some ⟨g', o', none⟩) m d b) (da : dOk a) (db : dOk b) (tb : topOk b) (h1 : 1 ≤ m) (hlt : val a < 10000 * val b) :
    Calls Tryd.prog 122 #[.slice (some ⟨g, o, none⟩) k c, .slice (some ⟨g', o', none⟩) m d] w fun e w' => ∃ q, e = .returned (.int .i64 q) ∧ 0 ≤ q ∧ q ≤ 10000 ∧ -val b ≤ val a - q * val b ∧ val a - q * val b < val b ∧ Below w.heap.size w w' := by
  subst hk
  have hn : b ≠ [] := fun e => by have := hb.len; rw [e] at this; simp at this; omega
  obtain ⟨e1, e2, e3, e4, e5⟩ := est_of da db tb hn (by rw [ha.len, hb.len]) hlt
  rw [hb.len] at e1 e2 e3 e4 e5
  by_cases hm : 3 < m
  · refine (estimate_big g o g' o' m c d a b w hm ha hb da db e3).mono ?_
    rintro e w' ⟨rfl, q, rfl⟩
    exact ⟨_, rfl, e1, e2, e4, e5, below_drewN (Below.refl _ _) q⟩
  · rw [show m - 3 = 0 by omega] at e1 e2 e3 e4 e5
    rw [List.drop_zero, List.drop_zero] at e1 e2 e4 e5
    rw [List.drop_zero] at e3
    refine (estimate_small g o g' o' m c d a b w (by omega) h1 ha hb da db e3).mono ?_
    rintro e w' ⟨rfl, q, rfl⟩
    exact ⟨_, rfl, e1, e2, e4, e5, below_drewN (Below.refl _ _) q⟩

theorem div_case {W M1 B : Int} {q c1 : Int} {m : Nat} (e1 : M1 + pw (m + 1) * c1 = W + -q * B) (m0 : 0 ≤ M1) (m1 : M1 < pw (m + 1)) (b1 : B < pw m) (e4 : -B ≤ W - q * B) (e5 : W - q * B < B) (W0 : 0 ≤ W) (hlt : W < 10000 * B) (q0 : 0 ≤ q) (q1 : q ≤ 10000) :
    (c1 < 0 → 0 ≤ q - 1 ∧ q - 1 < 10000 ∧ ∀ M2 c2 : Int, M2 + pw (m + 1) * c2 = M1 + 1 * B → 0 ≤ M2 → M2 < pw (m + 1) → M2 = W - (q - 1) * B ∧ M2 < B) ∧ (¬ c1 < 0 → q < 10000 ∧ M1 = W - q * B ∧ M1 < B) := by
  have hp := pw_succ m
  have hpp := pw_pos m
  rw [Int.neg_mul] at e1
  have hc := carry_neg (c := c1) (m := pw (m + 1)) (v := W - q * B) (by omega) m0 m1
  refine ⟨fun h => ?_, fun h => ?_⟩
  · have h' := hc.1 h
    have hq : 0 ≤ q - 1 := by
      refine Int.not_lt.1 fun hq => ?_
      obtain rfl : q = 0 := by omega
      omega
    refine ⟨hq, by omega, fun M2 c2 e2 a0 a1 => ?_⟩
    have e3 : (q - 1) * B = q * B - B := by rw [Int.sub_mul, Int.one_mul]
    have := win_eq (x := M2) (c := c1 + c2) (v := W - (q - 1) * B) (m := pw (m + 1)) (by rw [Int.mul_add]; omega) a0 a1 (by omega) (by omega)
    omega
  · have h' : ¬ W - q * B < 0 := fun h'' => h (hc.2 h'')
    have := win_eq (x := M1) (c := c1) (v := W - q * B) (m := pw (m + 1)) (by omega) m0 m1 (by omega) (by omega)
    refine ⟨?_, this.1, by omega⟩
    refine Int.not_le.1 fun hq => ?_
    obtain rfl : q = 10000 := by omega
    omega

set_option maxHeartbeats 1000000 in
/-- The digits of a quotient and of the rest; in new memory. -/
theorem divide_any (A B : Option Addr) (n c m d : Nat) (a b : List Int) (w : World) (ha : Sl w A n c a) (hb : Sl w B m d b) (da : dOk a) (db : dOk b) (tb : topOk b) (h1 : 1 ≤ m) (n1 : n ≤ 1000) (m1 : m ≤ 1000) :
    Calls Tryd.prog 68 #[.slice A n c, .slice B m d] w fun e w' => ∃ Q k r S l s, e = .returned (.tuple #[.slice Q k r, .slice S l s]) ∧ Sl w' Q k r (digs (val a / val b).toNat) ∧ Sl w' S l s (digs (val a % val b).toNat) ∧ Below w.heap.size w w' := by
  have la := Lib.hid ha.len
  have lb := Lib.hid hb.len
  have hc := ha.cap
  have hd := hb.cap
  have ht := ha.top
  have ht2 := hb.top
  have hn : b ≠ [] := fun e => by have := hb.len; rw [e] at this; simp at this; omega
  have ST : Hid (DivAt a b (n + 1 - m) (List.replicate (n + 1 - m) 0) (a ++ [0])) := by rw [← la.out, ← lb.out]; exact DivAt.start da db tb hn
  obtain ⟨g', o', rfl, hg', hcb⟩ := hb.cells (by omega)
  clear hcb
  obtain ⟨N, hN1⟩ : ∃ N : Nat, N = n + 1 - m := ⟨n + 1 - m, rfl⟩
  rw [← hN1] at ST
  have hN2 : N ≤ n + 1 := by omega
  have hN3 : N ≤ 1001 := by omega
  have hmk : ∀ (z : Int), z = (N : Int) → ∀ W : World, (Instr.makeSlice 33 (.int .i64 z) (.int .i64 z)).run Tryd.prog W = .ok (.slice (some ⟨W.heap.size, 0, none⟩) N N) (W.alloc (.cells (ints (List.replicate N 0)).toArray 3)) := fun z hz W => by
    subst hz; exact run_mk N (by omega) W
  have HM := Lib.hid hmk
  have HN1 := Lib.hid hN1
  clear hN1 hmk
  go_enter Tryd.func68, Tryd.ntmps68
  go_wp2_with fail
  (refine (copied_any A n c (n + 1) a _ _ ha (by omega) (by omega) (by omega)).mono ?_; rintro e w1 ⟨g, rfl, hg, how, hb1⟩)
  rw [Nat.add_sub_cancel_left, List.replicate_one] at how
  have HB1 := Lib.hid hb1
  have HOW := Lib.hid how
  have HG := Lib.hid hg
  clear hb1 how hg
  rcases (by omega : m ≤ n ∨ n + 1 < m ∨ (n + 1 ≤ m ∧ m ≤ n + 1)) with h | h | ⟨h, h'⟩
  case' inl =>
    have hmk := HM.out ((n : Int) - (m : Int) + 1) (by have := HN1.out; omega)
    have h2 : (0 : Int) ≤ (n : Int) - (m : Int) + 1 := by omega
    have h3 : ¬ (n : Int) - (m : Int) + 1 ≤ 0 := by omega
    go_wp2_with fail
  case' inr.inl =>
    have hmk := HM.out 0 (by have := HN1.out; omega)
    have h2 : (n : Int) - (m : Int) + 1 ≤ 0 := by omega
    have h3 : ¬ (0 : Int) ≤ (n : Int) - (m : Int) + 1 := by omega
    go_wp2_with fail
  case' inr.inr =>
    have hmk := HM.out 0 (by have := HN1.out; omega)
    have hmk1 := HM.out ((n : Int) - (m : Int) + 1) (by have := HN1.out; omega)
    go_wp2_with fail
  all_goals
    obtain ⟨gq, hgq⟩ : ∃ gq, w1.heap.size = gq := ⟨_, rfl⟩
    have hb2 : Below w.heap.size w (w1.alloc (.cells (ints (List.replicate N 0)).toArray 3)) := HB1.out.alloc HB1.out.size _
    have HB2 := Lib.hid hb2
    have HQ2 := Lib.hid (Own.new w1 (List.replicate N 0))
    have HR2 := Lib.hid (HOW.out.below ((Below.refl _ _).alloc (Nat.le_refl _) (.cells (ints (List.replicate N 0)).toArray 3)))
    have hgl := HOW.out.lt
    rw [hgq] at HQ2 hgl
    have hsz := HB1.out.size
    rw [hgq] at hsz
    have HSZ := Lib.hid (show w.heap.size ≤ gq from hsz)
    have HGQ := Lib.hid (show g ≠ gq by omega)
    rw [hgq]
    generalize w1.alloc (.cells (ints (List.replicate N 0)).toArray 3) = w2 at *
    clear hgq hb2 hgl hsz HB1 HOW
    try clear hmk
    try clear hmk1
    go_loopw [6] (fun i wr => ∃ (j : Nat) (Q R : List Int), j ≤ N ∧ i = .int .i64 ((j : Int) - 1) ∧ DivAt a b j Q R ∧ Own wr g R ∧ Own wr gq Q ∧ Below w.heap.size w wr) (fun i _ => (intOf i + 1).toNat)
    case atStart => exact ⟨N, _, _, Nat.le_refl _, rfl, ST.out, HR2.out, HQ2.out, HB2.out⟩
    case round =>
      obtain ⟨j, Q, R, hj, rfl, hD, hR, hQ, hB⟩ := hrel
      have HD := Lib.hid hD
      have HR := Lib.hid hR
      have HQ := Lib.hid hQ
      have HB := Lib.hid hB
      have HRL : Hid (R.length = n + 1) := by rw [← la.out]; exact hD.lr
      have HQL : Hid (Q.length = N) := by rw [HN1.out, ← la.out, ← lb.out]; exact hD.lq
      clear hD hR hQ hB
      by_cases h0 : 0 < j
      · first | (exfalso; have := HN1.out; omega) | (
            obtain ⟨i, rfl⟩ : ∃ i, j = i + 1 := ⟨j - 1, by omega⟩
            have hmn : m + i ≤ n := by have := HN1.out; omega
            have WN := Lib.hid (win_of (O := R) (i := i) (n := m + 1) (by rw [HRL.out]; omega))
            have WD := HD.out.win db
            rw [lb.out] at WD
            have WD' := Lib.hid WD
            clear WD
            go_wp2_with fail
            (refine (window_any g 0 (n + 1) (n + 1) i (m + 1) _ _ _ (by omega) (by omega) (by omega) (by omega) (by omega)).mono ?_; rintro e w3 ⟨rfl, rfl⟩)
            go_wp2_with fail
            (refine (estimate_any g i g' o' m (m + 1) (m + 1) d ((R.drop i).take (m + 1)) b _ rfl (HR.out.sl i (by rw [HRL.out]; omega) (Nat.le_refl _) (by omega)) (hb.below HB.out) WD'.out.2.1 db tb h1 WD'.out.2.2.1).mono ?_; rintro e w3 ⟨q, rfl, q0, q1, q2, q3, hb3⟩)
            have HR3 := Lib.hid (HR.out.below hb3)
            have HQ3 := Lib.hid (HQ.out.below hb3)
            have HB3 := Lib.hid (below_on HB.out hb3)
            have HE := Lib.hid (And.intro q2 q3)
            clear hb3 q2 q3
            go_wp2_with fail
            (refine (addTimes_any g i (m + 1) (m + 1) (some ⟨g', o', none⟩) m d (R.take i) ((R.drop i).take (m + 1)) (R.drop (i + (m + 1))) b (-q) _ WN.out.2.1 WN.out.2.2 (Nat.le_refl _) (by omega) (by rw [← WN.out.1]; exact HR3.out) WD'.out.2.1 (hb.below HB3.out) db (hb.far HG.out) (by omega) (by omega)).mono ?_; rintro e w4 ⟨c1, M1, rfl, hA, hO4, hbt⟩)
            have E1 := Lib.hid (addAt_end WN.out.2.2 (by rw [lb.out]; omega) hA)
            have HO4 := Lib.hid hO4
            have HQ4 := Lib.hid (HQ3.out.keep (hbt.block gq HQ3.out.lt (Ne.symm HGQ.out)))
            have HB4 := Lib.hid (HB3.out.trans (hbt.below HB3.out.size HG.out))
            clear hA hO4 hbt
            have DC := Lib.hid (div_case (m := m) E1.out.1 (val_bd E1.out.2.2).1 (by have := (val_bd E1.out.2.2).2; rwa [E1.out.2.1] at this) (by have := (val_bd db).2; rwa [lb.out] at this) HE.out.1 HE.out.2 (val_bd WD'.out.2.1).1 WD'.out.2.2.1 q0 q1)
            have hil : i < Q.length := by rw [HQL.out]; omega
            by_cases hc1 : c1 < 0
            · obtain ⟨d1, d2, d3⟩ := DC.out.1 hc1
              have D3 := Lib.hid d3
              clear d3
              go_wp2_with fail
              (refine (addTimes_any g i (m + 1) (m + 1) (some ⟨g', o', none⟩) m d (R.take i) M1 (R.drop (i + (m + 1))) b 1 _ WN.out.2.1 E1.out.2.1 (Nat.le_refl _) (by omega) HO4.out E1.out.2.2 (hb.below HB4.out) db (hb.far HG.out) (by omega) (by omega)).mono ?_; rintro e w5 ⟨c2, M2, rfl, hA, hO5, hbt⟩)
              have E2 := Lib.hid (addAt_end E1.out.2.1 (by rw [lb.out]; omega) hA)
              have HO5 := Lib.hid hO5
              have HQ5 := Lib.hid (HQ4.out.keep (hbt.block gq HQ4.out.lt (Ne.symm HGQ.out)))
              have HB5 := Lib.hid (HB4.out.trans (hbt.below HB4.out.size HG.out))
              clear hA hO5 hbt
              have V2 := Lib.hid (D3.out _ _ E2.out.1 (val_bd E2.out.2.2).1 (by have := (val_bd E2.out.2.2).2; rwa [E2.out.2.1] at this))
              have hcell := HQ5.out.cell hil
              have hfz := HQ5.out.frozen i
              have NX : Hid (DivAt a b i (Q.set i (q - 1)) (R.take i ++ M2 ++ R.drop (i + (m + 1)))) := by
                have := HD.out.step (W := M2) (q := q - 1) db d1 d2 E2.out.2.2 (by rw [lb.out]; exact E2.out.2.1) (by rw [lb.out]; exact V2.out.1) V2.out.2
                rwa [lb.out] at this
              go_wp2_with fail
              go_roundw
              case rel => exact ⟨i, _, _, by omega, by go_num, NX.out, HO5.out.keep (Below.heap_setCell _ _ _ _ HGQ.out), HQ5.out.set_ i _, HB5.out.setCell HSZ.out _⟩
              case measure => simp [intOf] <;> omega
            · obtain ⟨d1, d2, d3⟩ := DC.out.2 hc1
              have D2 := Lib.hid d2
              clear d2
              have hcell := HQ4.out.cell hil
              have hfz := HQ4.out.frozen i
              have NX : Hid (DivAt a b i (Q.set i q) (R.take i ++ M1 ++ R.drop (i + (m + 1)))) := by
                have := HD.out.step (W := M1) (q := q) db q0 d1 E1.out.2.2 (by rw [lb.out]; exact E1.out.2.1) (by rw [lb.out]; exact D2.out) d3
                rwa [lb.out] at this
              go_wp2_with fail
              go_roundw
              case rel => exact ⟨i, _, _, by omega, by go_num, NX.out, HO4.out.keep (Below.heap_setCell _ _ _ _ HGQ.out), HQ4.out.set_ i _, HB4.out.setCell HSZ.out _⟩
              case measure => simp [intOf] <;> omega)
      · obtain rfl : j = 0 := by omega
        have DV := Lib.hid HD.out.done
        go_wp2_with fail
        (refine (trimmed_any (some ⟨gq, 0, none⟩) N N Q _ (HQ.out.all HQL.out (Nat.le_refl _) (by omega)) HD.out.okq).mono ?_; rintro e w3 ⟨Q', k', r', rfl, hQ', _, rfl⟩)
        go_wp2_with fail
        (refine (trimmed_any (some ⟨g, 0, none⟩) (n + 1) (n + 1) R _ (HR.out.all HRL.out (Nat.le_refl _) (by omega)) HD.out.okr).mono ?_; rintro e w3 ⟨R', l', s', rfl, hR', _, rfl⟩)
        go_wp2_with fail
        go_ret2
        refine ⟨_, _, _, _, _, _, rfl, ?_, ?_, HB.out⟩
        · unfold trimL at hQ'; rwa [DV.out.1] at hQ'
        · unfold trimL at hR'; rwa [DV.out.2] at hR'
end Go.Proofs.YtfenmogbellhdaaDoor
