/-
  The reference's divide (layer 2).
-/
import Derived.Test.YtfenmogbellhdaaDoorBigRM
import Derived.Test.YtfenmogbellhdaaDoorBigL
namespace Go.Proofs.YtfenmogbellhdaaDoor
open Go.RowKit

set_option maxRecDepth 100000 in
set_option maxHeartbeats 1000000 in
/-- trim, of whatever ints: a copy in new memory. -/
theorem rtrim_far (A : Option Addr) (n c : Nat) (xs : List Int) (w : World) (hs : Sl w A n c xs) (hn : n ≤ 100000) :
    Calls Tryd.prog 125 #[.slice A n c] w fun e w' => ∃ B m d, e = .returned (.slice B m d) ∧ Sl w' B m d (xs.take m) ∧ val (xs.take m) = val xs ∧ m ≤ n ∧ (m = 0 ∨ xs.getD (m - 1) 0 ≠ 0) ∧ (∀ ad, B = some ad → w.heap.size ≤ ad.block) ∧ Below w.heap.size w w' := by
  have hl := Lib.hid hs.len
  have htop := hs.top
  have hcap := hs.cap
  obtain ⟨i0, hi, hz0, hz1, hz2⟩ := info_parts int_info
  go_enter Tryd.func125, Tryd.ntmps125
  go_wp2_with fail
  go_loop [3] (fun i => ∃ k : Nat, k ≤ n ∧ i = .int .i64 (k : Int) ∧ val (xs.take k) = val xs) (fun i => (intOf i).toNat)
  case atStart => exact ⟨n, Nat.le_refl _, rfl, by rw [List.take_of_length_le (by rw [hl.out]; exact Nat.le_refl _)]⟩
  case round =>
    obtain ⟨k, hk, rfl, hv⟩ := hrel
    have HV := Lib.hid hv
    clear hv
    by_cases h0 : 0 < k
    · obtain ⟨k', rfl⟩ : ∃ k', k = k' + 1 := ⟨k - 1, by omega⟩
      obtain ⟨g, o, x, rfl, hg, hc, hx⟩ := hs.at_ (show k' < n by omega)
      have b1 : (0 : Int) < ((k' + 1 : Nat) : Int) := by omega
      have b2 : (k' : Int) < (n : Int) := by omega
      cases hz : (x == 0) with
      | true =>
        have h0 := beq_iff_eq.1 hz
        have HX := Lib.hid (hx.out.trans h0)
        clear h0 hx
        go_wp2_with fail
        go_round
        case rel => exact ⟨k', by omega, by go_num, take_zero_step HX.out HV.out⟩
        case measure => simp [intOf]
      | false =>
        have b3 : ((k' + 1 : Nat) : Int) ≤ (c : Int) := by omega
        have HT := Lib.hid (show xs.getD (k' + 1 - 1) 0 ≠ 0 by rw [Nat.add_sub_cancel, hx.out]; simpa using hz)
        have HE := Lib.hid (own_empty w w.heap.size (Nat.le_refl _))
        have HSl := Lib.hid (hs.take_ hk)
        have HN : Hid (∀ (j : Nat) (u : Value), (ints (xs.take (k' + 1)))[j]? = some u → w.cell? ⟨g, o + j, none⟩ = some u) := by
          intro j u hj
          have hjl : j < (xs.take (k' + 1)).length := by
            have := (List.getElem?_eq_some_iff.1 hj).1
            rwa [ints_len] at this
          rw [ints_at hjl] at hj
          injection hj with hj
          subst hj
          obtain ⟨g', o', e, _, hcs⟩ := HSl.out.cells (by omega)
          cases e
          exact hcs j (by rw [← HSl.out.len]; exact hjl)
        have HLn : Hid ((ints (xs.take (k' + 1))).length = (k' + 1) * 1) := by show _ = _; rw [ints_len, HSl.out.len, Nat.mul_one]
        clear hx
        go_wp2_with (at_builtin; refine wpList_append_own_at _ rfl _ _ 33 rfl w.heap.size 3 i0 (.int .i64 0) 1 8 Tryd.underlying33 hi hz0 hz1 hz2 rfl (by decide) _ _ _ rfl HE.out ⟨g, o, none⟩ (k' + 1) _ (ints (xs.take (k' + 1))) rfl HLn.out ?c1 ?c2 ?c3 ?c4 ?c5 ?_)
        case c1 => exact HN.out
        case c2 => exact ints_one _
        case c3 => unfold maxLen; omega
        case c4 => omega
        intro v' w' hown' hg' hnn hat
        obtain ⟨B, d, rfl, hsl⟩ := sl_of_own' (l := xs.take (k' + 1)) (by simpa [ints] using hown')
        have HFR : Hid (∀ ad, B = some ad → w.heap.size ≤ ad.block) := fun ad had => own_row_ge hown' (k := ad.block) (by rw [had]; rfl)
        have HS2 := Lib.hid hsl
        have HG := Lib.hid (((Below.refl w.heap.size w).alloc (Nat.le_refl _) (.cells (ints []).toArray 3)).grown hg' (by rw [alloc_sz]; omega) (fun k hk => by cases hk; exact Nat.le_refl _))
        clear hown' hg' hnn hat hsl
        go_wp2_with fail
        go_ret
        exact ⟨_, _, _, rfl, HS2.out, HV.out, hk, .inr HT.out, HFR.out, HG.out⟩
    · obtain rfl : k = 0 := by omega
      have b3 : (0 : Int) ≤ (c : Int) := by omega
      have HE := Lib.hid (own_empty w w.heap.size (Nat.le_refl _))
      have HG := Lib.hid ((Below.refl w.heap.size w).alloc (Nat.le_refl _) (.cells (ints []).toArray 3))
      have HSE : Hid (Sl (w.alloc (.cells (ints []).toArray 3)) (some ⟨w.heap.size, 0, none⟩) 0 0 []) := Sl.empty _ _ (by omega)
      cases A with
      | none =>
        go_wp2_with (at_builtin; refine wpList_append_nil _ rfl _ _ 33 rfl w.heap.size 3 i0 1 Tryd.underlying33 hi _ 0 _ rfl HE.out c rfl ?_)
        go_wp2_with fail
        go_ret
        exact ⟨_, _, _, rfl, by rw [List.take_zero]; exact HSE.out, HV.out, by omega, .inl rfl, fun ad had => by cases had; exact Nat.le_refl _, HG.out⟩
      | some ad =>
        go_wp2_with (at_builtin; refine wpList_append_own_at _ rfl _ _ 33 rfl w.heap.size 3 i0 (.int .i64 0) 1 8 Tryd.underlying33 hi hz0 hz1 hz2 rfl (by decide) _ _ _ rfl HE.out ad 0 _ [] rfl rfl ?c1 ?c2 ?c3 ?c4 ?c5 ?_)
        go_goals
        intro v' w' hown' hg' hnn hat
        obtain ⟨B, d, rfl, hsl⟩ := sl_of_own' (l := []) (by simpa [ints] using hown')
        have HFR : Hid (∀ ad, B = some ad → w.heap.size ≤ ad.block) := fun ad had => own_row_ge hown' (k := ad.block) (by rw [had]; rfl)
        have HS2 := Lib.hid hsl
        have HG2 := Lib.hid (HG.out.grown hg' (by rw [alloc_sz]; omega) (fun k hk => by cases hk; exact Nat.le_refl _))
        clear hown' hg' hnn hat hsl
        go_wp2_with fail
        go_ret
        exact ⟨_, _, _, rfl, by rw [List.take_zero]; exact HS2.out, HV.out, by omega, .inl rfl, HFR.out, HG2.out⟩

theorem rtrim_fr (A : Option Addr) (n c : Nat) (xs : List Int) (w : World) (hs : Sl w A n c xs) (hn : n ≤ 100000) (hd : dOk xs) :
    Calls Tryd.prog 125 #[.slice A n c] w fun e w' => ∃ B m d, e = .returned (.slice B m d) ∧ Sl w' B m d (digs (val xs).toNat) ∧ (∀ ad, B = some ad → w.heap.size ≤ ad.block) ∧ Below w.heap.size w w' := by
  refine (rtrim_far A n c xs w hs hn).mono ?_
  rintro e w' ⟨B, m, d, he, h1, h2, h3, h4, h6, h5⟩
  refine ⟨B, m, d, he, ?_, h6, h5⟩
  have hl := hs.len
  have : xs.take m = digs (val xs).toNat := by
    rw [← h2]
    refine (digs_val (dOk_take hd m) ?_).symm
    rcases Nat.eq_zero_or_pos m with h0 | h0
    · subst h0; rw [List.take_zero]; simp [topOk]
    · rcases h4 with h4 | h4
      · omega
      · obtain ⟨m', rfl⟩ : ∃ m', m = m' + 1 := ⟨m - 1, by omega⟩
        rw [Nat.add_sub_cancel] at h4
        rw [take_succ_at xs (by omega)]
        refine topOk_snoc ?_
        simpa [List.getD, show m' < xs.length by omega] using h4
  rw [← this]; exact h1

theorem own_new2 {w : World} {l : List Int} (base : Nat) (hb : base ≤ w.heap.size) (hl : l.length ≤ 100000) : (w.alloc (.cells (ints l).toArray 3)).ownsRow base 3 1 (.slice (some ⟨w.heap.size, 0, none⟩) l.length l.length) l.length (ints l) :=
  ⟨by rw [ints_len]; omega, .inr ⟨w.heap.size, l.length, (ints l).toArray, rfl, hb, Own.new w l, Nat.le_refl _, by unfold maxLen; omega, by simp [ints], by rw [Nat.mul_one]; exact List.take_of_length_le (by rw [ints_len]; exact Nat.le_refl _)⟩⟩
/-- What over has found out, from place j on: the quotient's digits Q, and the rest. -/
structure QuoAt (a b : List Int) (j : Nat) (Q : List Int) (r : Int) : Prop where
  len : Q.length = a.length
  ok : dOk Q
  low : ∀ i, i < j → Q.getD i 0 = 0
  eq : val (a.drop j) = val (Q.drop j) * val b + r
  r0 : 0 ≤ r
  r1 : r < val b
theorem QuoAt.start {a b : List Int} (h : 0 < val b) : QuoAt a b a.length (List.replicate a.length 0) 0 :=
  ⟨by rw [List.length_replicate], dOk_rep _, fun i hi => by simp [List.getD, hi], by rw [List.drop_of_length_le (Nat.le_refl _), List.drop_of_length_le (by rw [List.length_replicate]; exact Nat.le_refl _)]; simp [val], by omega, h⟩
theorem QuoAt.step {a b Q : List Int} {i : Nat} {r q : Int} (h : QuoAt a b (i + 1) Q r) (hi : i < a.length) (q0 : 0 ≤ q) (q1 : q < 10000) (h1 : q * val b ≤ a.getD i 0 + 10000 * r) (h2 : a.getD i 0 + 10000 * r < (q + 1) * val b) :
    QuoAt a b i (Q.set i q) (a.getD i 0 + 10000 * r - q * val b) := by
  have e1 := small_step (xs := a) (k := i) hi rfl
  have hl : i < (Q.set i q).length := by rw [List.length_set, h.len]; exact hi
  have e2 := small_step (xs := Q.set i q) (k := i) hl rfl
  rw [drop_set_succ] at e2
  have e3 : (Q.set i q).getD i 0 = q := by simp [List.getD, show i < Q.length by rw [h.len]; exact hi]
  rw [e3] at e2
  have e4 := h.eq
  rw [Int.add_mul] at h2
  refine ⟨by rw [List.length_set, h.len], dOk_set h.ok i q0 q1, fun k hk => ?_, ?_, by omega, by omega⟩
  · have := h.low k (by omega)
    simp only [List.getD] at this ⊢
    rw [List.getElem?_set_ne (by omega)]; exact this
  · rw [← e1, ← e2, e4, Int.add_mul, Int.add_mul, Int.mul_assoc, Int.mul_comm (val b) 10000, ← Int.mul_assoc]
    omega
theorem QuoAt.done {a b Q : List Int} {r : Int} (h : QuoAt a b 0 Q r) : val Q = val a / val b ∧ r = val a % val b := by
  have := h.eq
  rw [List.drop_zero, List.drop_zero] at this
  exact div_done this h.r0 h.r1
theorem rest_short2 {r B : Int} {m : Nat} (h0 : 0 ≤ r) (h : r < B) (hB : B < pw m) : (digs r.toNat).length ≤ m := digs_len_le (by omega)
theorem half_mid2 {lo hi : Int} (h : lo < hi) : lo < (lo + hi + 1) / 2 ∧ (lo + hi + 1) / 2 ≤ hi := by omega
set_option maxRecDepth 100000 in
set_option maxHeartbeats 4000000 in
theorem rdivide_any (A B : Option Addr) (n cn m cm : Nat) (a b : List Int) (w : World) (ha : Sl w A n cn a) (hb : Sl w B m cm b) (da : dOk a) (db : dOk b) (hb0 : 0 < val b) (n1 : n ≤ 900) (m1 : m ≤ 900) :
    Calls Tryd.prog 73 #[.slice A n cn, .slice B m cm] w fun e w' => ∃ R k r S l s, e = .returned (.tuple #[.slice R k r, .slice S l s]) ∧ Sl w' R k r (digs (val a / val b).toNat) ∧ Sl w' S l s (digs (val a % val b).toNat) ∧ Below w.heap.size w w' := by
  obtain ⟨i0, hi, hz0, hz1, hz2⟩ := info_parts int_info
  have la := Lib.hid ha.len
  have lb := Lib.hid hb.len
  have ht := ha.top
  have hq := ha.cap
  have hbm := (val_bd db).2
  rw [hb.len] at hbm
  have HBM := Lib.hid hbm
  have HB0 := Lib.hid hb0
  have ST : Hid (QuoAt a b n (List.replicate n 0) 0) := by
    have := QuoAt.start (a := a) hb0
    rw [ha.len] at this; exact this
  clear hbm
  have hmk := run_mk n (by omega)
  have HQ0 := Lib.hid (Own.new w (List.replicate n (0 : Int)))
  have HB1 := Lib.hid ((Below.refl w.heap.size w).alloc (Nat.le_refl _) (.cells (ints (List.replicate n 0)).toArray 3))
  go_enter Tryd.func73, Tryd.ntmps73
  go_wp2_with fail
  clear hmk
  obtain ⟨gq, hgq⟩ : ∃ gq, w.heap.size = gq := ⟨_, rfl⟩
  rw [hgq] at HQ0
  have HGQ := Lib.hid hgq
  rw [hgq]
  generalize w.alloc (.cells (ints (List.replicate n 0)).toArray 3) = w1 at *
  clear hgq
  go_loopw [7, 8] (fun rv iv wr => ∃ (j : Nat) (Q : List Int) (r : Int) (R : Option Addr) (k c : Nat), j ≤ n ∧ iv = .int .i64 ((j : Int) - 1) ∧ rv = .slice R k c ∧ QuoAt a b j Q r ∧ Own wr gq Q ∧ Sl wr R k c (digs r.toNat) ∧ Below w.heap.size w wr) (fun _ iv _ => (intOf iv + 1).toNat)
  case atStart => exact ⟨n, _, 0, none, 0, 0, Nat.le_refl _, rfl, rfl, ST.out, HQ0.out, by rw [show digs (0 : Int).toNat = [] from digs_zero]; exact Sl.nil _, HB1.out⟩
  case round =>
    obtain ⟨j, Q, r, R, k, c, hj, rfl, rfl, ho, hq1, hr, hbw⟩ := hrel
    have HO := Lib.hid ho
    have HQ := Lib.hid hq1
    have HR := Lib.hid hr
    have HB := Lib.hid hbw
    have hk : k ≤ m := by have := rest_short2 ho.r0 ho.r1 HBM.out; rw [hr.len] at this; exact this
    have ck := hr.cap
    have ct := hr.top
    clear ho hq1 hr hbw HQ0 HB1 ST
    by_cases h0 : 0 < j
    · obtain ⟨i, rfl⟩ : ∃ i, j = i + 1 := ⟨j - 1, by omega⟩
      obtain ⟨g, o, x, rfl, hg, hx, hxe⟩ := (ha.below HB.out).at_ (show i < n by omega)
      rw [show ((i + 1 : Nat) : Int) - 1 = (i : Int) from by omega]
      have p1 : (i : Int) < (n : Int) := by omega
      have p3 : (0 : Int) ≤ (i : Int) := by omega
      have dx := dOk_getD da i
      rw [hxe.out] at dx
      obtain ⟨x0, x1⟩ := dx
      have HE := Lib.hid (own_new2 (w := wr) (l := [x]) wr.heap.size (Nat.le_refl _) (by simp))
      have HB2 := Lib.hid (HB.out.alloc HB.out.size (.cells (ints [x]).toArray 3))
      have HA2 := Lib.hid ((Below.refl wr.heap.size wr).alloc (Nat.le_refl _) (.cells (ints [x]).toArray 3))
      have HVX : Hid (val (x :: digs r.toNat) = a.getD i 0 + 10000 * r) := by
        show val (x :: digs r.toNat) = a.getD i 0 + 10000 * r
        rw [hxe.out]
        have := HO.out.r0
        simp only [val, val_digs]
        omega
      have HDX : Hid (dOk (x :: digs r.toNat)) := dOk_cons.2 ⟨⟨x0, x1⟩, digs_ok _⟩
      have HL1 := Lib.hid (HQ.out.lt)
      go_upto_region 6 with fail
      go_cut [7] (fun rv wx => ∃ (R : Option Addr) (k c : Nat), rv = .slice R k c ∧ Own wx gq Q ∧ Sl wx R k c (digs (a.getD i 0 + 10000 * r).toNat) ∧ Far R k gq ∧ Below w.heap.size w wx)
      case first =>
        have fin : ∀ (w2 w3 : World) (T : Option Addr) (q t : Nat), Below wr.heap.size wr w2 → Below w2.heap.size w2 w3 → Sl w3 T q t (digs (val (x :: digs r.toNat)).toNat) → (∀ ad, T = some ad → w2.heap.size ≤ ad.block) →
            ∃ (R : Option Addr) (k c : Nat), Value.slice T q t = .slice R k c ∧ Own w3 gq Q ∧ Sl w3 R k c (digs (a.getD i 0 + 10000 * r).toNat) ∧ Far R k gq ∧ Below w.heap.size w w3 := by
          intro w2 w3 T q t hb2 hb3 hs2 hge
          refine ⟨T, q, t, rfl, (HQ.out.below hb2).below hb3, by rw [← HVX.out]; exact hs2, fun hq' ad had => ?_, below_on (HB.out.trans (hb2.mono HB.out.size)) hb3⟩
          have hlt := HL1.out
          have := hge ad had
          have := hb2.size
          omega
        have FIN := Lib.hid fin
        clear fin
        cases R with
        | none =>
          have hk0 : k = 0 := by
            rcases Nat.eq_zero_or_pos k with h | h
            · exact h
            · obtain ⟨_, _, e, _⟩ := HR.out.cells h; cases e
          have HD0 : Hid (digs r.toNat = []) := List.eq_nil_of_length_eq_zero (by rw [HR.out.len]; exact hk0)
          have HSX := Lib.hid (sl_of_own' HE.out)
          rw [HD0.out] at FIN HDX
          subst hk0
          go_wp2_with (at_builtin; refine wpList_append_nil _ rfl _ _ 33 rfl wr.heap.size 3 i0 1 Tryd.underlying33 hi _ 1 _ rfl HE.out c rfl ?_)
          obtain ⟨A3, c3, e3, hs3⟩ := HSX.out
          cases e3
          go_wp2_with fail
          (refine (rtrim_fr _ _ _ [x] _ hs3 (by simp) HDX.out).mono ?_; rintro e w3 ⟨T, q, t, rfl, hT, hal, hb3⟩)
          go_wp2_with fail
          go_meet
          exact FIN.out _ _ _ _ _ HA2.out hb3 hT hal
        | some ad =>
          have HLn : Hid ((ints (digs r.toNat)).length = k * 1) := by show _ = _; rw [ints_len, HR.out.len, Nat.mul_one]
          have HN : Hid (∀ (j : Nat) (u : Value), (ints (digs r.toNat))[j]? = some u → (wr.alloc (.cells (ints [x]).toArray 3)).cell? (ad.add j) = some u) := by
            intro j u hj
            have hjl : j < (digs r.toNat).length := by
              have := (List.getElem?_eq_some_iff.1 hj).1
              rwa [ints_len] at this
            rw [ints_at hjl] at hj
            injection hj with hj
            subst hj
            have hs4 := HR.out.alloc (.cells (ints [x]).toArray 3)
            obtain ⟨g4, o4, e4, _, hc4⟩ := hs4.cells (by rw [← HR.out.len]; omega)
            cases e4
            rw [addr_add]
            exact hc4 j (by rw [← HR.out.len]; exact hjl)
          go_wp2_with (at_builtin; refine wpList_append_own_at _ rfl _ _ 33 rfl wr.heap.size 3 i0 (.int .i64 0) 1 8 Tryd.underlying33 hi hz0 hz1 hz2 rfl (by decide) _ _ _ rfl HE.out ad k _ (ints (digs r.toNat)) rfl HLn.out ?k1 ?k2 ?k3 ?k4 ?k5 ?_)
          try (case k1 => exact HN.out)
          try (case k2 => exact ints_one _)
          case k3 => show 1 + k ≤ maxLen; unfold maxLen; omega
          try (case k4 => first | omega | (show 1 + k ≤ _; omega) | (simp; omega))
          try (case k5 => first | (rw [alloc_sz]; omega) | omega)
          intro v' w' hown' hg' hnn hat
          have hbl : Below wr.heap.size wr w' := HA2.out.grown hg' (by rw [alloc_sz]; omega) (fun k hk => by cases hk; exact Nat.le_refl _)
          have HBL := Lib.hid hbl
          have hown2 : w'.ownsRow wr.heap.size 3 1 v' (1 + k) (ints (x :: digs r.toNat)) := by simpa [ints] using hown'
          obtain ⟨A3, c3, rfl, hs3⟩ := sl_of_own' hown2
          have HS3 := Lib.hid hs3
          clear hown' hown2 hg' hnn hat hbl hs3
          go_wp2_with fail
          (refine (rtrim_fr _ _ _ (x :: digs r.toNat) _ HS3.out (by omega) HDX.out).mono ?_; rintro e w3 ⟨T, q, t, rfl, hT, hal, hb3⟩)
          go_wp2_with fail
          go_meet
          exact FIN.out _ _ _ _ _ HBL.out hb3 hT hal
      case rest =>
        obtain ⟨R', k', c', rfl, hq2, hr2, hf2, hb2⟩ := hcut
        have hr0 := HO.out.r0
        have hr1 := HO.out.r1
        have HSP := Lib.hid (fun q => HO.out.step (q := q) (by rw [la.out]; omega))
        have HQL := Lib.hid HO.out.len
        obtain ⟨V, hV⟩ : ∃ V, a.getD i 0 + 10000 * r = V := ⟨_, rfl⟩
        rw [hV] at hr2
        simp only [hV] at HSP
        rw [hxe.out] at hV
        have V0 : 0 ≤ V := by omega
        have V1 : V < 10000 * val b := by omega
        have HV := Lib.hid hV
        have HQ := Lib.hid hq2
        have HR := Lib.hid hr2
        have HF := Lib.hid hf2
        have HB := Lib.hid hb2
        have HVal : Hid (val (digs V.toNat) = V) := by
          show val (digs V.toNat) = V
          rw [val_digs]; omega
        have hkm : k' ≤ m + 1 := by
          have h1 : (digs V.toNat).length ≤ m + 1 := digs_len_le (by rw [pw_succ]; have := HBM.out; omega)
          rw [HR.out.len] at h1; exact h1
        have ck' := HR.out.cap
        have ct' := HR.out.top
        clear hV hq2 hr2 hf2 hb2 HB2 HA2 HVX HDX HE HL1
        go_wp2_with fail
        obtain ⟨w4, hw4⟩ : ∃ w4, wc = w4 := ⟨_, rfl⟩
        rw [hw4] at HQ HR HB ⊢
        clear hw4
        go_loopw [9, 10] (fun lv hv wr2 => ∃ lo hi : Int, lv = .int .i64 lo ∧ hv = .int .i64 hi ∧ 0 ≤ lo ∧ lo ≤ hi ∧ hi ≤ 9999 ∧ lo * val b ≤ V ∧ V < (hi + 1) * val b ∧ Below w4.heap.size w4 wr2) (fun lv hv _ => (intOf hv - intOf lv).toNat)
        case atStart => exact ⟨0, 9999, rfl, rfl, by omega, by omega, by omega, by rw [Int.zero_mul]; omega, by omega, Below.refl _ _⟩
        case round =>
          obtain ⟨lo, hi', rfl, rfl, lo0, lohi, hi9, hlo, hhi, hbe⟩ := hrel
          have HLO := Lib.hid hlo
          have HHI := Lib.hid hhi
          have HBE := Lib.hid hbe
          have HQ := Lib.hid (HQ.out.below hbe)
          have HR := Lib.hid (HR.out.below hbe)
          have HB := Lib.hid (below_on HB.out hbe)
          clear hlo hhi hbe
          have HMD : Hid (∀ d, 0 ≤ d → val (digs (val b * val [d]).toNat) = val b * d) := by
            intro d hd
            rw [val_digs]
            have := Int.mul_nonneg (a := val b) (b := d) (by have := HB0.out; omega) hd
            simp only [val, Int.mul_zero, Int.add_zero]
            omega
          by_cases hll : lo < hi'
          · obtain ⟨d0, d1⟩ := half_mid2 hll
            have s1 : 0 ≤ lo + hi' + 1 := by omega
            have s2 : lo + hi' + 1 ≤ 20000 := by omega
            go_upto_region 10 with fail
            generalize hd : (lo + hi' + 1) / 2 = d at *
            have HD1 : Hid (dOk [d]) := dOk_cons.2 ⟨⟨by omega, by omega⟩, dOk_nil⟩
            have HO1 := Lib.hid (show Sl (wr.alloc (.cells #[.int .i64 d] 3)) (some ⟨wr.heap.size, 0, none⟩) 1 1 [d] from (Own.new wr [d]).all (n := 1) (c := 1) rfl (Nat.le_refl _) (by omega))
            have HBE := Lib.hid (HBE.out.alloc HBE.out.size (.cells #[.int .i64 d] 3))
            have HR := Lib.hid (HR.out.alloc (.cells #[.int .i64 d] 3))
            have HBb := Lib.hid ((hb.below HB.out).alloc (.cells #[.int .i64 d] 3))
            go_wp2_with fail
            (refine (times_any B _ m cm 1 1 b [d] _ HBb.out HO1.out db HD1.out (by omega) (by omega)).mono ?_; rintro e w5 ⟨T, q, t, rfl, hT, hb5⟩)
            have HT := Lib.hid hT
            have HBE := Lib.hid (HBE.out.trans (hb5.mono HBE.out.size))
            have HR := Lib.hid (HR.out.below hb5)
            clear hT hb5
            go_wp2_with fail
            (refine (order_any T R' q t k' c' (digs (val b * val [d]).toNat) (digs V.toNat) _ HT.out HR.out (digs_ok _) (digs_ok _) (digs_top _) (digs_top _)).mono ?_; rintro e w6 ⟨rfl, q1, rfl⟩)
            rw [HVal.out, HMD.out d (by omega)]
            rcases Int.lt_trichotomy (val b * d) V with hc | hc | hc
            · rw [cmpI_lt hc]
              have HC : Hid (val b * d ≤ V) := (by omega : val b * d ≤ V)
              clear hc
              go_wp2_with fail
              go_roundw
              case rel => exact ⟨d, hi', rfl, rfl, by omega, by omega, by omega, by rw [Int.mul_comm]; exact HC.out, HHI.out, below_drewN HBE.out q1⟩
              case measure => simp [intOf] <;> omega
            · rw [cmpI_eq hc]
              have HC : Hid (val b * d ≤ V) := (by omega : val b * d ≤ V)
              clear hc
              go_wp2_with fail
              go_roundw
              case rel => exact ⟨d, hi', rfl, rfl, by omega, by omega, by omega, by rw [Int.mul_comm]; exact HC.out, HHI.out, below_drewN HBE.out q1⟩
              case measure => simp [intOf] <;> omega
            · rw [cmpI_gt hc]
              have HC := Lib.hid hc
              clear hc
              go_wp2_with fail
              go_roundw
              case rel => exact ⟨lo, d - 1, rfl, rfl, by omega, by omega, by omega, HLO.out, by rw [show d - 1 + 1 = d by omega, Int.mul_comm]; exact HC.out, below_drewN HBE.out q1⟩
              case measure => simp [intOf] <;> omega
          · obtain rfl : lo = hi' := by omega
            have HST := Lib.hid (HSP.out lo lo0 (by omega) HLO.out HHI.out)
            have hcl := HQ.out.cell (k := i) (by rw [HQL.out, la.out]; omega)
            have hfz := HQ.out.frozen i
            have HQ := Lib.hid (HQ.out.set_ i lo)
            have HBT := Lib.hid ((But.refl gq wr).setCell i (.int .i64 lo))
            have HR := Lib.hid (HR.out.but HBT.out HF.out)
            have HBb := Lib.hid ((hb.below HB.out).but HBT.out (hb.far (by rw [HGQ.out]; exact Nat.le_refl _)))
            have HB := Lib.hid (HB.out.setCell (p := ⟨gq, i, none⟩) (by rw [HGQ.out]; exact Nat.le_refl _) (.int .i64 lo))
            have HLE : Hid (val b * lo ≤ V) := by show val b * lo ≤ V; rw [Int.mul_comm]; exact HLO.out
            have HD1 : Hid (dOk [lo]) := dOk_cons.2 ⟨⟨by omega, by omega⟩, dOk_nil⟩
            go_upto_region 14 with fail
            clear hcl hfz
            generalize wr.setCell ⟨gq, i, none⟩ (.int .i64 lo) = w7 at *
            have HO1 := Lib.hid (show Sl (w7.alloc (.cells #[.int .i64 lo] 3)) (some ⟨w7.heap.size, 0, none⟩) 1 1 [lo] from (Own.new w7 [lo]).all (n := 1) (c := 1) rfl (Nat.le_refl _) (by omega))
            have HQ := Lib.hid (HQ.out.below ((Below.refl _ _).alloc (Nat.le_refl _) (.cells #[.int .i64 lo] 3)))
            have HR := Lib.hid (HR.out.alloc (.cells #[.int .i64 lo] 3))
            have HBb := Lib.hid (HBb.out.alloc (.cells #[.int .i64 lo] 3))
            have HB := Lib.hid (HB.out.alloc HB.out.size (.cells #[.int .i64 lo] 3))
            go_wp2_with fail
            (refine (times_any B _ m cm 1 1 b [lo] _ HBb.out HO1.out db HD1.out (by omega) (by omega)).mono ?_; rintro e w5 ⟨T, q, t, rfl, hT, hb5⟩)
            have HT := Lib.hid hT
            have HQ := Lib.hid (HQ.out.below hb5)
            have HR := Lib.hid (HR.out.below hb5)
            have HB := Lib.hid (below_on HB.out hb5)
            have HMD := Lib.hid (HMD.out lo lo0)
            have hqk : q ≤ k' := by
              rw [← hT.len, ← HR.out.len]
              refine digs_len_le ?_
              have h1 := digs_len_lt (n := V.toNat) (k := (digs V.toNat).length) (Nat.le_refl _)
              have h2 := HMD.out
              rw [val_digs] at h2
              have := HLE.out
              omega
            clear hT hb5
            go_wp2_with fail
            (refine (minus_any R' T k' c' q t (digs V.toNat) (digs (val b * val [lo]).toNat) _ HR.out HT.out (digs_ok _) (digs_ok _) (by omega) hqk (by rw [HVal.out, HMD.out]; exact HLE.out)).mono ?_; rintro e w6 ⟨S, l, s, rfl, hS, hb6⟩)
            rw [HVal.out, HMD.out, Int.mul_comm (val b)] at hS
            have HS := Lib.hid hS
            have HQ := Lib.hid (HQ.out.below hb6)
            have HB := Lib.hid (below_on HB.out hb6)
            clear hS hb6
            go_wp2_with fail
            go_roundw
            case rel => exact ⟨i, _, _, S, l, s, by omega, rfl, rfl, HST.out, HQ.out, HS.out, HB.out⟩
            case measure => simp [intOf] <;> omega
    · obtain rfl : j = 0 := by omega
      have HD := Lib.hid HO.out.done
      have HQL := Lib.hid HO.out.len
      have HSQ := Lib.hid (HQ.out.all (n := n) (c := n) (by rw [HO.out.len, la.out]) (Nat.le_refl _) (by omega))
      have HOK := Lib.hid HO.out.ok
      go_wp2_with fail
      (refine (rtrim_any (some ⟨gq, 0, none⟩) n n Q _ HSQ.out (by omega) HOK.out).mono ?_; rintro e w3 ⟨T, q, t, rfl, hT, hb3⟩)
      have HR := Lib.hid (HR.out.below hb3)
      have HB := Lib.hid (below_on HB.out hb3)
      clear hb3
      rw [HD.out.1] at hT
      have HT := Lib.hid hT
      clear hT
      go_wp2_with fail
      go_ret2
      exact ⟨_, _, _, _, _, _, rfl, HT.out, by rw [← HD.out.2]; exact HR.out, HB.out⟩
end Go.Proofs.YtfenmogbellhdaaDoor
