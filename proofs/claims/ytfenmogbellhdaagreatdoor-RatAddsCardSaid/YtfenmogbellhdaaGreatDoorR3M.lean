/-
  Layer 3's reference: trim, less, minus, digit, over, common, lowest, Of, Valid, Int.
-/
import Derived.Test.YtfenmogbellhdaaGreatDoorBigV
import Derived.Test.YtfenmogbellhdaaGreatDoorBigRM
import Derived.Test.YtfenmogbellhdaaGreatDoorRatF

namespace Go.Proofs.YtfenmogbellhdaaGreatDoor
open Go.RowKit

theorem r3trim_gen (A : Option Addr) (n c : Nat) (xs : List Int) (w : World) (hs : Sl w A n c xs) :
    Calls Tryz.prog 64 #[.slice A n c] w fun e w' => ∃ B m d, e = .returned (.slice B m d) ∧ Sl w B m d (xs.take m) ∧ val (xs.take m) = val xs ∧ m ≤ n ∧ (m = 0 ∨ xs.getD (m - 1) 0 ≠ 0) ∧ (m = 0 ∨ B = A) ∧ w = w' := by
  have hl := Lib.hid hs.len
  have htop := hs.top
  have hcap := hs.cap
  go_enter Tryz.func64, Tryz.ntmps64
  go_wp2_with fail
  go_loop [3] (fun i => ∃ k : Nat, k ≤ n ∧ i = .int .i64 (k : Int) ∧ val (xs.take k) = val xs) (fun i => (intOf i).toNat)
  case atStart => exact ⟨n, Nat.le_refl _, rfl, by rw [List.take_of_length_le (by rw [hl.out]; exact Nat.le_refl _)]⟩
  case round =>
    obtain ⟨k, hk, rfl, hv⟩ := hrel
    have HV := Lib.hid hv
    clear hv
    by_cases h0 : 0 < k
    · obtain ⟨k', rfl⟩ : ∃ k', k = k' + 1 := ⟨k - 1, by omega⟩
      obtain ⟨g, o, x, rfl, hg, hc, hx⟩ := hs.at_ (show k' < n by omega)
      have b1 : (0 : Int) < ((k' + 1 : Nat) : Int) := by omega
      have b2 : (k' : Int) < (n : Int) := by omega
      cases hz : (x == 0) with
      | true =>
        have h0 := beq_iff_eq.1 hz
        have HX := Lib.hid (hx.out.trans h0)
        clear h0 hx
        go_wp2_with fail
        go_round
        case rel => exact ⟨k', by omega, by go_num, take_zero_step HX.out HV.out⟩
        case measure => simp [intOf]
      | false =>
        have b3 : ((k' + 1 : Nat) : Int) ≤ (c : Int) := by omega
        have HT := Lib.hid (show xs.getD (k' + 1 - 1) 0 ≠ 0 by rw [Nat.add_sub_cancel, hx.out]; simpa using hz)
        go_wp2_with fail
        go_ret
        exact ⟨_, _, _, rfl, hs.take_ hk, HV.out, hk, .inr HT.out, .inr rfl, rfl⟩
    · obtain rfl : k = 0 := by omega
      have b3 : (0 : Int) ≤ (c : Int) := by omega
      cases A with
      | none =>
        go_wp2_with fail
        go_ret
        exact ⟨_, _, _, rfl, Sl.empty w _ (by omega), HV.out, Nat.zero_le _, .inl rfl, .inl rfl, rfl⟩
      | some a =>
        go_wp2_with fail
        go_ret
        exact ⟨_, _, _, rfl, Sl.empty w _ (by omega), HV.out, Nat.zero_le _, .inl rfl, .inl rfl, rfl⟩

theorem r3trim_al (A : Option Addr) (n c : Nat) (xs : List Int) (w : World) (hs : Sl w A n c xs) (hd : dOk xs) :
    Calls Tryz.prog 64 #[.slice A n c] w fun e w' => ∃ B m d, e = .returned (.slice B m d) ∧ Sl w B m d (digs (val xs).toNat) ∧ (m = 0 ∨ B = A) ∧ w = w' := by
  refine (r3trim_gen A n c xs w hs).mono ?_
  rintro e w' ⟨B, m, d, he, h1, h3, h4, h5, h7, h6⟩
  refine ⟨B, m, d, he, ?_, h7, h6⟩
  rw [← trim_eq hd h3 (by rw [hs.len]; exact h4) h5]; exact h1
theorem r3trim_any (A : Option Addr) (n c : Nat) (xs : List Int) (w : World) (hs : Sl w A n c xs) (hd : dOk xs) :
    Calls Tryz.prog 64 #[.slice A n c] w fun e w' => ∃ B m d, e = .returned (.slice B m d) ∧ Sl w B m d (digs (val xs).toNat) ∧ w = w' :=
  (r3trim_al A n c xs w hs hd).mono fun _ _ ⟨B, m, d, he, h1, _, h2⟩ => ⟨B, m, d, he, h1, h2⟩

theorem lt_of_cmp {a b c d : Int} (h : cmpI a b = cmpI c d) : decide (a < b) = decide (c < d) := by
  have e : (a < b ↔ c < d) := by
    unfold cmpI at h
    constructor
    · intro k
      rw [if_pos k] at h
      by_cases l : c < d
      · exact l
      · rw [if_neg l] at h; split at h <;> omega
    · intro k
      rw [if_pos k] at h
      by_cases l : a < b
      · exact l
      · rw [if_neg l] at h; split at h <;> omega
  simp [e]
set_option maxHeartbeats 1000000 in
theorem r3less_any (A B : Option Addr) (n c m d : Nat) (a b : List Int) (w : World) (ha : Sl w A n c a) (hb : Sl w B m d b) (da : dOk a) (db : dOk b) (ta : topOk a) (tb : topOk b) :
    Calls Tryz.prog 58 #[.slice A n c, .slice B m d] w fun e w' => e = .returned (.bool (decide (val a < val b))) ∧ ∃ q, w' = w.drewN q := by
  have la := Lib.hid ha.len
  have lb := Lib.hid hb.len
  have hc := ha.cap
  have hd := hb.cap
  have ht := ha.top
  have ht2 := hb.top
  by_cases hne : n = m
  · have HNE := Lib.hid hne
    have q1 : ((n : Int) != (m : Int)) = false := by simp [hne]
    clear hne
    go_enter Tryz.func58, Tryz.ntmps58
    go_wp2_with fail
    go_loopw [5] (fun i wr => ∃ (j q : Nat), j ≤ n ∧ i = .int .i64 ((j : Int) - 1) ∧ wr = w.drewN q ∧ a.drop j = b.drop j) (fun i _ => (intOf i + 1).toNat)
    case atStart => exact ⟨n, 0, Nat.le_refl _, rfl, rfl, by rw [List.drop_of_length_le (by rw [la.out]; exact Nat.le_refl _), List.drop_of_length_le (by rw [lb.out, HNE.out]; exact Nat.le_refl _)]⟩
    case round =>
      obtain ⟨j, q, hj, rfl, rfl, hdr⟩ := hrel
      have HD := Lib.hid hdr
      clear hdr
      by_cases h0 : 0 < j
      · obtain ⟨i, rfl⟩ : ∃ i, j = i + 1 := ⟨j - 1, by omega⟩
        have him : i < m := by have := HNE.out; omega
        obtain ⟨g, o, x, rfl, hg, hx, hxe⟩ := ha.at_ (show i < n by omega)
        obtain ⟨g', o', y, rfl, hg', hy, hye⟩ := hb.at_ him
        have p1 : (i : Int) < (n : Int) := by omega
        have p2 : (i : Int) < (m : Int) := by omega
        have p3 : (0 : Int) ≤ (i : Int) := by omega
        cases hxy : (x != y) with
        | true =>
          have HE := Lib.hid (lt_of_cmp (cmpI_at da db (by rw [la.out, lb.out]; exact HNE.out) (by rw [la.out]; omega) HD.out hxe.out hye.out (by simpa using hxy)))
          rw [show ((i + 1 : Nat) : Int) - 1 = (i : Int) from by omega]
          go_wp2_with fail
          go_quiet (fail)
          go_wp2_with fail
          go_quiet (fail)
          go_wp2_with fail
          go_ret
          exact ⟨ret_bool HE.out, _, by rw [World.drewN_drewN, World.drewN_drewN]⟩
        | false =>
          have HS := Lib.hid (drop_eq_step (by rw [la.out, lb.out]; exact HNE.out) (by rw [la.out]; omega) HD.out (by rw [hxe.out, hye.out]; simpa using hxy))
          rw [show ((i + 1 : Nat) : Int) - 1 = (i : Int) from by omega]
          go_wp2_with fail
          go_quiet (fail)
          go_wp2_with fail
          go_roundw
          case rel => exact ⟨i, _, by omega, rfl, rfl, HS.out⟩
          case measure => simp [intOf] <;> omega
      · obtain rfl : j = 0 := by omega
        have HE : Hid (false = decide (val a < val b)) := by
          have := HD.out
          rw [List.drop_zero, List.drop_zero] at this
          exact (decide_eq_false (by rw [this]; omega)).symm
        go_wp2_with fail
        go_ret
        exact ⟨ret_bool HE.out, _, rfl⟩
  · have q1 : ((n : Int) != (m : Int)) = true := by simp; omega
    have HE := Lib.hid (lt_of_cmp (cmpI_nat hne da db ta tb la.out lb.out))
    clear hne
    go_enter Tryz.func58, Tryz.ntmps58
    go_wp2_with fail
    go_ret
    exact ⟨ret_bool (by rw [← HE.out]; simp), 0, rfl⟩
end Go.Proofs.YtfenmogbellhdaaGreatDoor

namespace Go.Proofs.YtfenmogbellhdaaGreatDoor
open Go.RowKit

set_option maxRecDepth 100000 in
set_option maxHeartbeats 2000000 in
theorem r3minus_any (A B : Option Addr) (n cn m cm : Nat) (a b : List Int) (w : World) (ha : Sl w A n cn a) (hb : Sl w B m cm b) (da : dOk a) (db : dOk b) (n1 : n ≤ 1000) (hmn : m ≤ n) (hle : val b ≤ val a) :
    Calls Tryz.prog 59 #[.slice A n cn, .slice B m cm] w fun e w' => ∃ R k r, e = .returned (.slice R k r) ∧ Sl w' R k r (digs (val a - val b).toNat) ∧ Below w.heap.size w w' := by
  obtain ⟨i0, hi, hz0, hz1, hz2⟩ := info_parts int_info
  have la := Lib.hid ha.len
  have lb := Lib.hid hb.len
  have ht := ha.top
  have ht2 := hb.top
  have hq := ha.cap
  have hq2 := hb.cap
  go_enter Tryz.func59, Tryz.ntmps59
  go_wp2_with fail
  go_loopw [5, 6, 7] (fun ov cv iv wr => ∃ (k : Nat) (c : Int) (l : List Int), k ≤ n ∧ iv = .int .i64 (k : Int) ∧ cv = .int .i64 c ∧ MinAt a b k l c ∧ wr.ownsRow w.heap.size 3 1 ov l.length (ints l) ∧ Below w.heap.size w wr) (fun _ _ iv _ => n - (intOf iv).toNat)
  case atStart => exact ⟨0, 0, [], by omega, rfl, rfl, MinAt.start a b, own_nil _ _, Below.refl _ _⟩
  case round =>
    obtain ⟨k, c, l, hk, rfl, rfl, hp, hown, hbw⟩ := hrel
    have HP := Lib.hid hp
    have HO := Lib.hid hown
    have HB := Lib.hid hbw
    clear hp hbw
    have hl0 := HP.out.lo
    have hl1 := HP.out.hi
    have hll : l.length ≤ 2000 := by have := HP.out.len; omega
    by_cases h1 : k < n
    · obtain ⟨g, o, x, rfl, hg', hx, hxe⟩ := (ha.below HB.out).at_ h1
      have g1 : (k : Int) < (n : Int) := by omega
      have g2 : (0 : Int) ≤ (k : Int) := by omega
      have dx := dOk_getD da k
      rw [hxe.out] at dx
      obtain ⟨x0, x1⟩ := dx
      by_cases h2 : k < m
      · obtain ⟨g3, o3, y, rfl, hg3, hy, hye⟩ := (hb.below HB.out).at_ h2
        have g3 : (k : Int) < (m : Int) := by omega
        have dy := dOk_getD db k
        rw [hye.out] at dy
        obtain ⟨y0, y1⟩ := dy
        have HST := Lib.hid (fun d c' h0 h1 c0 c1 he => HP.out.step (d := d) (c' := c') h0 h1 c0 c1 he)
        rw [hxe.out, hye.out] at HST
        clear hown
        by_cases hneg : x - c - y < 0
        · have h' : decide (x - c - y < 0) = true := decide_eq_true hneg
          go_wp2_with (at_builtin; refine wpList_append_own_at _ rfl _ _ 22 rfl w.heap.size 3 i0 (.int .i64 0) 1 8 Tryz.underlying22 hi hz0 hz1 hz2 rfl (by decide) _ _ _ rfl (HO.out.alloc _) ⟨wr.heap.size, 0, none⟩ 1 1 [.int .i64 (x - c - y + 10000)] rfl rfl ?k11 ?k12 ?k13 ?k14 ?k15 ?_)
          try (case k11 => exact one_cell wr _)
          case k12 => first | exact ints_one [_] | rfl
          case k13 => unfold maxLen; omega
          case k14 => omega
          case k15 => first | (rw [alloc_sz]; have := HB.out.size; omega) | (have := HB.out.size; omega)
          intro v' w' hown' hg hnn hat
          have HO' : Hid (w'.ownsRow w.heap.size 3 1 v' (l ++ [x - c - y + 10000]).length (ints (l ++ [x - c - y + 10000]))) := by
            rw [List.length_append, ints_app]
            exact hown'
          have HB' : Hid (Below w.heap.size w w') := (HB.out.alloc HB.out.size _).grown hg (by rw [alloc_sz]; have := HB.out.size; omega) (fun k hk => own_row_ge HO.out (k := k) hk)
          clear hown' hg hnn hat
          go_wp2_with fail
          go_roundw
          case rel => exact ⟨k + 1, 1, _, by omega, by go_num, rfl, HST.out _ 1 (by omega) (by omega) (by omega) (by omega) (by omega), HO'.out, HB'.out⟩
          case measure => simp [intOf] <;> omega
        · have h' : decide (x - c - y < 0) = false := decide_eq_false hneg
          go_wp2_with (at_builtin; refine wpList_append_own_at _ rfl _ _ 22 rfl w.heap.size 3 i0 (.int .i64 0) 1 8 Tryz.underlying22 hi hz0 hz1 hz2 rfl (by decide) _ _ _ rfl (HO.out.alloc _) ⟨wr.heap.size, 0, none⟩ 1 1 [.int .i64 (x - c - y)] rfl rfl ?k21 ?k22 ?k23 ?k24 ?k25 ?_)
          try (case k21 => exact one_cell wr _)
          case k22 => first | exact ints_one [_] | rfl
          case k23 => unfold maxLen; omega
          case k24 => omega
          case k25 => first | (rw [alloc_sz]; have := HB.out.size; omega) | (have := HB.out.size; omega)
          intro v' w' hown' hg hnn hat
          have HO' : Hid (w'.ownsRow w.heap.size 3 1 v' (l ++ [x - c - y]).length (ints (l ++ [x - c - y]))) := by
            rw [List.length_append, ints_app]
            exact hown'
          have HB' : Hid (Below w.heap.size w w') := (HB.out.alloc HB.out.size _).grown hg (by rw [alloc_sz]; have := HB.out.size; omega) (fun k hk => own_row_ge HO.out (k := k) hk)
          clear hown' hg hnn hat
          go_wp2_with fail
          go_roundw
          case rel => exact ⟨k + 1, 0, _, by omega, by go_num, rfl, HST.out _ 0 (by omega) (by omega) (by omega) (by omega) (by omega), HO'.out, HB'.out⟩
          case measure => simp [intOf] <;> omega
      · have HY : Hid (b.getD k 0 = 0) := by
          have := lb.out
          show b.getD k 0 = 0
          simp [List.getD, show b.length ≤ k by omega]
        have g3 : ¬ (k : Int) < (m : Int) := by omega
        have HST := Lib.hid (fun d c' h0 h1 c0 c1 he => HP.out.step (d := d) (c' := c') h0 h1 c0 c1 he)
        rw [hxe.out, HY.out] at HST
        clear hown
        by_cases hneg : x - c < 0
        · have h' : decide (x - c < 0) = true := decide_eq_true hneg
          go_wp2_with (at_builtin; refine wpList_append_own_at _ rfl _ _ 22 rfl w.heap.size 3 i0 (.int .i64 0) 1 8 Tryz.underlying22 hi hz0 hz1 hz2 rfl (by decide) _ _ _ rfl (HO.out.alloc _) ⟨wr.heap.size, 0, none⟩ 1 1 [.int .i64 (x - c + 10000)] rfl rfl ?k31 ?k32 ?k33 ?k34 ?k35 ?_)
          try (case k31 => exact one_cell wr _)
          case k32 => first | exact ints_one [_] | rfl
          case k33 => unfold maxLen; omega
          case k34 => omega
          case k35 => first | (rw [alloc_sz]; have := HB.out.size; omega) | (have := HB.out.size; omega)
          intro v' w' hown' hg hnn hat
          have HO' : Hid (w'.ownsRow w.heap.size 3 1 v' (l ++ [x - c + 10000]).length (ints (l ++ [x - c + 10000]))) := by
            rw [List.length_append, ints_app]
            exact hown'
          have HB' : Hid (Below w.heap.size w w') := (HB.out.alloc HB.out.size _).grown hg (by rw [alloc_sz]; have := HB.out.size; omega) (fun k hk => own_row_ge HO.out (k := k) hk)
          clear hown' hg hnn hat
          go_wp2_with fail
          go_roundw
          case rel => exact ⟨k + 1, 1, _, by omega, by go_num, rfl, HST.out _ 1 (by omega) (by omega) (by omega) (by omega) (by omega), HO'.out, HB'.out⟩
          case measure => simp [intOf] <;> omega
        · have h' : decide (x - c < 0) = false := decide_eq_false hneg
          go_wp2_with (at_builtin; refine wpList_append_own_at _ rfl _ _ 22 rfl w.heap.size 3 i0 (.int .i64 0) 1 8 Tryz.underlying22 hi hz0 hz1 hz2 rfl (by decide) _ _ _ rfl (HO.out.alloc _) ⟨wr.heap.size, 0, none⟩ 1 1 [.int .i64 (x - c)] rfl rfl ?k41 ?k42 ?k43 ?k44 ?k45 ?_)
          try (case k41 => exact one_cell wr _)
          case k42 => first | exact ints_one [_] | rfl
          case k43 => unfold maxLen; omega
          case k44 => omega
          case k45 => first | (rw [alloc_sz]; have := HB.out.size; omega) | (have := HB.out.size; omega)
          intro v' w' hown' hg hnn hat
          have HO' : Hid (w'.ownsRow w.heap.size 3 1 v' (l ++ [x - c]).length (ints (l ++ [x - c]))) := by
            rw [List.length_append, ints_app]
            exact hown'
          have HB' : Hid (Below w.heap.size w w') := (HB.out.alloc HB.out.size _).grown hg (by rw [alloc_sz]; have := HB.out.size; omega) (fun k hk => own_row_ge HO.out (k := k) hk)
          clear hown' hg hnn hat
          go_wp2_with fail
          go_roundw
          case rel => exact ⟨k + 1, 0, _, by omega, by go_num, rfl, HST.out _ 0 (by omega) (by omega) (by omega) (by omega) (by omega), HO'.out, HB'.out⟩
          case measure => simp [intOf] <;> omega
    · obtain rfl : k = n := by omega
      obtain ⟨A', c', rfl, hs⟩ := sl_of_own hown
      have HS := Lib.hid hs
      have HV := Lib.hid (MinAt.done (show MinAt a b a.length l c by rw [la.out]; exact HP.out) da db (by rw [la.out, lb.out]; omega) hle)
      clear hown hs HO
      go_wp2_with fail
      (refine (r3trim_any A' l.length c' l _ HS.out HP.out.ok).mono ?_; rintro e w3 ⟨R, q, r, rfl, hR, rfl⟩)
      rw [HV.out] at hR
      have HR := Lib.hid hR
      clear hR
      go_wp2_with fail
      go_ret
      exact ⟨_, _, _, rfl, HR.out, HB.out⟩
end Go.Proofs.YtfenmogbellhdaaGreatDoor

namespace Go.Proofs.YtfenmogbellhdaaGreatDoor
open Go.RowKit

/-- What digit has made after k rounds: l, and the carry c. -/
structure DigAt (a : List Int) (d : Int) (k : Nat) (l : List Int) (c : Int) : Prop where
  len : l.length = k
  ok : dOk l
  lo : 0 ≤ c
  hi : c ≤ 9999
  eq : val l + pw k * c = val (a.take k) * d
theorem DigAt.start (a : List Int) (d : Int) : DigAt a d 0 [] 0 := ⟨rfl, dOk_nil, by omega, by omega, by simp [val]⟩
theorem DigAt.bd {a l : List Int} {d c : Int} {k : Nat} (h : DigAt a d k l c) (da : dOk a) (d0 : 0 ≤ d) (d1 : d ≤ 9999) : 0 ≤ c + a.getD k 0 * d ∧ c + a.getD k 0 * d ≤ 99990000 := by
  obtain ⟨a0, a1⟩ := dOk_getD da k
  have h1 := h.lo
  have h2 := h.hi
  have h3 := Int.mul_nonneg a0 d0
  have h4 : a.getD k 0 * d ≤ 9999 * 9999 := Int.mul_le_mul (by omega) (by omega) d0 (by omega)
  omega
theorem DigAt.step {a l : List Int} {d c : Int} {k : Nat} (h : DigAt a d k l c) (da : dOk a) (d0 : 0 ≤ d) (d1 : d ≤ 9999) :
    DigAt a d (k + 1) (l ++ [(c + a.getD k 0 * d) % 10000]) ((c + a.getD k 0 * d) / 10000) := by
  have hb := h.bd da d0 d1
  have he := h.eq
  refine ⟨by rw [List.length_append, h.len]; rfl, dOk_snoc h.ok (by omega) (by omega), by omega, by omega, ?_⟩
  rw [val_snoc, h.len, val_take_succ, pw_succ, Int.add_mul, ← he, Int.mul_assoc (pw k)]
  generalize a.getD k 0 * d = y at *
  have e : (c + y) % 10000 + 10000 * ((c + y) / 10000) = c + y := Int.emod_add_mul_ediv _ _
  have e3 : pw k * (c + y) = pw k * ((c + y) % 10000) + pw k * (10000 * ((c + y) / 10000)) := by rw [← Int.mul_add, e]
  rw [Int.mul_add] at e3
  have e4 : 10000 * pw k * ((c + y) / 10000) = pw k * (10000 * ((c + y) / 10000)) := by rw [Int.mul_comm 10000, Int.mul_assoc]
  rw [e4]
  omega
theorem own_new {w : World} {l : List Int} (base : Nat) (hb : base ≤ w.heap.size) (hl : l.length ≤ 100000) : (w.alloc (.cells (ints l).toArray 3)).ownsRow base 3 1 (.slice (some ⟨w.heap.size, 0, none⟩) l.length l.length) l.length (ints l) :=
  ⟨by rw [ints_len]; omega, .inr ⟨w.heap.size, l.length, (ints l).toArray, rfl, hb, Own.new w l, Nat.le_refl _, by unfold maxLen; omega, by simp [ints], by rw [Nat.mul_one]; exact List.take_of_length_le (by rw [ints_len]; exact Nat.le_refl _)⟩⟩
set_option maxRecDepth 100000 in
set_option maxHeartbeats 2000000 in
theorem r3digit_any (A : Option Addr) (n cn : Nat) (a : List Int) (d : Int) (z : Nat) (zi : Int) (w : World) (ha : Sl w A n cn a) (da : dOk a) (n1 : n ≤ 1000) (d0 : 0 ≤ d) (d1 : d ≤ 9999) (z1 : z ≤ 1000) (hz : zi = z) :
    Calls Tryz.prog 65 #[.slice A n cn, .int .i64 d, .int .i64 zi] w fun e w' => ∃ R k r, e = .returned (.slice R k r) ∧ Sl w' R k r (digs (val a * d * pw z).toNat) ∧ Below w.heap.size w w' := by
  subst hz
  obtain ⟨i0, hi, hz0, hz1, hz2⟩ := info_parts int_info
  have la := Lib.hid ha.len
  have ht := ha.top
  have hq := ha.cap
  have hmk := run_mk z (by omega)
  have HN := Lib.hid (own_new (w := w) (l := List.replicate z (0 : Int)) w.heap.size (Nat.le_refl _) (by rw [List.length_replicate]; omega))
  go_enter Tryz.func65, Tryz.ntmps65
  go_wp2_with fail
  clear hmk
  go_loopw [7, 8, 9] (fun ov cv iv wr => ∃ (k : Nat) (c : Int) (l : List Int), k ≤ n + 1 ∧ (k ≤ n ∨ c = 0) ∧ iv = .int .i64 (k : Int) ∧ cv = .int .i64 c ∧ DigAt a d k l c ∧ wr.ownsRow w.heap.size 3 1 ov (z + l.length) (ints (List.replicate z 0 ++ l)) ∧ Below w.heap.size w wr) (fun _ _ iv _ => n + 1 - (intOf iv).toNat)
  case atStart =>
    refine ⟨0, 0, [], by omega, .inl (by omega), rfl, rfl, DigAt.start a d, ?_, (Below.refl _ _).alloc (Nat.le_refl _) _⟩
    have := HN.out
    rw [List.length_replicate] at this
    rw [List.append_nil]
    exact this
  case round =>
    obtain ⟨k, c, l, hk, hkc, rfl, rfl, hp, hown, hbw⟩ := hrel
    have HP := Lib.hid hp
    have HO := Lib.hid hown
    have HB := Lib.hid hbw
    have HKC := Lib.hid hkc
    clear hp hbw hkc
    have hl0 := HP.out.lo
    have hl1 := HP.out.hi
    have hll : z + l.length ≤ 3000 := by have := HP.out.len; omega
    by_cases h1 : k < n
    · obtain ⟨g, o, x, rfl, hg', hx, hxe⟩ := (ha.below HB.out).at_ h1
      have g1 : (k : Int) < (n : Int) := by omega
      have g2 : (0 : Int) ≤ (k : Int) := by omega
      have dx := dOk_getD da k
      have pb := HP.out.bd da d0 d1
      have HST := Lib.hid (HP.out.step da d0 d1)
      rw [hxe.out] at dx pb HST
      obtain ⟨x0, x1⟩ := dx
      obtain ⟨p0, p1⟩ := pb
      have m0 := Int.mul_nonneg x0 d0
      have m1 : x * d ≤ 9999 * 9999 := Int.mul_le_mul (by omega) (by omega) d0 (by omega)
      clear hown
      go_wp2_with (at_builtin; refine wpList_append_own_at _ rfl _ _ 22 rfl w.heap.size 3 i0 (.int .i64 0) 1 8 Tryz.underlying22 hi hz0 hz1 hz2 rfl (by decide) _ _ _ rfl (HO.out.alloc _) ⟨wr.heap.size, 0, none⟩ 1 1 [.int .i64 ((c + x * d) % 10000)] rfl rfl ?k51 ?k52 ?k53 ?k54 ?k55 ?_)
      try (case k51 => exact one_cell wr _)
      case k52 => first | exact ints_one [_] | rfl
      case k53 => unfold maxLen; omega
      case k54 => omega
      case k55 => first | (rw [alloc_sz]; have := HB.out.size; omega) | (have := HB.out.size; omega)
      intro v' w' hown' hg hnn hat
      have HO' : Hid (w'.ownsRow w.heap.size 3 1 v' (z + (l ++ [(c + x * d) % 10000]).length) (ints (List.replicate z 0 ++ (l ++ [(c + x * d) % 10000])))) := by
        show w'.ownsRow _ _ _ _ _ _
        rw [List.length_append, ← List.append_assoc, ints_app]
        exact hown'
      have HB' : Hid (Below w.heap.size w w') := (HB.out.alloc HB.out.size _).grown hg (by rw [alloc_sz]; have := HB.out.size; omega) (fun k hk => own_row_ge HO.out (k := k) hk)
      clear hown' hg hnn hat
      go_wp2_with fail
      go_roundw
      case rel => exact ⟨k + 1, _, l ++ [(c + x * d) % 10000], by omega, .inl (by omega), by go_num, rfl, HST.out, HO'.out, HB'.out⟩
      case measure => simp [intOf] <;> omega
    · have HY : Hid (a.getD k 0 = 0) := by
        have := la.out
        show a.getD k 0 = 0
        simp [List.getD, show a.length ≤ k by omega]
      have g1 : ¬ (k : Int) < (n : Int) := by omega
      by_cases hc : 0 < c
      · have hkn : k ≤ n := by rcases HKC.out with h | h <;> omega
        have HST := Lib.hid (HP.out.step da d0 d1)
        rw [HY.out, Int.zero_mul, Int.add_zero] at HST
        have c1 : c / 10000 = 0 := by omega
        clear hown
        go_wp2_with (at_builtin; refine wpList_append_own_at _ rfl _ _ 22 rfl w.heap.size 3 i0 (.int .i64 0) 1 8 Tryz.underlying22 hi hz0 hz1 hz2 rfl (by decide) _ _ _ rfl (HO.out.alloc _) ⟨wr.heap.size, 0, none⟩ 1 1 [.int .i64 (c % 10000)] rfl rfl ?k61 ?k62 ?k63 ?k64 ?k65 ?_)
        try (case k61 => exact one_cell wr _)
        case k62 => first | exact ints_one [_] | rfl
        case k63 => unfold maxLen; omega
        case k64 => omega
        case k65 => first | (rw [alloc_sz]; have := HB.out.size; omega) | (have := HB.out.size; omega)
        intro v' w' hown' hg hnn hat
        have HO' : Hid (w'.ownsRow w.heap.size 3 1 v' (z + (l ++ [c % 10000]).length) (ints (List.replicate z 0 ++ (l ++ [c % 10000])))) := by
          show w'.ownsRow _ _ _ _ _ _
          rw [List.length_append, ← List.append_assoc, ints_app]
          exact hown'
        have HB' : Hid (Below w.heap.size w w') := (HB.out.alloc HB.out.size _).grown hg (by rw [alloc_sz]; have := HB.out.size; omega) (fun k hk => own_row_ge HO.out (k := k) hk)
        clear hown' hg hnn hat
        go_wp2_with fail
        go_roundw
        case rel => exact ⟨k + 1, _, l ++ [c % 10000], by omega, .inr (by omega), by go_num, rfl, HST.out, HO'.out, HB'.out⟩
        case measure => simp [intOf] <;> omega
      · obtain rfl : c = 0 := by omega
        obtain ⟨A', c', rfl, hs⟩ := sl_of_own' hown
        have HS := Lib.hid hs
        have HV : Hid (val (List.replicate z 0 ++ l) = val a * d * pw z) := by
          show val (List.replicate z 0 ++ l) = val a * d * pw z
          have e := HP.out.eq
          rw [Int.mul_zero, Int.add_zero, List.take_of_length_le (by rw [la.out]; omega)] at e
          rw [val_app, val_rep, List.length_replicate, e, Int.zero_add, Int.mul_comm]
        have HD : Hid (dOk (List.replicate z 0 ++ l)) := dOk_app.2 ⟨dOk_rep z, HP.out.ok⟩
        clear hown hs HO
        go_wp2_with fail
        (refine (r3trim_any A' (z + l.length) c' (List.replicate z 0 ++ l) _ HS.out HD.out).mono ?_; rintro e w3 ⟨R, q, r, rfl, hR, rfl⟩)
        rw [HV.out] at hR
        have HR := Lib.hid hR
        clear hR
        go_wp2_with fail
        go_ret
        exact ⟨_, _, _, rfl, HR.out, HB.out⟩
end Go.Proofs.YtfenmogbellhdaaGreatDoor

namespace Go.Proofs.YtfenmogbellhdaaGreatDoor
open Go.RowKit

/-- What over has found out, from place j on: the quotient's digits Q, and the rest. -/
structure OverAt (a b : List Int) (j : Nat) (Q : List Int) (r : Int) : Prop where
  len : Q.length = a.length
  ok : dOk Q
  low : ∀ i, i < j → Q.getD i 0 = 0
  eq : val (a.drop j) = val (Q.drop j) * val b + r
  r0 : 0 ≤ r
  r1 : r < val b
theorem OverAt.start {a b : List Int} (h : 0 < val b) : OverAt a b a.length (List.replicate a.length 0) 0 :=
  ⟨by rw [List.length_replicate], dOk_rep _, fun i hi => by simp [List.getD, hi], by rw [List.drop_of_length_le (Nat.le_refl _), List.drop_of_length_le (by rw [List.length_replicate]; exact Nat.le_refl _)]; simp [val], by omega, h⟩
theorem OverAt.step {a b Q : List Int} {i : Nat} {r q : Int} (h : OverAt a b (i + 1) Q r) (hi : i < a.length) (q0 : 0 ≤ q) (q1 : q < 10000) (h1 : q * val b ≤ a.getD i 0 + 10000 * r) (h2 : a.getD i 0 + 10000 * r < (q + 1) * val b) :
    OverAt a b i (Q.set i q) (a.getD i 0 + 10000 * r - q * val b) := by
  have e1 := small_step (xs := a) (k := i) hi rfl
  have hl : i < (Q.set i q).length := by rw [List.length_set, h.len]; exact hi
  have e2 := small_step (xs := Q.set i q) (k := i) hl rfl
  rw [drop_set_succ] at e2
  have e3 : (Q.set i q).getD i 0 = q := by simp [List.getD, show i < Q.length by rw [h.len]; exact hi]
  rw [e3] at e2
  have e4 := h.eq
  rw [Int.add_mul] at h2
  refine ⟨by rw [List.length_set, h.len], dOk_set h.ok i q0 q1, fun k hk => ?_, ?_, by omega, by omega⟩
  · have := h.low k (by omega)
    simp only [List.getD] at this ⊢
    rw [List.getElem?_set_ne (by omega)]; exact this
  · rw [← e1, ← e2, e4, Int.add_mul, Int.add_mul, Int.mul_assoc, Int.mul_comm (val b) 10000, ← Int.mul_assoc]
    omega
theorem OverAt.skip {a b Q : List Int} {i : Nat} {r : Int} (h : OverAt a b (i + 1) Q r) (hi : i < a.length) (h0 : 0 ≤ a.getD i 0) (h1 : a.getD i 0 + 10000 * r < val b) : OverAt a b i Q (a.getD i 0 + 10000 * r) := by
  have e1 := small_step (xs := a) (k := i) hi rfl
  have e2 := small_step (xs := Q) (k := i) (by rw [h.len]; exact hi) (h.low i (by omega))
  have e4 := h.eq
  have h2 := h.r0
  refine ⟨h.len, h.ok, fun k hk => h.low k (by omega), ?_, by omega, h1⟩
  rw [← e1, ← e2, e4, Int.add_mul, Int.add_mul, Int.mul_assoc, Int.mul_comm (val b) 10000, ← Int.mul_assoc]
  omega
theorem OverAt.done {a b Q : List Int} {r : Int} (h : OverAt a b 0 Q r) : val Q = val a / val b ∧ r = val a % val b := by
  have := h.eq
  rw [List.drop_zero, List.drop_zero] at this
  exact div_done this h.r0 h.r1
theorem rest_short {r B : Int} {m : Nat} (h0 : 0 ≤ r) (h : r < B) (hB : B < pw m) : (digs r.toNat).length ≤ m := digs_len_le (by omega)
theorem half_mid {lo hi : Int} (h : lo < hi) : lo < (lo + hi + 1) / 2 ∧ (lo + hi + 1) / 2 ≤ hi := by omega
set_option maxRecDepth 100000 in
set_option maxHeartbeats 4000000 in
theorem r3over_any (A B : Option Addr) (n cn m cm : Nat) (a b : List Int) (w : World) (ha : Sl w A n cn a) (hb : Sl w B m cm b) (da : dOk a) (db : dOk b) (tb : topOk b) (hb0 : 0 < val b) (n1 : n ≤ 900) (m1 : m ≤ 900) :
    Calls Tryz.prog 39 #[.slice A n cn, .slice B m cm] w fun e w' => ∃ R k r S l s, e = .returned (.tuple #[.slice R k r, .slice S l s]) ∧ Sl w' R k r (digs (val a / val b).toNat) ∧ Sl w' S l s (digs (val a % val b).toNat) ∧ Below w.heap.size w w' := by
  obtain ⟨i0, hi, hz0, hz1, hz2⟩ := info_parts int_info
  have la := Lib.hid ha.len
  have lb := Lib.hid hb.len
  have ht := ha.top
  have hq := ha.cap
  have hbm := (val_bd db).2
  rw [hb.len] at hbm
  have HBM := Lib.hid hbm
  have HB0 := Lib.hid hb0
  have ST : Hid (OverAt a b n (List.replicate n 0) 0) := by
    have := OverAt.start (a := a) hb0
    rw [ha.len] at this; exact this
  clear hbm
  have hmk := run_mk n (by omega)
  have HQ0 := Lib.hid (Own.new w (List.replicate n (0 : Int)))
  have HB1 := Lib.hid ((Below.refl w.heap.size w).alloc (Nat.le_refl _) (.cells (ints (List.replicate n 0)).toArray 3))
  go_enter Tryz.func39, Tryz.ntmps39
  go_wp2_with fail
  clear hmk
  obtain ⟨gq, hgq⟩ : ∃ gq, w.heap.size = gq := ⟨_, rfl⟩
  rw [hgq] at HQ0
  have HGQ := Lib.hid hgq
  rw [hgq]
  generalize w.alloc (.cells (ints (List.replicate n 0)).toArray 3) = w1 at *
  clear hgq
  go_loopw [7, 8] (fun rv iv wr => ∃ (j : Nat) (Q : List Int) (r : Int) (R : Option Addr) (k c : Nat), j ≤ n ∧ iv = .int .i64 ((j : Int) - 1) ∧ rv = .slice R k c ∧ OverAt a b j Q r ∧ Own wr gq Q ∧ Sl wr R k c (digs r.toNat) ∧ Below w.heap.size w wr) (fun _ iv _ => (intOf iv + 1).toNat)
  case atStart => exact ⟨n, _, 0, none, 0, 0, Nat.le_refl _, rfl, rfl, ST.out, HQ0.out, by rw [show digs (0 : Int).toNat = [] from digs_zero]; exact Sl.nil _, HB1.out⟩
  case round =>
    obtain ⟨j, Q, r, R, k, c, hj, rfl, rfl, ho, hq1, hr, hbw⟩ := hrel
    have HO := Lib.hid ho
    have HQ := Lib.hid hq1
    have HR := Lib.hid hr
    have HB := Lib.hid hbw
    have hk : k ≤ m := by have := rest_short ho.r0 ho.r1 HBM.out; rw [hr.len] at this; exact this
    have ck := hr.cap
    have ct := hr.top
    clear ho hq1 hr hbw HQ0 HB1 ST
    by_cases h0 : 0 < j
    · obtain ⟨i, rfl⟩ : ∃ i, j = i + 1 := ⟨j - 1, by omega⟩
      obtain ⟨g, o, x, rfl, hg, hx, hxe⟩ := (ha.below HB.out).at_ (show i < n by omega)
      rw [show ((i + 1 : Nat) : Int) - 1 = (i : Int) from by omega]
      have p1 : (i : Int) < (n : Int) := by omega
      have p3 : (0 : Int) ≤ (i : Int) := by omega
      have dx := dOk_getD da i
      rw [hxe.out] at dx
      obtain ⟨x0, x1⟩ := dx
      have HE := Lib.hid (own_new (w := wr) (l := [x]) wr.heap.size (Nat.le_refl _) (by simp))
      have HB2 := Lib.hid (HB.out.alloc HB.out.size (.cells (ints [x]).toArray 3))
      have HA2 := Lib.hid ((Below.refl wr.heap.size wr).alloc (Nat.le_refl _) (.cells (ints [x]).toArray 3))
      have HVX : Hid (val (x :: digs r.toNat) = a.getD i 0 + 10000 * r) := by
        show val (x :: digs r.toNat) = a.getD i 0 + 10000 * r
        rw [hxe.out]
        have := HO.out.r0
        simp only [val, val_digs]
        omega
      have HDX : Hid (dOk (x :: digs r.toNat)) := dOk_cons.2 ⟨⟨x0, x1⟩, digs_ok _⟩
      have HL1 := Lib.hid (HQ.out.lt)
      go_upto_region 6 with fail
      go_cut [7] (fun rv wx => ∃ (R : Option Addr) (k c : Nat), rv = .slice R k c ∧ Own wx gq Q ∧ Sl wx R k c (digs (a.getD i 0 + 10000 * r).toNat) ∧ Far R k gq ∧ Below w.heap.size w wx)
      case first =>
        have fin : ∀ (w2 w3 : World) (A2 T : Option Addr) (q t : Nat), Below wr.heap.size wr w2 → Sl w2 T q t (digs (val (x :: digs r.toNat)).toNat) → (q = 0 ∨ T = A2) → (∀ ad, A2 = some ad → wr.heap.size ≤ ad.block) → w2 = w3 →
            ∃ (R : Option Addr) (k c : Nat), Value.slice T q t = .slice R k c ∧ Own w3 gq Q ∧ Sl w3 R k c (digs (a.getD i 0 + 10000 * r).toNat) ∧ Far R k gq ∧ Below w.heap.size w w3 := by
          intro w2 w3 A2 T q t hb2 hs2 hal hge he
          subst he
          refine ⟨T, q, t, rfl, HQ.out.below hb2, by rw [← HVX.out]; exact hs2, fun hq' ad had => ?_, HB.out.trans (hb2.mono HB.out.size)⟩
          have hlt := HL1.out
          rcases hal with h | h
          · omega
          · have := hge ad (by rw [← h]; exact had)
            omega
        have FIN := Lib.hid fin
        clear fin
        cases R with
        | none =>
          have hk0 : k = 0 := by
            rcases Nat.eq_zero_or_pos k with h | h
            · exact h
            · obtain ⟨_, _, e, _⟩ := HR.out.cells h; cases e
          have HD0 : Hid (digs r.toNat = []) := List.eq_nil_of_length_eq_zero (by rw [HR.out.len]; exact hk0)
          have HSX := Lib.hid (sl_of_own' HE.out)
          rw [HD0.out] at FIN HDX
          subst hk0
          go_wp2_with (at_builtin; refine wpList_append_nil _ rfl _ _ 22 rfl wr.heap.size 3 i0 1 Tryz.underlying22 hi _ 1 _ rfl HE.out c rfl ?_)
          obtain ⟨A3, c3, e3, hs3⟩ := HSX.out
          cases e3
          go_wp2_with fail
          (refine (r3trim_al _ _ _ [x] _ hs3 HDX.out).mono ?_; rintro e w3 ⟨T, q, t, rfl, hT, hal, he3⟩)
          go_wp2_with fail
          go_meet
          exact FIN.out _ _ _ _ _ _ HA2.out hT hal (fun ad had => by cases had; exact Nat.le_refl _) he3
        | some ad =>
          have HLn : Hid ((ints (digs r.toNat)).length = k * 1) := by show _ = _; rw [ints_len, HR.out.len, Nat.mul_one]
          have HN : Hid (∀ (j : Nat) (u : Value), (ints (digs r.toNat))[j]? = some u → (wr.alloc (.cells (ints [x]).toArray 3)).cell? (ad.add j) = some u) := by
            intro j u hj
            have hjl : j < (digs r.toNat).length := by
              have := (List.getElem?_eq_some_iff.1 hj).1
              rwa [ints_len] at this
            rw [ints_at hjl] at hj
            injection hj with hj
            subst hj
            have hs4 := HR.out.alloc (.cells (ints [x]).toArray 3)
            obtain ⟨g4, o4, e4, _, hc4⟩ := hs4.cells (by rw [← HR.out.len]; omega)
            cases e4
            rw [addr_add]
            exact hc4 j (by rw [← HR.out.len]; exact hjl)
          go_wp2_with (at_builtin; refine wpList_append_own_at _ rfl _ _ 22 rfl wr.heap.size 3 i0 (.int .i64 0) 1 8 Tryz.underlying22 hi hz0 hz1 hz2 rfl (by decide) _ _ _ rfl HE.out ad k _ (ints (digs r.toNat)) rfl HLn.out ?k1 ?k2 ?k3 ?k4 ?k5 ?_)
          try (case k1 => exact HN.out)
          try (case k2 => exact ints_one _)
          case k3 => show 1 + k ≤ maxLen; unfold maxLen; omega
          try (case k4 => first | omega | (show 1 + k ≤ _; omega) | (simp; omega))
          try (case k5 => first | (rw [alloc_sz]; omega) | omega)
          intro v' w' hown' hg' hnn hat
          have hbl : Below wr.heap.size wr w' := HA2.out.grown hg' (by rw [alloc_sz]; omega) (fun k hk => by cases hk; exact Nat.le_refl _)
          have HBL := Lib.hid hbl
          have hown2 : w'.ownsRow wr.heap.size 3 1 v' (1 + k) (ints (x :: digs r.toNat)) := by simpa [ints] using hown'
          obtain ⟨A3, c3, rfl, hs3⟩ := sl_of_own' hown2
          have HGE : Hid (∀ ad, A3 = some ad → wr.heap.size ≤ ad.block) := fun ad had => own_row_ge hown2 (k := ad.block) (by rw [had]; rfl)
          have HS3 := Lib.hid hs3
          clear hown' hown2 hg' hnn hat hbl hs3
          go_wp2_with fail
          (refine (r3trim_al _ _ _ (x :: digs r.toNat) _ HS3.out HDX.out).mono ?_; rintro e w3 ⟨T, q, t, rfl, hT, hal, he3⟩)
          go_wp2_with fail
          go_meet
          exact FIN.out _ _ _ _ _ _ HBL.out hT hal HGE.out he3
      case rest =>
        obtain ⟨R', k', c', rfl, hq2, hr2, hf2, hb2⟩ := hcut
        have hr0 := HO.out.r0
        have hr1 := HO.out.r1
        have HSK := Lib.hid (HO.out.skip (by rw [la.out]; omega))
        have HSP := Lib.hid (fun q => HO.out.step (q := q) (by rw [la.out]; omega))
        have HQL := Lib.hid HO.out.len
        obtain ⟨V, hV⟩ : ∃ V, a.getD i 0 + 10000 * r = V := ⟨_, rfl⟩
        rw [hV] at hr2 HSK
        simp only [hV] at HSP
        rw [hxe.out] at hV HSK
        have V0 : 0 ≤ V := by omega
        have V1 : V < 10000 * val b := by omega
        have HV := Lib.hid hV
        have HQ := Lib.hid hq2
        have HR := Lib.hid hr2
        have HF := Lib.hid hf2
        have HB := Lib.hid hb2
        have HVal : Hid (val (digs V.toNat) = V) := by
          show val (digs V.toNat) = V
          rw [val_digs]; omega
        have hkm : k' ≤ m + 1 := by
          have h1 : (digs V.toNat).length ≤ m + 1 := digs_len_le (by rw [pw_succ]; have := HBM.out; omega)
          rw [HR.out.len] at h1; exact h1
        have ck' := HR.out.cap
        have ct' := HR.out.top
        clear hV hq2 hr2 hf2 hb2 HB2 HA2 HVX HDX HE HL1
        go_wp2_with fail
        (refine (r3less_any R' B k' c' m cm (digs V.toNat) b _ HR.out (hb.below HB.out) (digs_ok _) db (digs_top _) tb).mono ?_; rintro e w3 ⟨rfl, q0, rfl⟩)
        rw [HVal.out]
        have HQ := Lib.hid (show Own (wc.drewN q0) gq Q from HQ.out)
        have HR := Lib.hid (HR.out.drewN q0)
        have HB := Lib.hid (below_drewN HB.out q0)
        generalize wc.drewN q0 = w4 at *
        by_cases hlt : V < val b
        · have HN := Lib.hid (HSK.out x0 hlt)
          have h' : decide (V < val b) = true := decide_eq_true hlt
          rw [h']
          go_wp2_with fail
          go_roundw
          case rel => exact ⟨i, Q, V, R', k', c', by omega, rfl, rfl, HN.out, HQ.out, HR.out, HB.out⟩
          case measure => simp [intOf] <;> omega
        · have h' : decide (V < val b) = false := decide_eq_false hlt
          rw [h']
          have HNL := Lib.hid hlt
          go_wp2_with fail
          go_loopw [9, 10] (fun lv hv wr2 => ∃ lo hi : Int, lv = .int .i64 lo ∧ hv = .int .i64 hi ∧ 0 ≤ lo ∧ lo ≤ hi ∧ hi ≤ 9999 ∧ lo * val b ≤ V ∧ V < (hi + 1) * val b ∧ Below w4.heap.size w4 wr2) (fun lv hv _ => (intOf hv - intOf lv).toNat)
          case atStart => exact ⟨0, 9999, rfl, rfl, by omega, by omega, by omega, by rw [Int.zero_mul]; omega, by omega, Below.refl _ _⟩
          case round =>
            obtain ⟨lo, hi', rfl, rfl, lo0, lohi, hi9, hlo, hhi, hbe⟩ := hrel
            have HLO := Lib.hid hlo
            have HHI := Lib.hid hhi
            have HBE := Lib.hid hbe
            have HQ := Lib.hid (HQ.out.below hbe)
            have HR := Lib.hid (HR.out.below hbe)
            have HB := Lib.hid (below_on HB.out hbe)
            clear hlo hhi hbe
            by_cases hll : lo < hi'
            · obtain ⟨d0, d1⟩ := half_mid hll
              have s1 : 0 ≤ lo + hi' + 1 := by omega
              have s2 : lo + hi' + 1 ≤ 20000 := by omega
              have HMD : Hid (∀ d, 0 ≤ d → val (digs (val b * d * pw 0).toNat) = val b * d) := by
                intro d hd
                rw [val_digs, pw_zero, Int.mul_one]
                have := Int.mul_nonneg (a := val b) (b := d) (by have := HB0.out; omega) hd
                omega
              go_wp2_with fail
              generalize hd : (lo + hi' + 1) / 2 = d at *
              (refine (r3digit_any B m cm b d 0 0 _ (hb.below HB.out) db (by omega) (by omega) (by omega) (by omega) rfl).mono ?_; rintro e w5 ⟨T, q, t, rfl, hT, hb5⟩)
              have HT := Lib.hid hT
              have HBE := Lib.hid (below_on HBE.out hb5)
              have HR := Lib.hid (HR.out.below hb5)
              clear hT hb5
              go_wp2_with fail
              (refine (r3less_any R' T k' c' q t (digs V.toNat) (digs (val b * d * pw 0).toNat) _ HR.out HT.out (digs_ok _) (digs_ok _) (digs_top _) (digs_top _)).mono ?_; rintro e w6 ⟨rfl, q1, rfl⟩)
              rw [HVal.out, HMD.out d (by omega)]
              by_cases hc : V < val b * d
              · have h'' : decide (V < val b * d) = true := decide_eq_true hc
                rw [h'']
                have HC := Lib.hid hc
                clear hc
                go_wp2_with fail
                go_roundw
                case rel => exact ⟨lo, d - 1, rfl, rfl, by omega, by omega, by omega, HLO.out, by rw [show d - 1 + 1 = d by omega, Int.mul_comm]; exact HC.out, below_drewN HBE.out q1⟩
                case measure => simp [intOf] <;> omega
              · have h'' : decide (V < val b * d) = false := decide_eq_false hc
                rw [h'']
                have HC : Hid (val b * d ≤ V) := (by omega : val b * d ≤ V)
                clear hc
                go_wp2_with fail
                go_roundw
                case rel => exact ⟨d, hi', rfl, rfl, by omega, by omega, by omega, by rw [Int.mul_comm]; exact HC.out, HHI.out, below_drewN HBE.out q1⟩
                case measure => simp [intOf] <;> omega
            · obtain rfl : lo = hi' := by omega
              have HST := Lib.hid (HSP.out lo lo0 (by omega) HLO.out HHI.out)
              have hcl := HQ.out.cell (k := i) (by rw [HQL.out, la.out]; omega)
              have hfz := HQ.out.frozen i
              have HQ := Lib.hid (HQ.out.set_ i lo)
              have HBT := Lib.hid ((But.refl gq wr).setCell i (.int .i64 lo))
              have HR := Lib.hid (HR.out.but HBT.out HF.out)
              have HBb := Lib.hid ((hb.below HB.out).but HBT.out (hb.far (by rw [HGQ.out]; exact Nat.le_refl _)))
              have HB := Lib.hid (HB.out.setCell (p := ⟨gq, i, none⟩) (by rw [HGQ.out]; exact Nat.le_refl _) (.int .i64 lo))
              have HMD : Hid (val (digs (val b * lo * pw 0).toNat) = val b * lo) := by
                show val (digs (val b * lo * pw 0).toNat) = val b * lo
                rw [val_digs, pw_zero, Int.mul_one]
                have := Int.mul_nonneg (a := val b) (b := lo) (by have := HB0.out; omega) lo0
                omega
              have HLE : Hid (val b * lo ≤ V) := by show val b * lo ≤ V; rw [Int.mul_comm]; exact HLO.out
              go_wp2_with fail
              (refine (r3digit_any B m cm b lo 0 0 _ HBb.out db (by omega) (by omega) (by omega) (by omega) rfl).mono ?_; rintro e w5 ⟨T, q, t, rfl, hT, hb5⟩)
              have HT := Lib.hid hT
              have HQ := Lib.hid (HQ.out.below hb5)
              have HR := Lib.hid (HR.out.below hb5)
              have HB := Lib.hid (below_on HB.out hb5)
              have hqk : q ≤ k' := by
                rw [← hT.len, ← HR.out.len]
                refine digs_len_le ?_
                have h1 := digs_len_lt (n := V.toNat) (k := (digs V.toNat).length) (Nat.le_refl _)
                have h2 := HMD.out
                rw [val_digs] at h2
                have := HLE.out
                omega
              clear hT hb5 hcl hfz
              go_wp2_with fail
              (refine (r3minus_any R' T k' c' q t (digs V.toNat) (digs (val b * lo * pw 0).toNat) _ HR.out HT.out (digs_ok _) (digs_ok _) (by omega) hqk (by rw [HVal.out, HMD.out]; exact HLE.out)).mono ?_; rintro e w6 ⟨S, l, s, rfl, hS, hb6⟩)
              rw [HVal.out, HMD.out, Int.mul_comm (val b)] at hS
              have HS := Lib.hid hS
              have HQ := Lib.hid (HQ.out.below hb6)
              have HB := Lib.hid (below_on HB.out hb6)
              clear hS hb6
              go_wp2_with fail
              go_roundw
              case rel => exact ⟨i, _, _, S, l, s, by omega, rfl, rfl, HST.out, HQ.out, HS.out, HB.out⟩
              case measure => simp [intOf] <;> omega
    · obtain rfl : j = 0 := by omega
      have HD := Lib.hid HO.out.done
      have HQL := Lib.hid HO.out.len
      have HSQ := Lib.hid (HQ.out.all (n := n) (c := n) (by rw [HO.out.len, la.out]) (Nat.le_refl _) (by omega))
      have HOK := Lib.hid HO.out.ok
      go_wp2_with fail
      (refine (r3trim_any (some ⟨gq, 0, none⟩) n n Q _ HSQ.out HOK.out).mono ?_; rintro e w3 ⟨T, q, t, rfl, hT, rfl⟩)
      rw [HD.out.1] at hT
      have HT := Lib.hid hT
      clear hT
      go_wp2_with fail
      go_ret2
      exact ⟨_, _, _, _, _, _, rfl, HT.out, by rw [← HD.out.2]; exact HR.out, HB.out⟩
end Go.Proofs.YtfenmogbellhdaaGreatDoor

namespace Go.Proofs.YtfenmogbellhdaaGreatDoor
open Go.RowKit

theorem len_mod {x y : Nat} (hy : 0 < y) : (digs (x % y)).length ≤ (digs y).length := by
  refine digs_len_le ?_
  have h1 := Nat.mod_lt x hy
  have h2 := digs_len_lt (n := y) (k := (digs y).length) (Nat.le_refl _)
  omega
set_option maxHeartbeats 1000000 in
/-- The greatest common divisor of numbers. -/
theorem r3common_any (A B : Option Addr) (n cn m cm : Nat) (x y : Nat) (w : World) (ha : Sl w A n cn (digs x)) (hb : Sl w B m cm (digs y)) (n1 : n ≤ 900) (m1 : m ≤ 900) :
    Calls Tryz.prog 57 #[.slice A n cn, .slice B m cm] w fun e w' => ∃ R k r, e = .returned (.slice R k r) ∧ Sl w' R k r (digs (Nat.gcd x y)) ∧ Below w.heap.size w w' := by
  go_enter Tryz.func57, Tryz.ntmps57
  go_wp2_with fail
  go_loopg [0, 1] y (fun gk s0 s1 wr => ∃ (A' : Option Addr) (n' c' : Nat) (B' : Option Addr) (m' d' u : Nat), s0 = .slice A' n' c' ∧ s1 = .slice B' m' d' ∧ Sl wr A' n' c' (digs u) ∧ Sl wr B' m' d' (digs gk) ∧ Nat.gcd u gk = Nat.gcd x y ∧ n' ≤ 900 ∧ m' ≤ 900 ∧ Below w.heap.size w wr)
  case atStart => exact ⟨A, n, cn, B, m, cm, x, rfl, rfl, ha, hb, rfl, n1, m1, Below.refl _ _⟩
  case round =>
    obtain ⟨A', n', c', B', m', d', u, rfl, rfl, hs1, hs2, hg, l3, l4, hbw⟩ := hrel
    have S1 := Lib.hid hs1
    have S2 := Lib.hid hs2
    have HG := Lib.hid hg
    have BW := Lib.hid hbw
    clear hs1 hs2 hg hbw
    rcases Nat.eq_zero_or_pos m' with h0 | h0
    · have hgk : Hid (gk = 0) := digs_eq_nil.1 (List.eq_nil_of_length_eq_zero (by rw [S2.out.len]; exact h0))
      have HX : Hid (u = Nat.gcd x y) := by
        have := HG.out
        rw [hgk.out, Nat.gcd_zero_right] at this
        exact this
      have h1 : ¬ (0 : Int) < (m' : Int) := by omega
      go_wp2_with fail
      go_ret
      exact ⟨A', n', c', rfl, by rw [← HX.out]; exact S1.out, BW.out⟩
    · have hgk : 0 < gk := by
        refine Nat.pos_of_ne_zero fun e => ?_
        have := S2.out.len
        rw [e, digs_zero] at this; simp at this; omega
      have HM := Lib.hid (Nat.mod_lt u hgk)
      have HN := Lib.hid (show Nat.gcd gk (u % gk) = Nat.gcd x y by rw [← HG.out, Nat.gcd_comm u gk, Nat.gcd_rec gk u, Nat.gcd_comm])
      have h1 : (0 : Int) < (m' : Int) := by omega
      go_wp2_with fail
      (refine (r3over_any A' B' n' c' m' d' (digs u) (digs gk) _ S1.out S2.out (digs_ok _) (digs_ok _) (digs_top _) (by rw [val_digs]; omega) l3 l4).mono ?_; rintro e w5 ⟨Q, kq, rq, U, ul, us, rfl, hQ, hR, hb⟩)
      rw [val_digs, val_digs, ← Int.natCast_emod, Int.toNat_natCast] at hR
      have SU := Lib.hid hR
      have S5 := Lib.hid (S2.out.below hb)
      have B5 := Lib.hid (BW.out.trans (hb.mono BW.out.size))
      have HL : Hid (ul ≤ m') := by
        have := len_mod (x := u) hgk
        rw [SU.out.len, S2.out.len] at this
        exact this
      clear hQ hR hb
      go_wp2_with fail
      go_roundg (u % gk)
      case rel => exact ⟨B', m', d', U, ul, us, gk, rfl, rfl, S5.out, SU.out, HN.out, l4, Nat.le_trans HL.out l4, B5.out⟩
      case measure => exact HM.out
theorem gcd_digs (p q : Int) : digs (Nat.gcd p.natAbs q.natAbs) = lOf (gZ p q) := by unfold gZ lOf; rw [Int.natAbs_natCast]
/-- The digits of a part in lowest terms. -/
theorem lo_digs_l {p q : Int} (hq : q ≠ 0) : digs ((p.natAbs : Int) / (Nat.gcd p.natAbs q.natAbs : Nat)).toNat = lOf (loN p q) := by
  have h := congrArg Int.natAbs (lo_mul_l (p := p) hq)
  rw [Int.natAbs_mul, natAbs_gs] at h
  unfold lOf
  congr 1
  have hg : 0 < Nat.gcd p.natAbs q.natAbs := Nat.gcd_pos_of_pos_right _ (by omega)
  rw [← Int.natCast_ediv, Int.toNat_natCast]
  exact Nat.div_eq_of_eq_mul_right hg h.symm
theorem lo_digs_r {p q : Int} (hq : q ≠ 0) : digs ((q.natAbs : Int) / (Nat.gcd p.natAbs q.natAbs : Nat)).toNat = lOf (loD p q) := by
  have h := congrArg Int.natAbs (lo_mul_r (p := p) hq)
  rw [Int.natAbs_mul, natAbs_gs] at h
  unfold lOf
  congr 1
  have hg : 0 < Nat.gcd p.natAbs q.natAbs := Nat.gcd_pos_of_pos_right _ (by omega)
  rw [← Int.natCast_ediv, Int.toNat_natCast]
  exact Nat.div_eq_of_eq_mul_right hg h.symm
theorem lo_sign {p q : Int} (hq : q ≠ 0) : (nOf p != nOf q && decide (0 < (lOf (loN p q)).length)) = nOf (loN p q) ∧ nOf (loD p q) = false := by
  have h1 := lo_mul_l (p := p) hq
  have hd := loD_pos (p := p) hq
  have hgp := gZ_pos' (p := p) hq
  refine ⟨?_, decide_eq_false (by omega)⟩
  by_cases h0 : loN p q = 0
  · rw [h0, lOf_zero]; simp [nOf]
  · have hl : 0 < (lOf (loN p q)).length := by
      rcases Nat.eq_zero_or_pos (lOf (loN p q)).length with h | h
      · exact absurd (lOf_nil.1 (List.eq_nil_of_length_eq_zero h)) h0
      · exact h
    rw [decide_eq_true hl, Bool.and_true]
    unfold nOf
    by_cases hqn : q < 0
    · rw [gs_neg hqn, Int.neg_mul] at h1
      rcases (by omega : loN p q < 0 ∨ 0 < loN p q) with h | h
      · have := Int.mul_pos hgp (show 0 < -loN p q by omega)
        rw [Int.mul_neg] at this
        simp [hqn, h]; omega
      · have := Int.mul_pos hgp h
        simp [hqn, show ¬ loN p q < 0 by omega]; omega
    · rw [gs_pos hqn] at h1
      rcases (by omega : loN p q < 0 ∨ 0 < loN p q) with h | h
      · have := Int.mul_pos hgp (show 0 < -loN p q by omega)
        rw [Int.mul_neg] at this
        simp [hqn, h]; omega
      · have := Int.mul_pos hgp h
        simp [hqn, show ¬ loN p q < 0 by omega]; omega

set_option maxHeartbeats 4000000 in
/-- The reference's lowest, of integers of any size. -/
theorem r3lowest_any (p q : Int) (A B : Option Addr) (n c m d : Nat) (w : World) (ha : Sl w A n c (lOf p)) (hb : Sl w B m d (lOf q)) (n1 : n ≤ 900) (m1 : m ≤ 900) :
    Calls Tryz.prog 32 #[.agg #[.bool (nOf (p)), .slice A n c], .agg #[.bool (nOf (q)), .slice B m d]] w fun e w' => ∃ T k r U l s, e = .returned (.tuple #[.agg #[.bool (nOf (resN p q)), .slice T k r, .bool (nOf (resD p q)), .slice U l s], .bool (resB p q)]) ∧ Sl w' T k r (lOf (resN p q)) ∧ Sl w' U l s (lOf (resD p q)) ∧ Below w.heap.size w w' := by
  have S1 := Lib.hid ha
  have S2 := Lib.hid hb
  clear ha hb
  by_cases h0 : q = 0
  · have H0 := Lib.hid h0
    have hm : m = 0 := by have := S2.out.len; rw [h0, lOf_zero] at this; simpa using this.symm
    have hm1 : ((m : Int) == 0) = true := by simp [hm]
    clear h0 hm
    have BW := Lib.hid (Below.refl w.heap.size w)
    go_enter Tryz.func32, Tryz.ntmps32
    go_upto_region 1 with fail
    have S1 := Lib.hid (S1.out.alloc (.cells #[.bool (nOf (p)), .slice A n c] 24))
    have S2 := Lib.hid (S2.out.alloc (.cells #[.bool (nOf (p)), .slice A n c] 24))
    have BW := Lib.hid (BW.out.alloc BW.out.size (.cells #[.bool (nOf (p)), .slice A n c] 24))
    have X1 := Lib.hid (Bk.new 24 w #[.bool (nOf (p)), .slice A n c])
    have S1 := Lib.hid (S1.out.alloc (.cells #[.bool (nOf (q)), .slice B m d] 24))
    have S2 := Lib.hid (S2.out.alloc (.cells #[.bool (nOf (q)), .slice B m d] 24))
    have BW := Lib.hid (BW.out.alloc BW.out.size (.cells #[.bool (nOf (q)), .slice B m d] 24))
    have X1 := Lib.hid (X1.out.alloc (.cells #[.bool (nOf (q)), .slice B m d] 24))
    have X2 := Lib.hid (Bk.new 24 (w.alloc (.cells #[.bool (nOf (p)), .slice A n c] 24)) #[.bool (nOf (q)), .slice B m d])
    rw [alloc_sz] at X2
    have S1 := Lib.hid (S1.out.alloc (.cells #[.bool false, .slice none 0 0, .bool false, .slice none 0 0] 26))
    have S2 := Lib.hid (S2.out.alloc (.cells #[.bool false, .slice none 0 0, .bool false, .slice none 0 0] 26))
    have BW := Lib.hid (BW.out.alloc BW.out.size (.cells #[.bool false, .slice none 0 0, .bool false, .slice none 0 0] 26))
    have X1 := Lib.hid (X1.out.alloc (.cells #[.bool false, .slice none 0 0, .bool false, .slice none 0 0] 26))
    have X2 := Lib.hid (X2.out.alloc (.cells #[.bool false, .slice none 0 0, .bool false, .slice none 0 0] 26))
    have X3 := Lib.hid (Bk.new 26 ((w.alloc (.cells #[.bool (nOf (p)), .slice A n c] 24)).alloc (.cells #[.bool (nOf (q)), .slice B m d] 24)) #[.bool false, .slice none 0 0, .bool false, .slice none 0 0])
    rw [alloc_sz, alloc_sz] at X3
    generalize (((w.alloc (.cells #[.bool (nOf (p)), .slice A n c] 24)).alloc (.cells #[.bool (nOf (q)), .slice B m d] 24)).alloc (.cells #[.bool false, .slice none 0 0, .bool false, .slice none 0 0] 26)) = W0 at *
    have e0 : W0.cell? ⟨w.heap.size + 1, 0, none⟩ = some (.bool (nOf (q))) := X2.out.c 0 rfl
    have e1 : W0.cell? ⟨w.heap.size + 1, 1, none⟩ = some (.slice B m d) := X2.out.c 1 rfl
    have RB : resB p q = false := by rw [H0.out]; rfl
    have E := Lib.hid (res_no RB)
    have EB := Lib.hid RB
    clear RB
    have e0 : W0.cell? ⟨w.heap.size + 1 + 1, 0, none⟩ = some (.bool false) := X3.out.c 0 rfl
    have e1 : W0.cell? ⟨w.heap.size + 1 + 1, 1, none⟩ = some (.slice none 0 0) := X3.out.c 1 rfl
    have e2 : W0.cell? ⟨w.heap.size + 1 + 1, 2, none⟩ = some (.bool false) := X3.out.c 2 rfl
    have e3 : W0.cell? ⟨w.heap.size + 1 + 1, 3, none⟩ = some (.slice none 0 0) := X3.out.c 3 rfl
    have z4 := X3.out.fz 0
    have z5 := X3.out.fz 1
    have z6 := X3.out.fz 2
    have z7 := X3.out.fz 3
    go_wp2_with fail
    refine bodyPost_ret (v := .tuple #[.agg #[.bool false, .slice none 0 0, .bool false, .slice none 0 0], .bool false]) (by simp [results, Tryz.results32, go_sem, *]) rfl ⟨none, 0, 0, none, 0, 0, ?_, ?_, ?_, below_set4 BW.out (by omega) _ _ _ _⟩
    · rw [E.out.1, E.out.2, EB.out]; rfl
    · rw [E.out.1, lOf_zero]; exact Sl.nil _
    · rw [E.out.2, lOf_zero]; exact Sl.nil _
  · have H0 := Lib.hid h0
    have hm : m ≠ 0 := fun h => h0 (lOf_nil.1 (List.eq_nil_of_length_eq_zero (by rw [S2.out.len]; exact h)))
    have hm1 : ((m : Int) == 0) = false := by simp [hm]
    clear h0 hm
    have BW := Lib.hid (Below.refl w.heap.size w)
    go_enter Tryz.func32, Tryz.ntmps32
    go_upto_region 1 with fail
    have S1 := Lib.hid (S1.out.alloc (.cells #[.bool (nOf (p)), .slice A n c] 24))
    have S2 := Lib.hid (S2.out.alloc (.cells #[.bool (nOf (p)), .slice A n c] 24))
    have BW := Lib.hid (BW.out.alloc BW.out.size (.cells #[.bool (nOf (p)), .slice A n c] 24))
    have X1 := Lib.hid (Bk.new 24 w #[.bool (nOf (p)), .slice A n c])
    have S1 := Lib.hid (S1.out.alloc (.cells #[.bool (nOf (q)), .slice B m d] 24))
    have S2 := Lib.hid (S2.out.alloc (.cells #[.bool (nOf (q)), .slice B m d] 24))
    have BW := Lib.hid (BW.out.alloc BW.out.size (.cells #[.bool (nOf (q)), .slice B m d] 24))
    have X1 := Lib.hid (X1.out.alloc (.cells #[.bool (nOf (q)), .slice B m d] 24))
    have X2 := Lib.hid (Bk.new 24 (w.alloc (.cells #[.bool (nOf (p)), .slice A n c] 24)) #[.bool (nOf (q)), .slice B m d])
    rw [alloc_sz] at X2
    have S1 := Lib.hid (S1.out.alloc (.cells #[.bool false, .slice none 0 0, .bool false, .slice none 0 0] 26))
    have S2 := Lib.hid (S2.out.alloc (.cells #[.bool false, .slice none 0 0, .bool false, .slice none 0 0] 26))
    have BW := Lib.hid (BW.out.alloc BW.out.size (.cells #[.bool false, .slice none 0 0, .bool false, .slice none 0 0] 26))
    have X1 := Lib.hid (X1.out.alloc (.cells #[.bool false, .slice none 0 0, .bool false, .slice none 0 0] 26))
    have X2 := Lib.hid (X2.out.alloc (.cells #[.bool false, .slice none 0 0, .bool false, .slice none 0 0] 26))
    have X3 := Lib.hid (Bk.new 26 ((w.alloc (.cells #[.bool (nOf (p)), .slice A n c] 24)).alloc (.cells #[.bool (nOf (q)), .slice B m d] 24)) #[.bool false, .slice none 0 0, .bool false, .slice none 0 0])
    rw [alloc_sz, alloc_sz] at X3
    generalize (((w.alloc (.cells #[.bool (nOf (p)), .slice A n c] 24)).alloc (.cells #[.bool (nOf (q)), .slice B m d] 24)).alloc (.cells #[.bool false, .slice none 0 0, .bool false, .slice none 0 0] 26)) = W0 at *
    have e0 : W0.cell? ⟨w.heap.size, 0, none⟩ = some (.bool (nOf (p))) := X1.out.c 0 rfl
    have e1 : W0.cell? ⟨w.heap.size, 1, none⟩ = some (.slice A n c) := X1.out.c 1 rfl
    have e2 : W0.cell? ⟨w.heap.size + 1, 0, none⟩ = some (.bool (nOf (q))) := X2.out.c 0 rfl
    have e3 : W0.cell? ⟨w.heap.size + 1, 1, none⟩ = some (.slice B m d) := X2.out.c 1 rfl
    go_wp2_with fail
    ((with_reducible refine (r3common_any A B n c m d p.natAbs q.natAbs _ S1.out S2.out n1 m1).mono ?_); rintro e w1 ⟨R, k, r, rfl, hs, hb⟩)
    clear e0 e1 e2 e3
    have S1 := Lib.hid (S1.out.below hb)
    have S2 := Lib.hid (S2.out.below hb)
    have BW := Lib.hid (below_on BW.out hb)
    have X1 := Lib.hid (X1.out.below hb)
    have X2 := Lib.hid (X2.out.below hb)
    have X3 := Lib.hid (X3.out.below hb)
    clear hb
    have S3 := Lib.hid hs
    clear hs
    have HGP : Hid (0 < Nat.gcd p.natAbs q.natAbs) := Nat.gcd_pos_of_pos_right _ (by have := H0.out; omega)
    have hk : k ≤ 900 := by
      have h1 : (digs (Nat.gcd p.natAbs q.natAbs)).length ≤ (digs q.natAbs).length := by
        refine digs_len_le ?_
        have h2 := digs_len_lt (n := q.natAbs) (k := (digs q.natAbs).length) (Nat.le_refl _)
        have h3 := Nat.gcd_le_right p.natAbs (n := q.natAbs) (by have := H0.out; omega)
        omega
      have h4 : (digs q.natAbs).length = m := S2.out.len
      rw [S3.out.len] at h1
      omega
    have e0 : w1.cell? ⟨w.heap.size, 0, none⟩ = some (.bool (nOf (p))) := X1.out.c 0 rfl
    have e1 : w1.cell? ⟨w.heap.size, 1, none⟩ = some (.slice A n c) := X1.out.c 1 rfl
    have e2 : w1.cell? ⟨w.heap.size + 1, 0, none⟩ = some (.bool (nOf (q))) := X2.out.c 0 rfl
    have e3 : w1.cell? ⟨w.heap.size + 1, 1, none⟩ = some (.slice B m d) := X2.out.c 1 rfl
    go_wp2_with fail
    ((with_reducible refine (r3over_any A R n c k r (digs p.natAbs) (digs (Nat.gcd p.natAbs q.natAbs)) _ S1.out S3.out (digs_ok _) (digs_ok _) (digs_top _) (by rw [val_digs]; have := HGP.out; omega) n1 hk).mono ?_); rintro e w2 ⟨T2, k2, i2, U2, l2, j2, rfl, hs, ht, hb⟩)
    rw [val_digs, val_digs, lo_digs_l H0.out] at hs
    clear e0 e1 e2 e3
    have S1 := Lib.hid (S1.out.below hb)
    have S2 := Lib.hid (S2.out.below hb)
    have BW := Lib.hid (below_on BW.out hb)
    have X1 := Lib.hid (X1.out.below hb)
    have X2 := Lib.hid (X2.out.below hb)
    have X3 := Lib.hid (X3.out.below hb)
    have S3 := Lib.hid (S3.out.below hb)
    clear hb ht
    have Q2 := Lib.hid hs
    clear hs
    have e0 : w2.cell? ⟨w.heap.size, 0, none⟩ = some (.bool (nOf (p))) := X1.out.c 0 rfl
    have e1 : w2.cell? ⟨w.heap.size, 1, none⟩ = some (.slice A n c) := X1.out.c 1 rfl
    have e2 : w2.cell? ⟨w.heap.size + 1, 0, none⟩ = some (.bool (nOf (q))) := X2.out.c 0 rfl
    have e3 : w2.cell? ⟨w.heap.size + 1, 1, none⟩ = some (.slice B m d) := X2.out.c 1 rfl
    go_wp2_with fail
    ((with_reducible refine (r3over_any B R m d k r (digs q.natAbs) (digs (Nat.gcd p.natAbs q.natAbs)) _ S2.out S3.out (digs_ok _) (digs_ok _) (digs_top _) (by rw [val_digs]; have := HGP.out; omega) m1 hk).mono ?_); rintro e w3 ⟨T3, k3, i3, U3, l3, j3, rfl, hs, ht, hb⟩)
    rw [val_digs, val_digs, lo_digs_r H0.out] at hs
    clear e0 e1 e2 e3
    have S1 := Lib.hid (S1.out.below hb)
    have S2 := Lib.hid (S2.out.below hb)
    have BW := Lib.hid (below_on BW.out hb)
    have X1 := Lib.hid (X1.out.below hb)
    have X2 := Lib.hid (X2.out.below hb)
    have X3 := Lib.hid (X3.out.below hb)
    have S3 := Lib.hid (S3.out.below hb)
    have Q2 := Lib.hid (Q2.out.below hb)
    clear hb ht
    have Q3 := Lib.hid hs
    clear hs
    have HS := Lib.hid (lo_sign (p := p) H0.out)
    have L2 := Lib.hid Q2.out.len
    have L3 := Lib.hid Q3.out.len
    by_cases f1 : k2 ≤ 200
    · have g1 : ¬ (200 : Int) < (k2 : Int) := by omega
      by_cases f2 : k3 ≤ 200
      · have g2 : ¬ (200 : Int) < (k3 : Int) := by omega
        have RB : resB p q = true := by
          unfold resB fitB
          rw [L2.out, L3.out, decide_eq_true f1, decide_eq_true f2]; simpa using H0.out
        have E := Lib.hid (res_yes RB)
        have EB := Lib.hid RB
        clear RB
        have HSB := HS.out.1
        rw [L2.out] at HSB
        generalize hnb : nOf (loN p q) = nb at *
        have HNB := Lib.hid hnb
        clear hnb
        have HSB := Lib.hid HSB
        rcases Bool.eq_false_or_eq_true (nOf p) with hp | hp
        · have HPP := Lib.hid hp
          clear hp
          rw [HPP.out] at X1
          rcases Bool.eq_false_or_eq_true (nOf q) with hq | hq
          · have HQQ := Lib.hid hq
            clear hq
            rw [HQQ.out] at X2
            have HNV : Hid (nb = false) := by show nb = false; rw [← HSB.out, HPP.out, HQQ.out]; rfl
            have e0 : w3.cell? ⟨w.heap.size, 0, none⟩ = some (.bool true) := X1.out.c 0 rfl
            have e1 : w3.cell? ⟨w.heap.size, 1, none⟩ = some (.slice A n c) := X1.out.c 1 rfl
            have e2 : w3.cell? ⟨w.heap.size + 1, 0, none⟩ = some (.bool true) := X2.out.c 0 rfl
            have e3 : w3.cell? ⟨w.heap.size + 1, 1, none⟩ = some (.slice B m d) := X2.out.c 1 rfl
            have e4 : w3.cell? ⟨w.heap.size + 1 + 1, 0, none⟩ = some (.bool false) := X3.out.c 0 rfl
            have e5 : w3.cell? ⟨w.heap.size + 1 + 1, 1, none⟩ = some (.slice none 0 0) := X3.out.c 1 rfl
            have e6 : w3.cell? ⟨w.heap.size + 1 + 1, 2, none⟩ = some (.bool false) := X3.out.c 2 rfl
            have e7 : w3.cell? ⟨w.heap.size + 1 + 1, 3, none⟩ = some (.slice none 0 0) := X3.out.c 3 rfl
            have z8 := X3.out.fz 0
            have z9 := X3.out.fz 1
            have z10 := X3.out.fz 2
            have z11 := X3.out.fz 3
            go_wp2_with fail
            refine bodyPost_ret (v := .tuple #[.agg #[.bool false, .slice T2 k2 i2, .bool false, .slice T3 k3 i3], .bool true]) (by simp [results, Tryz.results32, go_sem, *]) rfl ⟨T2, k2, i2, T3, k3, i3, ?_, ?_, ?_, below_set4 BW.out (by omega) _ _ _ _⟩
            · rw [E.out.1, E.out.2, EB.out, HS.out.2, HNB.out, HNV.out]
            · rw [E.out.1]; exact Q2.out.bk4 X3.out _ _ _ _
            · rw [E.out.2]; exact Q3.out.bk4 X3.out _ _ _ _
          · have HQQ := Lib.hid hq
            clear hq
            rw [HQQ.out] at X2
            by_cases u2 : 0 < k2
            · have HNV : Hid (nb = true) := by show nb = true; rw [← HSB.out, HPP.out, HQQ.out]; simp [u2]
              have u3 : (0 : Int) < (k2 : Int) := by omega
              have e0 : w3.cell? ⟨w.heap.size, 0, none⟩ = some (.bool true) := X1.out.c 0 rfl
              have e1 : w3.cell? ⟨w.heap.size, 1, none⟩ = some (.slice A n c) := X1.out.c 1 rfl
              have e2 : w3.cell? ⟨w.heap.size + 1, 0, none⟩ = some (.bool false) := X2.out.c 0 rfl
              have e3 : w3.cell? ⟨w.heap.size + 1, 1, none⟩ = some (.slice B m d) := X2.out.c 1 rfl
              have e4 : w3.cell? ⟨w.heap.size + 1 + 1, 0, none⟩ = some (.bool false) := X3.out.c 0 rfl
              have e5 : w3.cell? ⟨w.heap.size + 1 + 1, 1, none⟩ = some (.slice none 0 0) := X3.out.c 1 rfl
              have e6 : w3.cell? ⟨w.heap.size + 1 + 1, 2, none⟩ = some (.bool false) := X3.out.c 2 rfl
              have e7 : w3.cell? ⟨w.heap.size + 1 + 1, 3, none⟩ = some (.slice none 0 0) := X3.out.c 3 rfl
              have z8 := X3.out.fz 0
              have z9 := X3.out.fz 1
              have z10 := X3.out.fz 2
              have z11 := X3.out.fz 3
              go_wp2_with fail
              refine bodyPost_ret (v := .tuple #[.agg #[.bool true, .slice T2 k2 i2, .bool false, .slice T3 k3 i3], .bool true]) (by simp [results, Tryz.results32, go_sem, *]) rfl ⟨T2, k2, i2, T3, k3, i3, ?_, ?_, ?_, below_set4 BW.out (by omega) _ _ _ _⟩
              · rw [E.out.1, E.out.2, EB.out, HS.out.2, HNB.out, HNV.out]
              · rw [E.out.1]; exact Q2.out.bk4 X3.out _ _ _ _
              · rw [E.out.2]; exact Q3.out.bk4 X3.out _ _ _ _
            · have HNV : Hid (nb = false) := by show nb = false; rw [← HSB.out, HPP.out, HQQ.out]; simp [u2]
              have u3 : ¬ (0 : Int) < (k2 : Int) := by omega
              have e0 : w3.cell? ⟨w.heap.size, 0, none⟩ = some (.bool true) := X1.out.c 0 rfl
              have e1 : w3.cell? ⟨w.heap.size, 1, none⟩ = some (.slice A n c) := X1.out.c 1 rfl
              have e2 : w3.cell? ⟨w.heap.size + 1, 0, none⟩ = some (.bool false) := X2.out.c 0 rfl
              have e3 : w3.cell? ⟨w.heap.size + 1, 1, none⟩ = some (.slice B m d) := X2.out.c 1 rfl
              have e4 : w3.cell? ⟨w.heap.size + 1 + 1, 0, none⟩ = some (.bool false) := X3.out.c 0 rfl
              have e5 : w3.cell? ⟨w.heap.size + 1 + 1, 1, none⟩ = some (.slice none 0 0) := X3.out.c 1 rfl
              have e6 : w3.cell? ⟨w.heap.size + 1 + 1, 2, none⟩ = some (.bool false) := X3.out.c 2 rfl
              have e7 : w3.cell? ⟨w.heap.size + 1 + 1, 3, none⟩ = some (.slice none 0 0) := X3.out.c 3 rfl
              have z8 := X3.out.fz 0
              have z9 := X3.out.fz 1
              have z10 := X3.out.fz 2
              have z11 := X3.out.fz 3
              go_wp2_with fail
              refine bodyPost_ret (v := .tuple #[.agg #[.bool false, .slice T2 k2 i2, .bool false, .slice T3 k3 i3], .bool true]) (by simp [results, Tryz.results32, go_sem, *]) rfl ⟨T2, k2, i2, T3, k3, i3, ?_, ?_, ?_, below_set4 BW.out (by omega) _ _ _ _⟩
              · rw [E.out.1, E.out.2, EB.out, HS.out.2, HNB.out, HNV.out]
              · rw [E.out.1]; exact Q2.out.bk4 X3.out _ _ _ _
              · rw [E.out.2]; exact Q3.out.bk4 X3.out _ _ _ _
        · have HPP := Lib.hid hp
          clear hp
          rw [HPP.out] at X1
          rcases Bool.eq_false_or_eq_true (nOf q) with hq | hq
          · have HQQ := Lib.hid hq
            clear hq
            rw [HQQ.out] at X2
            by_cases u2 : 0 < k2
            · have HNV : Hid (nb = true) := by show nb = true; rw [← HSB.out, HPP.out, HQQ.out]; simp [u2]
              have u3 : (0 : Int) < (k2 : Int) := by omega
              have e0 : w3.cell? ⟨w.heap.size, 0, none⟩ = some (.bool false) := X1.out.c 0 rfl
              have e1 : w3.cell? ⟨w.heap.size, 1, none⟩ = some (.slice A n c) := X1.out.c 1 rfl
              have e2 : w3.cell? ⟨w.heap.size + 1, 0, none⟩ = some (.bool true) := X2.out.c 0 rfl
              have e3 : w3.cell? ⟨w.heap.size + 1, 1, none⟩ = some (.slice B m d) := X2.out.c 1 rfl
              have e4 : w3.cell? ⟨w.heap.size + 1 + 1, 0, none⟩ = some (.bool false) := X3.out.c 0 rfl
              have e5 : w3.cell? ⟨w.heap.size + 1 + 1, 1, none⟩ = some (.slice none 0 0) := X3.out.c 1 rfl
              have e6 : w3.cell? ⟨w.heap.size + 1 + 1, 2, none⟩ = some (.bool false) := X3.out.c 2 rfl
              have e7 : w3.cell? ⟨w.heap.size + 1 + 1, 3, none⟩ = some (.slice none 0 0) := X3.out.c 3 rfl
              have z8 := X3.out.fz 0
              have z9 := X3.out.fz 1
              have z10 := X3.out.fz 2
              have z11 := X3.out.fz 3
              go_wp2_with fail
              refine bodyPost_ret (v := .tuple #[.agg #[.bool true, .slice T2 k2 i2, .bool false, .slice T3 k3 i3], .bool true]) (by simp [results, Tryz.results32, go_sem, *]) rfl ⟨T2, k2, i2, T3, k3, i3, ?_, ?_, ?_, below_set4 BW.out (by omega) _ _ _ _⟩
              · rw [E.out.1, E.out.2, EB.out, HS.out.2, HNB.out, HNV.out]
              · rw [E.out.1]; exact Q2.out.bk4 X3.out _ _ _ _
              · rw [E.out.2]; exact Q3.out.bk4 X3.out _ _ _ _
            · have HNV : Hid (nb = false) := by show nb = false; rw [← HSB.out, HPP.out, HQQ.out]; simp [u2]
              have u3 : ¬ (0 : Int) < (k2 : Int) := by omega
              have e0 : w3.cell? ⟨w.heap.size, 0, none⟩ = some (.bool false) := X1.out.c 0 rfl
              have e1 : w3.cell? ⟨w.heap.size, 1, none⟩ = some (.slice A n c) := X1.out.c 1 rfl
              have e2 : w3.cell? ⟨w.heap.size + 1, 0, none⟩ = some (.bool true) := X2.out.c 0 rfl
              have e3 : w3.cell? ⟨w.heap.size + 1, 1, none⟩ = some (.slice B m d) := X2.out.c 1 rfl
              have e4 : w3.cell? ⟨w.heap.size + 1 + 1, 0, none⟩ = some (.bool false) := X3.out.c 0 rfl
              have e5 : w3.cell? ⟨w.heap.size + 1 + 1, 1, none⟩ = some (.slice none 0 0) := X3.out.c 1 rfl
              have e6 : w3.cell? ⟨w.heap.size + 1 + 1, 2, none⟩ = some (.bool false) := X3.out.c 2 rfl
              have e7 : w3.cell? ⟨w.heap.size + 1 + 1, 3, none⟩ = some (.slice none 0 0) := X3.out.c 3 rfl
              have z8 := X3.out.fz 0
              have z9 := X3.out.fz 1
              have z10 := X3.out.fz 2
              have z11 := X3.out.fz 3
              go_wp2_with fail
              refine bodyPost_ret (v := .tuple #[.agg #[.bool false, .slice T2 k2 i2, .bool false, .slice T3 k3 i3], .bool true]) (by simp [results, Tryz.results32, go_sem, *]) rfl ⟨T2, k2, i2, T3, k3, i3, ?_, ?_, ?_, below_set4 BW.out (by omega) _ _ _ _⟩
              · rw [E.out.1, E.out.2, EB.out, HS.out.2, HNB.out, HNV.out]
              · rw [E.out.1]; exact Q2.out.bk4 X3.out _ _ _ _
              · rw [E.out.2]; exact Q3.out.bk4 X3.out _ _ _ _
          · have HQQ := Lib.hid hq
            clear hq
            rw [HQQ.out] at X2
            have HNV : Hid (nb = false) := by show nb = false; rw [← HSB.out, HPP.out, HQQ.out]; rfl
            have e0 : w3.cell? ⟨w.heap.size, 0, none⟩ = some (.bool false) := X1.out.c 0 rfl
            have e1 : w3.cell? ⟨w.heap.size, 1, none⟩ = some (.slice A n c) := X1.out.c 1 rfl
            have e2 : w3.cell? ⟨w.heap.size + 1, 0, none⟩ = some (.bool false) := X2.out.c 0 rfl
            have e3 : w3.cell? ⟨w.heap.size + 1, 1, none⟩ = some (.slice B m d) := X2.out.c 1 rfl
            have e4 : w3.cell? ⟨w.heap.size + 1 + 1, 0, none⟩ = some (.bool false) := X3.out.c 0 rfl
            have e5 : w3.cell? ⟨w.heap.size + 1 + 1, 1, none⟩ = some (.slice none 0 0) := X3.out.c 1 rfl
            have e6 : w3.cell? ⟨w.heap.size + 1 + 1, 2, none⟩ = some (.bool false) := X3.out.c 2 rfl
            have e7 : w3.cell? ⟨w.heap.size + 1 + 1, 3, none⟩ = some (.slice none 0 0) := X3.out.c 3 rfl
            have z8 := X3.out.fz 0
            have z9 := X3.out.fz 1
            have z10 := X3.out.fz 2
            have z11 := X3.out.fz 3
            go_wp2_with fail
            refine bodyPost_ret (v := .tuple #[.agg #[.bool false, .slice T2 k2 i2, .bool false, .slice T3 k3 i3], .bool true]) (by simp [results, Tryz.results32, go_sem, *]) rfl ⟨T2, k2, i2, T3, k3, i3, ?_, ?_, ?_, below_set4 BW.out (by omega) _ _ _ _⟩
            · rw [E.out.1, E.out.2, EB.out, HS.out.2, HNB.out, HNV.out]
            · rw [E.out.1]; exact Q2.out.bk4 X3.out _ _ _ _
            · rw [E.out.2]; exact Q3.out.bk4 X3.out _ _ _ _
      · have g2 : (200 : Int) < (k3 : Int) := by omega
        have e0 : w3.cell? ⟨w.heap.size, 0, none⟩ = some (.bool (nOf (p))) := X1.out.c 0 rfl
        have e1 : w3.cell? ⟨w.heap.size, 1, none⟩ = some (.slice A n c) := X1.out.c 1 rfl
        have e2 : w3.cell? ⟨w.heap.size + 1, 0, none⟩ = some (.bool (nOf (q))) := X2.out.c 0 rfl
        have e3 : w3.cell? ⟨w.heap.size + 1, 1, none⟩ = some (.slice B m d) := X2.out.c 1 rfl
        have RB : resB p q = false := by unfold resB fitB; rw [L2.out, L3.out, decide_eq_false f2, Bool.and_false, Bool.and_false]
        have E := Lib.hid (res_no RB)
        have EB := Lib.hid RB
        clear RB
        have e0 : w3.cell? ⟨w.heap.size + 1 + 1, 0, none⟩ = some (.bool false) := X3.out.c 0 rfl
        have e1 : w3.cell? ⟨w.heap.size + 1 + 1, 1, none⟩ = some (.slice none 0 0) := X3.out.c 1 rfl
        have e2 : w3.cell? ⟨w.heap.size + 1 + 1, 2, none⟩ = some (.bool false) := X3.out.c 2 rfl
        have e3 : w3.cell? ⟨w.heap.size + 1 + 1, 3, none⟩ = some (.slice none 0 0) := X3.out.c 3 rfl
        have z4 := X3.out.fz 0
        have z5 := X3.out.fz 1
        have z6 := X3.out.fz 2
        have z7 := X3.out.fz 3
        go_wp2_with fail
        refine bodyPost_ret (v := .tuple #[.agg #[.bool false, .slice none 0 0, .bool false, .slice none 0 0], .bool false]) (by simp [results, Tryz.results32, go_sem, *]) rfl ⟨none, 0, 0, none, 0, 0, ?_, ?_, ?_, below_set4 BW.out (by omega) _ _ _ _⟩
        · rw [E.out.1, E.out.2, EB.out]; rfl
        · rw [E.out.1, lOf_zero]; exact Sl.nil _
        · rw [E.out.2, lOf_zero]; exact Sl.nil _
    · have g1 : (200 : Int) < (k2 : Int) := by omega
      have RB : resB p q = false := by unfold resB fitB; rw [L2.out, L3.out, decide_eq_false f1, Bool.false_and, Bool.and_false]
      have E := Lib.hid (res_no RB)
      have EB := Lib.hid RB
      clear RB
      have e0 : w3.cell? ⟨w.heap.size + 1 + 1, 0, none⟩ = some (.bool false) := X3.out.c 0 rfl
      have e1 : w3.cell? ⟨w.heap.size + 1 + 1, 1, none⟩ = some (.slice none 0 0) := X3.out.c 1 rfl
      have e2 : w3.cell? ⟨w.heap.size + 1 + 1, 2, none⟩ = some (.bool false) := X3.out.c 2 rfl
      have e3 : w3.cell? ⟨w.heap.size + 1 + 1, 3, none⟩ = some (.slice none 0 0) := X3.out.c 3 rfl
      have z4 := X3.out.fz 0
      have z5 := X3.out.fz 1
      have z6 := X3.out.fz 2
      have z7 := X3.out.fz 3
      go_wp2_with fail
      refine bodyPost_ret (v := .tuple #[.agg #[.bool false, .slice none 0 0, .bool false, .slice none 0 0], .bool false]) (by simp [results, Tryz.results32, go_sem, *]) rfl ⟨none, 0, 0, none, 0, 0, ?_, ?_, ?_, below_set4 BW.out (by omega) _ _ _ _⟩
      · rw [E.out.1, E.out.2, EB.out]; rfl
      · rw [E.out.1, lOf_zero]; exact Sl.nil _
      · rw [E.out.2, lOf_zero]; exact Sl.nil _
end Go.Proofs.YtfenmogbellhdaaGreatDoor

namespace Go.Proofs.YtfenmogbellhdaaGreatDoor
open Go.RowKit

theorem of_res {p q : Int} (hp : fitB p = true) (hq : fitB q = true) : resB p q = (q != 0) ∧ (q ≠ 0 → resN p q = loN p q ∧ resD p q = loD p q) := by
  have e : resB p q = (q != 0) := by
    unfold resB
    by_cases h : q = 0
    · subst h; rfl
    · rw [fit_loN h hp, fit_loD h hq]; simp
  exact ⟨e, fun h => res_yes (by rw [e]; simpa using h)⟩
theorem of_same {na nb : Bool} {xs ys : List Int} (h1 : validB na xs = true) (h2 : validB nb ys = true) : resB (zOf na xs) (zOf nb ys) = ofB na xs nb ys ∧ resN (zOf na xs) (zOf nb ys) = ofN na xs nb ys ∧ resD (zOf na xs) (zOf nb ys) = ofD na xs nb ys := by
  obtain ⟨e1, e2⟩ := of_res (fit_zOf na xs) (fit_zOf nb ys)
  have e : resB (zOf na xs) (zOf nb ys) = ofB na xs nb ys := by unfold ofB; rw [h1, h2, e1]; rfl
  refine ⟨e, ?_⟩
  rcases Bool.eq_false_or_eq_true (ofB na xs nb ys) with h | h
  · rw [(res_yes (e.trans h)).1, (res_yes (e.trans h)).2, (of_yes h).1, (of_yes h).2]; exact ⟨rfl, rfl⟩
  · rw [(res_no (e.trans h)).1, (res_no (e.trans h)).2, (of_no h).1, (of_no h).2]; exact ⟨rfl, rfl⟩
theorem lOf_one : lOf 1 = [1] := digs_one (n := 1) (by omega) (by omega)
set_option maxHeartbeats 2000000 in
theorem r3valid_any (na nb : Bool) (A B : Option Addr) (n c m d : Nat) (xs ys : List Int) (w : World) (ha : Sl w A n c xs) (hb : Sl w B m d ys) :
    Calls Tryz.prog 55 #[.agg #[.bool na, .slice A n c, .bool nb, .slice B m d]] w fun e w' => e = .returned (.bool (validR na xs nb ys)) ∧ Below w.heap.size w w' := by
  have S1 := Lib.hid ha
  have S2 := Lib.hid hb
  clear ha hb
  rcases Bool.eq_false_or_eq_true (validB na xs) with h1 | h1
  · rcases Bool.eq_false_or_eq_true (validB nb ys) with h2 | h2
    · rcases (by omega : zOf nb ys < 0 ∨ zOf nb ys = 0 ∨ 0 < zOf nb ys) with hz | hz | hz
      · have V1 := Lib.hid h1
        have V2 := Lib.hid h2
        obtain ⟨e1, e2⟩ := zOf_valid V1.out
        obtain ⟨e3, e4⟩ := zOf_valid V2.out
        have E1 := Lib.hid e1
        have E2 := Lib.hid e2
        have E3 := Lib.hid e3
        have E4 := Lib.hid e4
        clear e1 e2 e3 e4
        have NB : Hid (nb = true) := by rw [E3.out]; exact decide_eq_true hz
        have VF : Hid (validR na xs nb ys = false) := by show validR na xs nb ys = false; unfold validR; rw [h1, h2, decide_eq_false (show ¬ 0 < zOf nb ys by omega)]; rfl
        clear hz
        clear h1 h2
        have BW := Lib.hid (Below.refl w.heap.size w)
        go_enter Tryz.func55, Tryz.ntmps55
        go_upto_region 1 with fail
        have S1 := Lib.hid (S1.out.alloc (.cells #[.bool na, .slice A n c, .bool nb, .slice B m d] 26))
        have S2 := Lib.hid (S2.out.alloc (.cells #[.bool na, .slice A n c, .bool nb, .slice B m d] 26))
        have BW := Lib.hid (BW.out.alloc BW.out.size (.cells #[.bool na, .slice A n c, .bool nb, .slice B m d] 26))
        have X1 := Lib.hid (Bk.new 26 w #[.bool na, .slice A n c, .bool nb, .slice B m d])
        generalize (w.alloc (.cells #[.bool na, .slice A n c, .bool nb, .slice B m d] 26)) = W0 at *
        rw [NB.out] at X1
        have e0 : W0.cell? ⟨w.heap.size, 0, none⟩ = some (.bool na) := X1.out.c 0 rfl
        have e1 : W0.cell? ⟨w.heap.size, 1, none⟩ = some (.slice A n c) := X1.out.c 1 rfl
        have e2 : W0.cell? ⟨w.heap.size, 2, none⟩ = some (.bool true) := X1.out.c 2 rfl
        have e3 : W0.cell? ⟨w.heap.size, 3, none⟩ = some (.slice B m d) := X1.out.c 3 rfl
        go_wp2_with fail
        ((with_reducible refine (r2valid_any na A n c xs _ S1.out).mono ?_); rintro e w1 ⟨rfl, hb⟩)
        rw [V1.out]
        clear e0 e1 e2 e3
        have S1 := Lib.hid (S1.out.below hb)
        have S2 := Lib.hid (S2.out.below hb)
        have BW := Lib.hid (below_on BW.out hb)
        have X1 := Lib.hid (X1.out.below hb)
        clear hb
        have V2 := Lib.hid (show validB true ys = true by have h := V2.out; rwa [NB.out] at h)
        have e0 : w1.cell? ⟨w.heap.size, 0, none⟩ = some (.bool na) := X1.out.c 0 rfl
        have e1 : w1.cell? ⟨w.heap.size, 1, none⟩ = some (.slice A n c) := X1.out.c 1 rfl
        have e2 : w1.cell? ⟨w.heap.size, 2, none⟩ = some (.bool true) := X1.out.c 2 rfl
        have e3 : w1.cell? ⟨w.heap.size, 3, none⟩ = some (.slice B m d) := X1.out.c 3 rfl
        go_wp2_with fail
        ((with_reducible refine (r2valid_any true B m d ys _ S2.out).mono ?_); rintro e w2 ⟨rfl, hb⟩)
        rw [V2.out]
        clear e0 e1 e2 e3
        have S1 := Lib.hid (S1.out.below hb)
        have S2 := Lib.hid (S2.out.below hb)
        have BW := Lib.hid (below_on BW.out hb)
        have X1 := Lib.hid (X1.out.below hb)
        clear hb
        have e0 : w2.cell? ⟨w.heap.size, 0, none⟩ = some (.bool na) := X1.out.c 0 rfl
        have e1 : w2.cell? ⟨w.heap.size, 1, none⟩ = some (.slice A n c) := X1.out.c 1 rfl
        have e2 : w2.cell? ⟨w.heap.size, 2, none⟩ = some (.bool true) := X1.out.c 2 rfl
        have e3 : w2.cell? ⟨w.heap.size, 3, none⟩ = some (.slice B m d) := X1.out.c 3 rfl
        go_wp2_with fail
        go_ret
        exact ⟨ret_bool (by rw [VF.out]), BW.out⟩
      · have V1 := Lib.hid h1
        have V2 := Lib.hid h2
        obtain ⟨e1, e2⟩ := zOf_valid V1.out
        obtain ⟨e3, e4⟩ := zOf_valid V2.out
        have E1 := Lib.hid e1
        have E2 := Lib.hid e2
        have E3 := Lib.hid e3
        have E4 := Lib.hid e4
        clear e1 e2 e3 e4
        have NB : Hid (nb = false) := by rw [E3.out]; exact decide_eq_false (by omega)
        have hm : m = 0 := by have := S2.out.len; rw [E4.out, hz, lOf_zero] at this; simpa using this.symm
        have hm1 : ((m : Int) == 0) = true := by simp [hm]
        have VF : Hid (validR na xs nb ys = false) := by show validR na xs nb ys = false; unfold validR; rw [h1, h2, decide_eq_false (show ¬ 0 < zOf nb ys by omega)]; rfl
        clear hz hm
        clear h1 h2
        have BW := Lib.hid (Below.refl w.heap.size w)
        go_enter Tryz.func55, Tryz.ntmps55
        go_upto_region 1 with fail
        have S1 := Lib.hid (S1.out.alloc (.cells #[.bool na, .slice A n c, .bool nb, .slice B m d] 26))
        have S2 := Lib.hid (S2.out.alloc (.cells #[.bool na, .slice A n c, .bool nb, .slice B m d] 26))
        have BW := Lib.hid (BW.out.alloc BW.out.size (.cells #[.bool na, .slice A n c, .bool nb, .slice B m d] 26))
        have X1 := Lib.hid (Bk.new 26 w #[.bool na, .slice A n c, .bool nb, .slice B m d])
        generalize (w.alloc (.cells #[.bool na, .slice A n c, .bool nb, .slice B m d] 26)) = W0 at *
        rw [NB.out] at X1
        have e0 : W0.cell? ⟨w.heap.size, 0, none⟩ = some (.bool na) := X1.out.c 0 rfl
        have e1 : W0.cell? ⟨w.heap.size, 1, none⟩ = some (.slice A n c) := X1.out.c 1 rfl
        have e2 : W0.cell? ⟨w.heap.size, 2, none⟩ = some (.bool false) := X1.out.c 2 rfl
        have e3 : W0.cell? ⟨w.heap.size, 3, none⟩ = some (.slice B m d) := X1.out.c 3 rfl
        go_wp2_with fail
        ((with_reducible refine (r2valid_any na A n c xs _ S1.out).mono ?_); rintro e w1 ⟨rfl, hb⟩)
        rw [V1.out]
        clear e0 e1 e2 e3
        have S1 := Lib.hid (S1.out.below hb)
        have S2 := Lib.hid (S2.out.below hb)
        have BW := Lib.hid (below_on BW.out hb)
        have X1 := Lib.hid (X1.out.below hb)
        clear hb
        have V2 := Lib.hid (show validB false ys = true by have h := V2.out; rwa [NB.out] at h)
        have e0 : w1.cell? ⟨w.heap.size, 0, none⟩ = some (.bool na) := X1.out.c 0 rfl
        have e1 : w1.cell? ⟨w.heap.size, 1, none⟩ = some (.slice A n c) := X1.out.c 1 rfl
        have e2 : w1.cell? ⟨w.heap.size, 2, none⟩ = some (.bool false) := X1.out.c 2 rfl
        have e3 : w1.cell? ⟨w.heap.size, 3, none⟩ = some (.slice B m d) := X1.out.c 3 rfl
        go_wp2_with fail
        ((with_reducible refine (r2valid_any false B m d ys _ S2.out).mono ?_); rintro e w2 ⟨rfl, hb⟩)
        rw [V2.out]
        clear e0 e1 e2 e3
        have S1 := Lib.hid (S1.out.below hb)
        have S2 := Lib.hid (S2.out.below hb)
        have BW := Lib.hid (below_on BW.out hb)
        have X1 := Lib.hid (X1.out.below hb)
        clear hb
        have e0 : w2.cell? ⟨w.heap.size, 0, none⟩ = some (.bool na) := X1.out.c 0 rfl
        have e1 : w2.cell? ⟨w.heap.size, 1, none⟩ = some (.slice A n c) := X1.out.c 1 rfl
        have e2 : w2.cell? ⟨w.heap.size, 2, none⟩ = some (.bool false) := X1.out.c 2 rfl
        have e3 : w2.cell? ⟨w.heap.size, 3, none⟩ = some (.slice B m d) := X1.out.c 3 rfl
        go_wp2_with fail
        go_ret
        exact ⟨ret_bool (by rw [VF.out]), BW.out⟩
      · have V1 := Lib.hid h1
        have V2 := Lib.hid h2
        obtain ⟨e1, e2⟩ := zOf_valid V1.out
        obtain ⟨e3, e4⟩ := zOf_valid V2.out
        have E1 := Lib.hid e1
        have E2 := Lib.hid e2
        have E3 := Lib.hid e3
        have E4 := Lib.hid e4
        clear e1 e2 e3 e4
        have HZ := Lib.hid hz
        have NB : Hid (nb = false) := by rw [E3.out]; exact decide_eq_false (by omega)
        have hm : m ≠ 0 := fun h => by
          have := lOf_nil.1 (List.eq_nil_of_length_eq_zero (by rw [← E4.out, S2.out.len]; exact h))
          omega
        have hm1 : ((m : Int) == 0) = false := by simp [hm]
        clear hz hm
        clear h1 h2
        have BW := Lib.hid (Below.refl w.heap.size w)
        go_enter Tryz.func55, Tryz.ntmps55
        go_upto_region 1 with fail
        have S1 := Lib.hid (S1.out.alloc (.cells #[.bool na, .slice A n c, .bool nb, .slice B m d] 26))
        have S2 := Lib.hid (S2.out.alloc (.cells #[.bool na, .slice A n c, .bool nb, .slice B m d] 26))
        have BW := Lib.hid (BW.out.alloc BW.out.size (.cells #[.bool na, .slice A n c, .bool nb, .slice B m d] 26))
        have X1 := Lib.hid (Bk.new 26 w #[.bool na, .slice A n c, .bool nb, .slice B m d])
        generalize (w.alloc (.cells #[.bool na, .slice A n c, .bool nb, .slice B m d] 26)) = W0 at *
        rw [NB.out] at X1
        have e0 : W0.cell? ⟨w.heap.size, 0, none⟩ = some (.bool na) := X1.out.c 0 rfl
        have e1 : W0.cell? ⟨w.heap.size, 1, none⟩ = some (.slice A n c) := X1.out.c 1 rfl
        have e2 : W0.cell? ⟨w.heap.size, 2, none⟩ = some (.bool false) := X1.out.c 2 rfl
        have e3 : W0.cell? ⟨w.heap.size, 3, none⟩ = some (.slice B m d) := X1.out.c 3 rfl
        go_wp2_with fail
        ((with_reducible refine (r2valid_any na A n c xs _ S1.out).mono ?_); rintro e w1 ⟨rfl, hb⟩)
        rw [V1.out]
        clear e0 e1 e2 e3
        have S1 := Lib.hid (S1.out.below hb)
        have S2 := Lib.hid (S2.out.below hb)
        have BW := Lib.hid (below_on BW.out hb)
        have X1 := Lib.hid (X1.out.below hb)
        clear hb
        have V2 := Lib.hid (show validB false ys = true by have h := V2.out; rwa [NB.out] at h)
        have e0 : w1.cell? ⟨w.heap.size, 0, none⟩ = some (.bool na) := X1.out.c 0 rfl
        have e1 : w1.cell? ⟨w.heap.size, 1, none⟩ = some (.slice A n c) := X1.out.c 1 rfl
        have e2 : w1.cell? ⟨w.heap.size, 2, none⟩ = some (.bool false) := X1.out.c 2 rfl
        have e3 : w1.cell? ⟨w.heap.size, 3, none⟩ = some (.slice B m d) := X1.out.c 3 rfl
        go_wp2_with fail
        ((with_reducible refine (r2valid_any false B m d ys _ S2.out).mono ?_); rintro e w2 ⟨rfl, hb⟩)
        rw [V2.out]
        clear e0 e1 e2 e3
        have S1 := Lib.hid (S1.out.below hb)
        have S2 := Lib.hid (S2.out.below hb)
        have BW := Lib.hid (below_on BW.out hb)
        have X1 := Lib.hid (X1.out.below hb)
        clear hb
        rw [E2.out] at S1
        rw [E4.out] at S2
        have L1 := S1.out.fit (fit_zOf _ _)
        have L2 := S2.out.fit (fit_zOf _ _)
        have e0 : w2.cell? ⟨w.heap.size, 0, none⟩ = some (.bool na) := X1.out.c 0 rfl
        have e1 : w2.cell? ⟨w.heap.size, 1, none⟩ = some (.slice A n c) := X1.out.c 1 rfl
        have e2 : w2.cell? ⟨w.heap.size, 2, none⟩ = some (.bool false) := X1.out.c 2 rfl
        have e3 : w2.cell? ⟨w.heap.size, 3, none⟩ = some (.slice B m d) := X1.out.c 3 rfl
        go_wp2_with fail
        ((with_reducible refine (r3common_any A B n c m d (zOf na xs).natAbs (zOf nb ys).natAbs _ S1.out S2.out (by omega) (by omega)).mono ?_); rintro e w3 ⟨R, k, r, rfl, hs, hb⟩)
        rw [gcd_digs] at hs
        clear e0 e1 e2 e3
        have S1 := Lib.hid (S1.out.below hb)
        have S2 := Lib.hid (S2.out.below hb)
        have BW := Lib.hid (below_on BW.out hb)
        have X1 := Lib.hid (X1.out.below hb)
        clear hb
        have S3 := Lib.hid hs
        clear hs
        have VV : Hid (validR na xs nb ys = decide (gZ (zOf na xs) (zOf nb ys) = 1)) := by
          show validR na xs nb ys = _
          unfold validR
          rw [V1.out, show validB nb ys = true by rw [NB.out]; exact V2.out, decide_eq_true HZ.out]; rfl
        have gnn := Lib.hid (gZ_nonneg (zOf na xs) (zOf nb ys))
        generalize gZ (zOf na xs) (zOf nb ys) = gg at *
        by_cases hk : k = 1
        · obtain ⟨g0, o0, x, rfl, hg0, hx, hxe⟩ := S3.out.at_ (show 0 < k by omega)
          have hx0 : w3.cell? ⟨g0, o0, none⟩ = some (.int .i64 x) := hx
          have HL := Lib.hid S3.out.len
          have hk1 : ((k : Int) == 1) = true := by simp [hk]
          have hk2 : (0 : Int) < (k : Int) := by omega
          have HK := Lib.hid hk
          clear hk
          have HD : Hid (decide (gg = 1) = (x == 1)) := by
            show decide (gg = 1) = (x == 1)
            have hl : lOf gg = [x] := by
              have h1 := HL.out
              rw [HK.out] at h1
              obtain ⟨y, hy⟩ := List.length_eq_one_iff.1 h1
              have h2 := hxe.out
              rw [hy] at h2 ⊢
              simp [List.getD] at h2
              rw [h2]
            by_cases h : gg = 1
            · subst h
              rw [lOf_one] at hl
              have : x = 1 := by injection hl with h1; exact h1.symm
              rw [this]; rfl
            · rw [decide_eq_false h]
              cases hx1 : (x == 1) with
              | false => rfl
              | true =>
                exfalso
                have := beq_iff_eq.1 hx1
                subst this
                have h3 := congrArg val hl
                rw [val_lOf, val_one] at h3
                have := gnn.out
                omega
          have e0 : w3.cell? ⟨w.heap.size, 0, none⟩ = some (.bool na) := X1.out.c 0 rfl
          have e1 : w3.cell? ⟨w.heap.size, 1, none⟩ = some (.slice A n c) := X1.out.c 1 rfl
          have e2 : w3.cell? ⟨w.heap.size, 2, none⟩ = some (.bool false) := X1.out.c 2 rfl
          have e3 : w3.cell? ⟨w.heap.size, 3, none⟩ = some (.slice B m d) := X1.out.c 3 rfl
          cases hx1 : (x == 1) with
          | true =>
            rw [hx1] at HD
            go_wp2_with fail
            go_ret
            exact ⟨ret_bool (by rw [VV.out, HD.out]), BW.out⟩
          | false =>
            rw [hx1] at HD
            go_wp2_with fail
            go_ret
            exact ⟨ret_bool (by rw [VV.out, HD.out]), BW.out⟩
        · have hk1 : ((k : Int) == 1) = false := by simp only [beq_eq_false_iff_ne]; omega
          have HD : Hid (decide (gg = 1) = false) := by
            show decide (gg = 1) = false
            refine decide_eq_false fun h => hk ?_
            have h1 := S3.out.len
            rw [h, lOf_one] at h1
            exact h1.symm
          have e0 : w3.cell? ⟨w.heap.size, 0, none⟩ = some (.bool na) := X1.out.c 0 rfl
          have e1 : w3.cell? ⟨w.heap.size, 1, none⟩ = some (.slice A n c) := X1.out.c 1 rfl
          have e2 : w3.cell? ⟨w.heap.size, 2, none⟩ = some (.bool false) := X1.out.c 2 rfl
          have e3 : w3.cell? ⟨w.heap.size, 3, none⟩ = some (.slice B m d) := X1.out.c 3 rfl
          go_wp2_with fail
          go_ret
          exact ⟨ret_bool (by rw [VV.out, HD.out]), BW.out⟩
    · have V1 := Lib.hid h1
      have V2 := Lib.hid h2
      clear h1 h2
      have BW := Lib.hid (Below.refl w.heap.size w)
      go_enter Tryz.func55, Tryz.ntmps55
      go_upto_region 1 with fail
      have S1 := Lib.hid (S1.out.alloc (.cells #[.bool na, .slice A n c, .bool nb, .slice B m d] 26))
      have S2 := Lib.hid (S2.out.alloc (.cells #[.bool na, .slice A n c, .bool nb, .slice B m d] 26))
      have BW := Lib.hid (BW.out.alloc BW.out.size (.cells #[.bool na, .slice A n c, .bool nb, .slice B m d] 26))
      have X1 := Lib.hid (Bk.new 26 w #[.bool na, .slice A n c, .bool nb, .slice B m d])
      generalize (w.alloc (.cells #[.bool na, .slice A n c, .bool nb, .slice B m d] 26)) = W0 at *
      have e0 : W0.cell? ⟨w.heap.size, 0, none⟩ = some (.bool na) := X1.out.c 0 rfl
      have e1 : W0.cell? ⟨w.heap.size, 1, none⟩ = some (.slice A n c) := X1.out.c 1 rfl
      have e2 : W0.cell? ⟨w.heap.size, 2, none⟩ = some (.bool nb) := X1.out.c 2 rfl
      have e3 : W0.cell? ⟨w.heap.size, 3, none⟩ = some (.slice B m d) := X1.out.c 3 rfl
      go_wp2_with fail
      ((with_reducible refine (r2valid_any na A n c xs _ S1.out).mono ?_); rintro e w1 ⟨rfl, hb⟩)
      rw [V1.out]
      clear e0 e1 e2 e3
      have S1 := Lib.hid (S1.out.below hb)
      have S2 := Lib.hid (S2.out.below hb)
      have BW := Lib.hid (below_on BW.out hb)
      have X1 := Lib.hid (X1.out.below hb)
      clear hb
      have e0 : w1.cell? ⟨w.heap.size, 0, none⟩ = some (.bool na) := X1.out.c 0 rfl
      have e1 : w1.cell? ⟨w.heap.size, 1, none⟩ = some (.slice A n c) := X1.out.c 1 rfl
      have e2 : w1.cell? ⟨w.heap.size, 2, none⟩ = some (.bool nb) := X1.out.c 2 rfl
      have e3 : w1.cell? ⟨w.heap.size, 3, none⟩ = some (.slice B m d) := X1.out.c 3 rfl
      go_wp2_with fail
      ((with_reducible refine (r2valid_any nb B m d ys _ S2.out).mono ?_); rintro e w2 ⟨rfl, hb⟩)
      rw [V2.out]
      clear e0 e1 e2 e3
      have S1 := Lib.hid (S1.out.below hb)
      have S2 := Lib.hid (S2.out.below hb)
      have BW := Lib.hid (below_on BW.out hb)
      have X1 := Lib.hid (X1.out.below hb)
      clear hb
      have e0 : w2.cell? ⟨w.heap.size, 0, none⟩ = some (.bool na) := X1.out.c 0 rfl
      have e1 : w2.cell? ⟨w.heap.size, 1, none⟩ = some (.slice A n c) := X1.out.c 1 rfl
      have e2 : w2.cell? ⟨w.heap.size, 2, none⟩ = some (.bool nb) := X1.out.c 2 rfl
      have e3 : w2.cell? ⟨w.heap.size, 3, none⟩ = some (.slice B m d) := X1.out.c 3 rfl
      go_wp2_with fail
      go_ret
      exact ⟨ret_bool (by unfold validR; rw [V1.out, V2.out]; rfl), BW.out⟩
  · have V1 := Lib.hid h1
    clear h1
    have BW := Lib.hid (Below.refl w.heap.size w)
    go_enter Tryz.func55, Tryz.ntmps55
    go_upto_region 1 with fail
    have S1 := Lib.hid (S1.out.alloc (.cells #[.bool na, .slice A n c, .bool nb, .slice B m d] 26))
    have S2 := Lib.hid (S2.out.alloc (.cells #[.bool na, .slice A n c, .bool nb, .slice B m d] 26))
    have BW := Lib.hid (BW.out.alloc BW.out.size (.cells #[.bool na, .slice A n c, .bool nb, .slice B m d] 26))
    have X1 := Lib.hid (Bk.new 26 w #[.bool na, .slice A n c, .bool nb, .slice B m d])
    generalize (w.alloc (.cells #[.bool na, .slice A n c, .bool nb, .slice B m d] 26)) = W0 at *
    have e0 : W0.cell? ⟨w.heap.size, 0, none⟩ = some (.bool na) := X1.out.c 0 rfl
    have e1 : W0.cell? ⟨w.heap.size, 1, none⟩ = some (.slice A n c) := X1.out.c 1 rfl
    have e2 : W0.cell? ⟨w.heap.size, 2, none⟩ = some (.bool nb) := X1.out.c 2 rfl
    have e3 : W0.cell? ⟨w.heap.size, 3, none⟩ = some (.slice B m d) := X1.out.c 3 rfl
    go_wp2_with fail
    ((with_reducible refine (r2valid_any na A n c xs _ S1.out).mono ?_); rintro e w1 ⟨rfl, hb⟩)
    rw [V1.out]
    clear e0 e1 e2 e3
    have S1 := Lib.hid (S1.out.below hb)
    have S2 := Lib.hid (S2.out.below hb)
    have BW := Lib.hid (below_on BW.out hb)
    have X1 := Lib.hid (X1.out.below hb)
    clear hb
    have e0 : w1.cell? ⟨w.heap.size, 0, none⟩ = some (.bool na) := X1.out.c 0 rfl
    have e1 : w1.cell? ⟨w.heap.size, 1, none⟩ = some (.slice A n c) := X1.out.c 1 rfl
    have e2 : w1.cell? ⟨w.heap.size, 2, none⟩ = some (.bool nb) := X1.out.c 2 rfl
    have e3 : w1.cell? ⟨w.heap.size, 3, none⟩ = some (.slice B m d) := X1.out.c 3 rfl
    go_wp2_with fail
    go_ret
    exact ⟨ret_bool (by unfold validR; rw [V1.out]; rfl), BW.out⟩

end Go.Proofs.YtfenmogbellhdaaGreatDoor
