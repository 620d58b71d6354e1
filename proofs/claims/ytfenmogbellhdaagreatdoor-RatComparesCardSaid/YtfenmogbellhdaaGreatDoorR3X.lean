/-
  The reference's plus, times, product, right, whole, opposite, Floor, Ceil, Add, Cmp, Text (layers 2 and 3).
-/
import Derived.Test.YtfenmogbellhdaaGreatDoorR3M
import Derived.Test.YtfenmogbellhdaaGreatDoorRatE
import Derived.Test.YtfenmogbellhdaaGreatDoorRatF
import Derived.Test.YtfenmogbellhdaaGreatDoorBigRM
import Derived.Test.YtfenmogbellhdaaGreatDoorBigTextMath
import Derived.Test.YtfenmogbellhdaaGreatDoorBigU
import Derived.Test.YtfenmogbellhdaaGreatDoorBigV
import Derived.Test.YtfenmogbellhdaaGreatDoorRatW
import Derived.Test.YtfenmogbellhdaaGreatDoorRatH

namespace Go.Proofs.YtfenmogbellhdaaGreatDoor
open Go.RowKit

set_option maxRecDepth 100000 in
set_option maxHeartbeats 2000000 in
theorem r3plus_any (A B : Option Addr) (n cn m cm : Nat) (a b : List Int) (w : World) (ha : Sl w A n cn a) (hb : Sl w B m cm b) (da : dOk a) (db : dOk b) (n1 : n ≤ 2000) (m1 : m ≤ 2000) :
    Calls Tryz.prog 40 #[.slice A n cn, .slice B m cm] w fun e w' => ∃ R k r, e = .returned (.slice R k r) ∧ Sl w' R k r (digs (val a + val b).toNat) ∧ Below w.heap.size w w' := by
  obtain ⟨i0, hi, hz0, hz1, hz2⟩ := info_parts int_info
  have la := Lib.hid ha.len
  have lb := Lib.hid hb.len
  have ht := ha.top
  have ht2 := hb.top
  have hq := ha.cap
  have hq2 := hb.cap
  go_enter Tryz.func40, Tryz.ntmps40
  go_wp2_with fail
  go_loopw [5, 6, 7] (fun ov cv iv wr => ∃ (k : Nat) (c : Int) (l : List Int), k ≤ max n m + 1 ∧ iv = .int .i64 (k : Int) ∧ cv = .int .i64 c ∧ PlusAt a b k l c ∧ wr.ownsRow w.heap.size 3 1 ov l.length (ints l) ∧ Below w.heap.size w wr ∧ (max n m < k → c = 0)) (fun _ _ iv _ => max n m + 2 - (intOf iv).toNat)
  case atStart => exact ⟨0, 0, [], by omega, rfl, rfl, PlusAt.start a b, own_nil _ _, Below.refl _ _, fun h => rfl⟩
  case round =>
    obtain ⟨k, c, l, hk, rfl, rfl, hp, hown, hbw, hcz⟩ := hrel
    have HP := Lib.hid hp
    have HO := Lib.hid hown
    have HB := Lib.hid hbw
    have HCZ := Lib.hid hcz
    clear hp hbw hcz
    have hl0 := HP.out.lo
    have hl1 := HP.out.hi
    have hll : l.length ≤ 5000 := by have := HP.out.len; omega
    have HZA : Hid (¬ k < n → a.getD k 0 = 0) := fun h => by simp [List.getD, show a.length ≤ k by rw [la.out]; omega]
    have HZB : Hid (¬ k < m → b.getD k 0 = 0) := fun h => by simp [List.getD, show b.length ≤ k by rw [lb.out]; omega]
    have pb := HP.out.bd da db
    have HST := Lib.hid (HP.out.step da db)
    have g2 : (0 : Int) ≤ (k : Int) := by omega
    have da1 := dOk_getD da k
    have db1 := dOk_getD db k
    by_cases h1 : k < n
    · by_cases h2 : k < m
      · skip
        obtain ⟨g, o, x, rfl, hg', hx, hxe⟩ := (ha.below HB.out).at_ h1
        have g1 : (k : Int) < (n : Int) := by omega
        rw [hxe.out] at da1
        obtain ⟨x0, x1⟩ := da1
        obtain ⟨g3, o3, y, rfl, hg3, hy, hye⟩ := (hb.below HB.out).at_ h2
        have g3 : (k : Int) < (m : Int) := by omega
        rw [hye.out] at db1
        obtain ⟨y0, y1⟩ := db1
        have HPL : Hid (plusP a b k c = c + x + y) := by
          show plusP a b k c = c + x + y
          unfold plusP
          rw [hxe.out, hye.out]; omega
        rw [HPL.out] at pb HST
        obtain ⟨p0, p1⟩ := pb
        clear hown
        have q1 : 0 ≤ c + x := by omega
        have q2 : c + x ≤ 20000 := by omega
        have hkm : k ≤ max n m := by omega
        go_wp2_with (at_builtin; refine wpList_append_own_at _ rfl _ _ 22 rfl w.heap.size 3 i0 (.int .i64 0) 1 8 Tryz.underlying22 hi hz0 hz1 hz2 rfl (by decide) _ _ _ rfl (HO.out.alloc _) ⟨wr.heap.size, 0, none⟩ 1 1 [.int .i64 ((c + x + y) % 10000)] rfl rfl ?k1011 ?k1012 ?k1013 ?k1014 ?k1015 ?_)
        try (case k1011 => exact one_cell wr _)
        case k1012 => first | exact ints_one [_] | rfl
        case k1013 => unfold maxLen; omega
        case k1014 => omega
        case k1015 => first | (rw [alloc_sz]; have := HB.out.size; omega) | (have := HB.out.size; omega)
        intro v' w' hown' hg hnn hat
        have HO' : Hid (w'.ownsRow w.heap.size 3 1 v' (l ++ [(c + x + y) % 10000]).length (ints (l ++ [(c + x + y) % 10000]))) := by
          show w'.ownsRow _ _ _ _ _ _
          rw [List.length_append, ints_app]
          exact hown'
        have HB' : Hid (Below w.heap.size w w') := (HB.out.alloc HB.out.size _).grown hg (by rw [alloc_sz]; have := HB.out.size; omega) (fun k hk => own_row_ge HO.out (k := k) hk)
        clear hown' hg hnn hat
        go_wp2_with fail
        go_roundw
        case rel => exact ⟨k + 1, _, l ++ [(c + x + y) % 10000], by omega, by go_num, rfl, HST.out, HO'.out, HB'.out, fun hk => by omega⟩
        case measure => simp [intOf] <;> omega
      · skip
        obtain ⟨g, o, x, rfl, hg', hx, hxe⟩ := (ha.below HB.out).at_ h1
        have g1 : (k : Int) < (n : Int) := by omega
        rw [hxe.out] at da1
        obtain ⟨x0, x1⟩ := da1
        have g3 : decide ((k : Int) < (m : Int)) = false := decide_eq_false (by omega)
        clear db1
        have HPL : Hid (plusP a b k c = c + x) := by
          show plusP a b k c = c + x
          unfold plusP
          rw [hxe.out, HZB.out h2]; omega
        rw [HPL.out] at pb HST
        obtain ⟨p0, p1⟩ := pb
        clear hown
        have hkm : k ≤ max n m := by omega
        go_wp2_with (at_builtin; refine wpList_append_own_at _ rfl _ _ 22 rfl w.heap.size 3 i0 (.int .i64 0) 1 8 Tryz.underlying22 hi hz0 hz1 hz2 rfl (by decide) _ _ _ rfl (HO.out.alloc _) ⟨wr.heap.size, 0, none⟩ 1 1 [.int .i64 ((c + x) % 10000)] rfl rfl ?k1021 ?k1022 ?k1023 ?k1024 ?k1025 ?_)
        try (case k1021 => exact one_cell wr _)
        case k1022 => first | exact ints_one [_] | rfl
        case k1023 => unfold maxLen; omega
        case k1024 => omega
        case k1025 => first | (rw [alloc_sz]; have := HB.out.size; omega) | (have := HB.out.size; omega)
        intro v' w' hown' hg hnn hat
        have HO' : Hid (w'.ownsRow w.heap.size 3 1 v' (l ++ [(c + x) % 10000]).length (ints (l ++ [(c + x) % 10000]))) := by
          show w'.ownsRow _ _ _ _ _ _
          rw [List.length_append, ints_app]
          exact hown'
        have HB' : Hid (Below w.heap.size w w') := (HB.out.alloc HB.out.size _).grown hg (by rw [alloc_sz]; have := HB.out.size; omega) (fun k hk => own_row_ge HO.out (k := k) hk)
        clear hown' hg hnn hat
        go_wp2_with fail
        go_roundw
        case rel => exact ⟨k + 1, _, l ++ [(c + x) % 10000], by omega, by go_num, rfl, HST.out, HO'.out, HB'.out, fun hk => by omega⟩
        case measure => simp [intOf] <;> omega
    · by_cases h2 : k < m
      · skip
        have g1 : decide ((k : Int) < (n : Int)) = false := decide_eq_false (by omega)
        clear da1
        obtain ⟨g3, o3, y, rfl, hg3, hy, hye⟩ := (hb.below HB.out).at_ h2
        have g3 : (k : Int) < (m : Int) := by omega
        rw [hye.out] at db1
        obtain ⟨y0, y1⟩ := db1
        have HPL : Hid (plusP a b k c = c + y) := by
          show plusP a b k c = c + y
          unfold plusP
          rw [HZA.out h1, hye.out]; omega
        rw [HPL.out] at pb HST
        obtain ⟨p0, p1⟩ := pb
        clear hown
        have hkm : k ≤ max n m := by omega
        go_wp2_with (at_builtin; refine wpList_append_own_at _ rfl _ _ 22 rfl w.heap.size 3 i0 (.int .i64 0) 1 8 Tryz.underlying22 hi hz0 hz1 hz2 rfl (by decide) _ _ _ rfl (HO.out.alloc _) ⟨wr.heap.size, 0, none⟩ 1 1 [.int .i64 ((c + y) % 10000)] rfl rfl ?k1031 ?k1032 ?k1033 ?k1034 ?k1035 ?_)
        try (case k1031 => exact one_cell wr _)
        case k1032 => first | exact ints_one [_] | rfl
        case k1033 => unfold maxLen; omega
        case k1034 => omega
        case k1035 => first | (rw [alloc_sz]; have := HB.out.size; omega) | (have := HB.out.size; omega)
        intro v' w' hown' hg hnn hat
        have HO' : Hid (w'.ownsRow w.heap.size 3 1 v' (l ++ [(c + y) % 10000]).length (ints (l ++ [(c + y) % 10000]))) := by
          show w'.ownsRow _ _ _ _ _ _
          rw [List.length_append, ints_app]
          exact hown'
        have HB' : Hid (Below w.heap.size w w') := (HB.out.alloc HB.out.size _).grown hg (by rw [alloc_sz]; have := HB.out.size; omega) (fun k hk => own_row_ge HO.out (k := k) hk)
        clear hown' hg hnn hat
        go_wp2_with fail
        go_roundw
        case rel => exact ⟨k + 1, _, l ++ [(c + y) % 10000], by omega, by go_num, rfl, HST.out, HO'.out, HB'.out, fun hk => by omega⟩
        case measure => simp [intOf] <;> omega
      · by_cases hc : 0 < c
        · have hkm : k ≤ max n m := by
            refine Nat.not_lt.1 fun h => ?_
            have := HCZ.out h
            omega
          have g1 : decide ((k : Int) < (n : Int)) = false := decide_eq_false (by omega)
          clear da1
          have g3 : decide ((k : Int) < (m : Int)) = false := decide_eq_false (by omega)
          clear db1
          have HPL : Hid (plusP a b k c = c) := by
            show plusP a b k c = c
            unfold plusP
            rw [HZA.out h1, HZB.out h2]; omega
          rw [HPL.out] at pb HST
          obtain ⟨p0, p1⟩ := pb
          clear hown
          go_wp2_with (at_builtin; refine wpList_append_own_at _ rfl _ _ 22 rfl w.heap.size 3 i0 (.int .i64 0) 1 8 Tryz.underlying22 hi hz0 hz1 hz2 rfl (by decide) _ _ _ rfl (HO.out.alloc _) ⟨wr.heap.size, 0, none⟩ 1 1 [.int .i64 (c % 10000)] rfl rfl ?k1041 ?k1042 ?k1043 ?k1044 ?k1045 ?_)
          try (case k1041 => exact one_cell wr _)
          case k1042 => first | exact ints_one [_] | rfl
          case k1043 => unfold maxLen; omega
          case k1044 => omega
          case k1045 => first | (rw [alloc_sz]; have := HB.out.size; omega) | (have := HB.out.size; omega)
          intro v' w' hown' hg hnn hat
          have HO' : Hid (w'.ownsRow w.heap.size 3 1 v' (l ++ [c % 10000]).length (ints (l ++ [c % 10000]))) := by
            show w'.ownsRow _ _ _ _ _ _
            rw [List.length_append, ints_app]
            exact hown'
          have HB' : Hid (Below w.heap.size w w') := (HB.out.alloc HB.out.size _).grown hg (by rw [alloc_sz]; have := HB.out.size; omega) (fun k hk => own_row_ge HO.out (k := k) hk)
          clear hown' hg hnn hat
          go_wp2_with fail
          go_roundw
          case rel => exact ⟨k + 1, _, l ++ [c % 10000], by omega, by go_num, rfl, HST.out, HO'.out, HB'.out, fun hk => by omega⟩
          case measure => simp [intOf] <;> omega
        · obtain rfl : c = 0 := by omega
          obtain ⟨A', c', rfl, hs⟩ := sl_of_own hown
          have HS := Lib.hid hs
          have HV := Lib.hid (HP.out.done (by rw [la.out]; omega) (by rw [lb.out]; omega))
          have g1 : decide ((k : Int) < (n : Int)) = false := decide_eq_false (by omega)
          have g3 : decide ((k : Int) < (m : Int)) = false := decide_eq_false (by omega)
          clear hown hs HO pb da1 db1
          go_wp2_with fail
          (refine (r3trim_any A' l.length c' l _ HS.out HP.out.ok).mono ?_; rintro e w3 ⟨R, q, r, rfl, hR, rfl⟩)
          rw [HV.out] at hR
          have HR := Lib.hid hR
          clear hR
          go_wp2_with fail
          go_ret
          exact ⟨_, _, _, rfl, HR.out, HB.out⟩

/-- The product with the digits up to a place. -/
theorem times_step {a b : List Int} {k : Nat} (da : dOk a) (db : dOk b) : ((val a * val (b.take k)).toNat : Int) + ((val a * b.getD k 0 * pw k).toNat : Int) = (val a * val (b.take (k + 1)) ).toNat := by
  have h1 := (val_bd da).1
  have h2 := (val_bd (dOk_take db k)).1
  have h3 := (dOk_getD db k).1
  have h4 := pw_pos k
  have h5 := Int.mul_nonneg h1 h2
  have h6 := Int.mul_nonneg (Int.mul_nonneg h1 h3) (Int.le_of_lt h4)
  rw [val_take_succ, Int.mul_add, ← Int.mul_assoc, Int.mul_assoc (val a) (pw k), Int.mul_comm (pw k), ← Int.mul_assoc]
  omega
set_option maxHeartbeats 1000000 in
theorem r3times_any (A B : Option Addr) (n cn m cm : Nat) (a b : List Int) (w : World) (ha : Sl w A n cn a) (hb : Sl w B m cm b) (da : dOk a) (db : dOk b) (n1 : n ≤ 900) (m1 : m ≤ 900) :
    Calls Tryz.prog 60 #[.slice A n cn, .slice B m cm] w fun e w' => ∃ R k r, e = .returned (.slice R k r) ∧ Sl w' R k r (digs (val a * val b).toNat) ∧ Below w.heap.size w w' := by
  have la := Lib.hid ha.len
  have lb := Lib.hid hb.len
  have ht := ha.top
  have ht2 := hb.top
  have hq := ha.cap
  have hq2 := hb.cap
  go_enter Tryz.func60, Tryz.ntmps60
  go_wp2_with fail
  go_loopw [5, 6] (fun ov iv wr => ∃ (k : Nat) (R : Option Addr) (q r : Nat), k ≤ m ∧ iv = .int .i64 (k : Int) ∧ ov = .slice R q r ∧ Sl wr R q r (digs (val a * val (b.take k)).toNat) ∧ Below w.heap.size w wr) (fun _ iv _ => m - (intOf iv).toNat)
  case atStart => exact ⟨0, none, 0, 0, by omega, rfl, rfl, by simp [val]; rw [digs_zero]; exact Sl.nil _, Below.refl _ _⟩
  case round =>
    obtain ⟨k, R, q, r, hk, rfl, rfl, hs, hbw⟩ := hrel
    have HS := Lib.hid hs
    have HB := Lib.hid hbw
    clear hs hbw
    by_cases h1 : k < m
    · obtain ⟨g, o, x, rfl, hg', hx, hxe⟩ := (hb.below HB.out).at_ h1
      have g1 : (k : Int) < (m : Int) := by omega
      have g2 : (0 : Int) ≤ (k : Int) := by omega
      have dx := dOk_getD db k
      have HST := Lib.hid (times_step (k := k) da db)
      rw [hxe.out] at dx HST
      obtain ⟨x0, x1⟩ := dx
      have HQ : Hid (q ≤ 1900) := by
        show q ≤ 1900
        have h := digs_len_le (n := (val a * val (b.take k)).toNat) (k := n + m) (by
          have h1 := val_bd da
          have h2 := val_bd (dOk_take db k)
          have h3 := pw_mono (show (b.take k).length ≤ m by rw [List.length_take]; omega)
          rw [la.out] at h1
          have h4 := Int.mul_nonneg h1.1 h2.1
          have h5 : val a * val (b.take k) < pw n * pw m := by
            have h6 : val a * val (b.take k) ≤ val a * pw m := Int.mul_le_mul_of_nonneg_left (by omega) h1.1
            have h7 : val a * pw m < pw n * pw m := Int.mul_lt_mul_of_pos_right h1.2 (pw_pos m)
            omega
          rw [← pw_add] at h5
          omega)
        rw [HS.out.len] at h
        omega
      have HA := Lib.hid (ha.below HB.out)
      go_wp2_with fail
      (refine (r3digit_any A n cn a x k _ _ HA.out da (by omega) (by omega) (by omega) (by omega) rfl).mono ?_; rintro e w3 ⟨T, t, u, rfl, hT, hb3⟩)
      have HT := Lib.hid hT
      have HS := Lib.hid (HS.out.below hb3)
      have HB := Lib.hid (below_on HB.out hb3)
      have HTL : Hid (t ≤ 1900) := by
        show t ≤ 1900
        have h := digs_len_le (n := (val a * x * pw k).toNat) (k := n + 1 + k) (by
          have h1 := val_bd da
          rw [la.out] at h1
          have h4 := Int.mul_nonneg (Int.mul_nonneg h1.1 x0) (Int.le_of_lt (pw_pos k))
          have h5 : val a * x ≤ val a * 10000 := Int.mul_le_mul_of_nonneg_left (by omega) h1.1
          have h6 : val a * 10000 < pw (n + 1) := by rw [pw_succ]; omega
          have h7 : val a * x * pw k < pw (n + 1) * pw k := Int.mul_lt_mul_of_pos_right (by omega) (pw_pos k)
          rw [← pw_add] at h7
          omega)
        rw [HT.out.len] at h
        omega
      clear hT hb3
      go_wp2_with fail
      (refine (r3plus_any R T q r t u (digs (val a * val (b.take k)).toNat) (digs (val a * x * pw k).toNat) _ HS.out HT.out (digs_ok _) (digs_ok _) (by have := HQ.out; omega) (by have := HTL.out; omega)).mono ?_; rintro e w4 ⟨U, i, j, rfl, hU, hb4⟩)
      rw [val_digs, val_digs, HST.out, Int.toNat_natCast] at hU
      have HU := Lib.hid hU
      have HB := Lib.hid (below_on HB.out hb4)
      clear hU hb4
      go_wp2_with fail
      go_roundw
      case rel => exact ⟨k + 1, U, i, j, by omega, by go_num, rfl, HU.out, HB.out⟩
      case measure => simp [intOf] <;> omega
    · obtain rfl : k = m := by omega
      have HX : Hid (b.take k = b) := List.take_of_length_le (by rw [lb.out]; exact Nat.le_refl _)
      rw [HX.out] at HS
      go_wp2_with fail
      go_ret
      exact ⟨_, _, _, rfl, HS.out, HB.out⟩
end Go.Proofs.YtfenmogbellhdaaGreatDoor

namespace Go.Proofs.YtfenmogbellhdaaGreatDoor
open Go.RowKit

theorem mul_sign (p q : Int) : (nOf p != nOf q && decide (0 < (lOf (p * q)).length)) = nOf (p * q) := by
  by_cases h0 : p * q = 0
  · rw [h0, lOf_zero]; simp [nOf]
  · have hl : 0 < (lOf (p * q)).length := by
      rcases Nat.eq_zero_or_pos (lOf (p * q)).length with h | h
      · exact absurd (lOf_nil.1 (List.eq_nil_of_length_eq_zero h)) h0
      · exact h
    rw [decide_eq_true hl, Bool.and_true]
    unfold nOf
    have hp : p ≠ 0 := fun e => h0 (by rw [e, Int.zero_mul])
    have hq : q ≠ 0 := fun e => h0 (by rw [e, Int.mul_zero])
    rcases (by omega : p < 0 ∨ 0 < p) with h1 | h1
    · rcases (by omega : q < 0 ∨ 0 < q) with h2 | h2
      · have := Int.mul_pos_of_neg_of_neg h1 h2
        simp [h1, h2]; omega
      · have := Int.mul_neg_of_neg_of_pos h1 h2
        simp [h1, show ¬ q < 0 by omega, this]
    · rcases (by omega : q < 0 ∨ 0 < q) with h2 | h2
      · have := Int.mul_neg_of_pos_of_neg h1 h2
        simp [show ¬ p < 0 by omega, h2, this]
      · have := Int.mul_pos h1 h2
        simp [show ¬ p < 0 by omega, show ¬ q < 0 by omega]; omega
theorem mul_digs (p q : Int) : digs ((p.natAbs : Int) * (q.natAbs : Int)).toNat = lOf (p * q) := by
  unfold lOf
  rw [Int.natAbs_mul, ← Int.natCast_mul, Int.toNat_natCast]
theorem mul_len (p q : Int) : (lOf (p * q)).length ≤ (lOf p).length + (lOf q).length := by
  have h1 := digs_len_lt (n := p.natAbs) (k := (digs p.natAbs).length) (Nat.le_refl _)
  have h2 := digs_len_lt (n := q.natAbs) (k := (digs q.natAbs).length) (Nat.le_refl _)
  unfold lOf
  refine digs_len_le ?_
  rw [Int.natAbs_mul, pw_add, Int.natCast_mul]
  generalize pw (digs p.natAbs).length = P at *
  generalize pw (digs q.natAbs).length = Q at *
  have h3 : (p.natAbs : Int) * (q.natAbs : Int) ≤ (p.natAbs : Int) * Q := Int.mul_le_mul_of_nonneg_left (by omega) (by omega)
  have h4 : (p.natAbs : Int) * Q < P * Q := Int.mul_lt_mul_of_pos_right h1 (by omega)
  omega

set_option maxHeartbeats 2000000 in
/-- The reference's product, of integers of any size. -/
theorem r3prod_any (p q : Int) (A B : Option Addr) (n c m d : Nat) (w : World) (ha : Sl w A n c (lOf p)) (hb : Sl w B m d (lOf q)) (n1 : n ≤ 900) (m1 : m ≤ 900) :
    Calls Tryz.prog 34 #[.agg #[.bool (nOf (p)), .slice A n c], .agg #[.bool (nOf (q)), .slice B m d]] w fun e w' => ∃ T k r, e = .returned (.agg #[.bool (nOf (p * q)), .slice T k r]) ∧ Sl w' T k r (lOf (p * q)) ∧ k ≤ n + m ∧ Below w.heap.size w w' := by
  have S1 := Lib.hid ha
  have S2 := Lib.hid hb
  have HKL := Lib.hid (mul_len p q)
  rw [ha.len, hb.len] at HKL
  clear ha hb
  have BW := Lib.hid (Below.refl w.heap.size w)
  go_enter Tryz.func34, Tryz.ntmps34
  go_upto_region 1 with fail
  have S1 := Lib.hid (S1.out.alloc (.cells #[.bool (nOf (p)), .slice A n c] 24))
  have S2 := Lib.hid (S2.out.alloc (.cells #[.bool (nOf (p)), .slice A n c] 24))
  have BW := Lib.hid (BW.out.alloc BW.out.size (.cells #[.bool (nOf (p)), .slice A n c] 24))
  have X1 := Lib.hid (Bk.new 24 w #[.bool (nOf (p)), .slice A n c])
  have S1 := Lib.hid (S1.out.alloc (.cells #[.bool (nOf (q)), .slice B m d] 24))
  have S2 := Lib.hid (S2.out.alloc (.cells #[.bool (nOf (q)), .slice B m d] 24))
  have BW := Lib.hid (BW.out.alloc BW.out.size (.cells #[.bool (nOf (q)), .slice B m d] 24))
  have X1 := Lib.hid (X1.out.alloc (.cells #[.bool (nOf (q)), .slice B m d] 24))
  have X2 := Lib.hid (Bk.new 24 (w.alloc (.cells #[.bool (nOf (p)), .slice A n c] 24)) #[.bool (nOf (q)), .slice B m d])
  rw [alloc_sz] at X2
  have S1 := Lib.hid (S1.out.alloc (.cells #[.bool false, .slice none 0 0] 24))
  have S2 := Lib.hid (S2.out.alloc (.cells #[.bool false, .slice none 0 0] 24))
  have BW := Lib.hid (BW.out.alloc BW.out.size (.cells #[.bool false, .slice none 0 0] 24))
  have X1 := Lib.hid (X1.out.alloc (.cells #[.bool false, .slice none 0 0] 24))
  have X2 := Lib.hid (X2.out.alloc (.cells #[.bool false, .slice none 0 0] 24))
  have X3 := Lib.hid (Bk.new 24 ((w.alloc (.cells #[.bool (nOf (p)), .slice A n c] 24)).alloc (.cells #[.bool (nOf (q)), .slice B m d] 24)) #[.bool false, .slice none 0 0])
  rw [alloc_sz, alloc_sz] at X3
  generalize (((w.alloc (.cells #[.bool (nOf (p)), .slice A n c] 24)).alloc (.cells #[.bool (nOf (q)), .slice B m d] 24)).alloc (.cells #[.bool false, .slice none 0 0] 24)) = W0 at *
  have e0 : W0.cell? ⟨w.heap.size, 0, none⟩ = some (.bool (nOf (p))) := X1.out.c 0 rfl
  have e1 : W0.cell? ⟨w.heap.size, 1, none⟩ = some (.slice A n c) := X1.out.c 1 rfl
  have e2 : W0.cell? ⟨w.heap.size + 1, 0, none⟩ = some (.bool (nOf (q))) := X2.out.c 0 rfl
  have e3 : W0.cell? ⟨w.heap.size + 1, 1, none⟩ = some (.slice B m d) := X2.out.c 1 rfl
  go_wp2_with fail
  ((with_reducible refine (r3times_any A B n c m d (digs p.natAbs) (digs q.natAbs) _ S1.out S2.out (digs_ok _) (digs_ok _) n1 m1).mono ?_); rintro e w1 ⟨T, k, r, rfl, hs, hb⟩)
  rw [val_digs, val_digs, mul_digs] at hs
  clear e0 e1 e2 e3
  have S1 := Lib.hid (S1.out.below hb)
  have S2 := Lib.hid (S2.out.below hb)
  have BW := Lib.hid (below_on BW.out hb)
  have X1 := Lib.hid (X1.out.below hb)
  have X2 := Lib.hid (X2.out.below hb)
  have X3 := Lib.hid (X3.out.below hb)
  clear hb
  have S3 := Lib.hid hs
  clear hs
  have HK := HKL.out
  rw [S3.out.len] at HK
  have HS := mul_sign p q
  rw [S3.out.len] at HS
  have HS := Lib.hid HS
  clear HKL
  generalize hnb : nOf (p * q) = nb at *
  have HNB := Lib.hid hnb
  clear hnb
  rcases Bool.eq_false_or_eq_true (nOf p) with hp | hp
  · have HPP := Lib.hid hp
    clear hp
    rw [HPP.out] at X1 HS
    rcases Bool.eq_false_or_eq_true (nOf q) with hq | hq
    · have HQQ := Lib.hid hq
      clear hq
      rw [HQQ.out] at X2 HS
      have HNV : Hid (nb = false) := by show nb = false; rw [← HS.out]; rfl
      have e0 : w1.cell? ⟨w.heap.size, 0, none⟩ = some (.bool true) := X1.out.c 0 rfl
      have e1 : w1.cell? ⟨w.heap.size, 1, none⟩ = some (.slice A n c) := X1.out.c 1 rfl
      have e2 : w1.cell? ⟨w.heap.size + 1, 0, none⟩ = some (.bool true) := X2.out.c 0 rfl
      have e3 : w1.cell? ⟨w.heap.size + 1, 1, none⟩ = some (.slice B m d) := X2.out.c 1 rfl
      have e4 : w1.cell? ⟨w.heap.size + 1 + 1, 0, none⟩ = some (.bool false) := X3.out.c 0 rfl
      have e5 : w1.cell? ⟨w.heap.size + 1 + 1, 1, none⟩ = some (.slice none 0 0) := X3.out.c 1 rfl
      have z6 := X3.out.fz 0
      have z7 := X3.out.fz 1
      go_wp2_with fail
      refine bodyPost_ret (v := .agg #[.bool false, .slice T k r]) (by simp [results, Tryz.results34, go_sem, *]) rfl ⟨T, k, r, by rw [HNB.out, HNV.out], S3.out.bk2 X3.out _ _, HK, below_set2 BW.out (by omega) _ _⟩
    · have HQQ := Lib.hid hq
      clear hq
      rw [HQQ.out] at X2 HS
      by_cases u2 : 0 < k
      · have HNV : Hid (nb = true) := by show nb = true; rw [← HS.out]; simp [u2]
        have u3 : (0 : Int) < (k : Int) := by omega
        have e0 : w1.cell? ⟨w.heap.size, 0, none⟩ = some (.bool true) := X1.out.c 0 rfl
        have e1 : w1.cell? ⟨w.heap.size, 1, none⟩ = some (.slice A n c) := X1.out.c 1 rfl
        have e2 : w1.cell? ⟨w.heap.size + 1, 0, none⟩ = some (.bool false) := X2.out.c 0 rfl
        have e3 : w1.cell? ⟨w.heap.size + 1, 1, none⟩ = some (.slice B m d) := X2.out.c 1 rfl
        have e4 : w1.cell? ⟨w.heap.size + 1 + 1, 0, none⟩ = some (.bool false) := X3.out.c 0 rfl
        have e5 : w1.cell? ⟨w.heap.size + 1 + 1, 1, none⟩ = some (.slice none 0 0) := X3.out.c 1 rfl
        have z6 := X3.out.fz 0
        have z7 := X3.out.fz 1
        go_wp2_with fail
        refine bodyPost_ret (v := .agg #[.bool true, .slice T k r]) (by simp [results, Tryz.results34, go_sem, *]) rfl ⟨T, k, r, by rw [HNB.out, HNV.out], S3.out.bk2 X3.out _ _, HK, below_set2 BW.out (by omega) _ _⟩
      · have HNV : Hid (nb = false) := by show nb = false; rw [← HS.out]; simp [u2]
        have u3 : ¬ (0 : Int) < (k : Int) := by omega
        have e0 : w1.cell? ⟨w.heap.size, 0, none⟩ = some (.bool true) := X1.out.c 0 rfl
        have e1 : w1.cell? ⟨w.heap.size, 1, none⟩ = some (.slice A n c) := X1.out.c 1 rfl
        have e2 : w1.cell? ⟨w.heap.size + 1, 0, none⟩ = some (.bool false) := X2.out.c 0 rfl
        have e3 : w1.cell? ⟨w.heap.size + 1, 1, none⟩ = some (.slice B m d) := X2.out.c 1 rfl
        have e4 : w1.cell? ⟨w.heap.size + 1 + 1, 0, none⟩ = some (.bool false) := X3.out.c 0 rfl
        have e5 : w1.cell? ⟨w.heap.size + 1 + 1, 1, none⟩ = some (.slice none 0 0) := X3.out.c 1 rfl
        have z6 := X3.out.fz 0
        have z7 := X3.out.fz 1
        go_wp2_with fail
        refine bodyPost_ret (v := .agg #[.bool false, .slice T k r]) (by simp [results, Tryz.results34, go_sem, *]) rfl ⟨T, k, r, by rw [HNB.out, HNV.out], S3.out.bk2 X3.out _ _, HK, below_set2 BW.out (by omega) _ _⟩
  · have HPP := Lib.hid hp
    clear hp
    rw [HPP.out] at X1 HS
    rcases Bool.eq_false_or_eq_true (nOf q) with hq | hq
    · have HQQ := Lib.hid hq
      clear hq
      rw [HQQ.out] at X2 HS
      by_cases u2 : 0 < k
      · have HNV : Hid (nb = true) := by show nb = true; rw [← HS.out]; simp [u2]
        have u3 : (0 : Int) < (k : Int) := by omega
        have e0 : w1.cell? ⟨w.heap.size, 0, none⟩ = some (.bool false) := X1.out.c 0 rfl
        have e1 : w1.cell? ⟨w.heap.size, 1, none⟩ = some (.slice A n c) := X1.out.c 1 rfl
        have e2 : w1.cell? ⟨w.heap.size + 1, 0, none⟩ = some (.bool true) := X2.out.c 0 rfl
        have e3 : w1.cell? ⟨w.heap.size + 1, 1, none⟩ = some (.slice B m d) := X2.out.c 1 rfl
        have e4 : w1.cell? ⟨w.heap.size + 1 + 1, 0, none⟩ = some (.bool false) := X3.out.c 0 rfl
        have e5 : w1.cell? ⟨w.heap.size + 1 + 1, 1, none⟩ = some (.slice none 0 0) := X3.out.c 1 rfl
        have z6 := X3.out.fz 0
        have z7 := X3.out.fz 1
        go_wp2_with fail
        refine bodyPost_ret (v := .agg #[.bool true, .slice T k r]) (by simp [results, Tryz.results34, go_sem, *]) rfl ⟨T, k, r, by rw [HNB.out, HNV.out], S3.out.bk2 X3.out _ _, HK, below_set2 BW.out (by omega) _ _⟩
      · have HNV : Hid (nb = false) := by show nb = false; rw [← HS.out]; simp [u2]
        have u3 : ¬ (0 : Int) < (k : Int) := by omega
        have e0 : w1.cell? ⟨w.heap.size, 0, none⟩ = some (.bool false) := X1.out.c 0 rfl
        have e1 : w1.cell? ⟨w.heap.size, 1, none⟩ = some (.slice A n c) := X1.out.c 1 rfl
        have e2 : w1.cell? ⟨w.heap.size + 1, 0, none⟩ = some (.bool true) := X2.out.c 0 rfl
        have e3 : w1.cell? ⟨w.heap.size + 1, 1, none⟩ = some (.slice B m d) := X2.out.c 1 rfl
        have e4 : w1.cell? ⟨w.heap.size + 1 + 1, 0, none⟩ = some (.bool false) := X3.out.c 0 rfl
        have e5 : w1.cell? ⟨w.heap.size + 1 + 1, 1, none⟩ = some (.slice none 0 0) := X3.out.c 1 rfl
        have z6 := X3.out.fz 0
        have z7 := X3.out.fz 1
        go_wp2_with fail
        refine bodyPost_ret (v := .agg #[.bool false, .slice T k r]) (by simp [results, Tryz.results34, go_sem, *]) rfl ⟨T, k, r, by rw [HNB.out, HNV.out], S3.out.bk2 X3.out _ _, HK, below_set2 BW.out (by omega) _ _⟩
    · have HQQ := Lib.hid hq
      clear hq
      rw [HQQ.out] at X2 HS
      have HNV : Hid (nb = false) := by show nb = false; rw [← HS.out]; rfl
      have e0 : w1.cell? ⟨w.heap.size, 0, none⟩ = some (.bool false) := X1.out.c 0 rfl
      have e1 : w1.cell? ⟨w.heap.size, 1, none⟩ = some (.slice A n c) := X1.out.c 1 rfl
      have e2 : w1.cell? ⟨w.heap.size + 1, 0, none⟩ = some (.bool false) := X2.out.c 0 rfl
      have e3 : w1.cell? ⟨w.heap.size + 1, 1, none⟩ = some (.slice B m d) := X2.out.c 1 rfl
      have e4 : w1.cell? ⟨w.heap.size + 1 + 1, 0, none⟩ = some (.bool false) := X3.out.c 0 rfl
      have e5 : w1.cell? ⟨w.heap.size + 1 + 1, 1, none⟩ = some (.slice none 0 0) := X3.out.c 1 rfl
      have z6 := X3.out.fz 0
      have z7 := X3.out.fz 1
      go_wp2_with fail
      refine bodyPost_ret (v := .agg #[.bool false, .slice T k r]) (by simp [results, Tryz.results34, go_sem, *]) rfl ⟨T, k, r, by rw [HNB.out, HNV.out], S3.out.bk2 X3.out _ _, HK, below_set2 BW.out (by omega) _ _⟩

theorem r3zero_any (w : World) :
    Calls Tryz.prog 56 #[] w fun e w' => ∃ T k r U l s, e = .returned (.agg #[.bool (nOf (0)), .slice T k r, .bool (nOf (1)), .slice U l s]) ∧ Sl w' T k r (lOf (0)) ∧ Sl w' U l s (lOf (1)) ∧ Below w.heap.size w w' := by
  have BW := Lib.hid (Below.refl w.heap.size w)
  go_enter Tryz.func56, Tryz.ntmps56
  go_upto_region 1 with fail
  have BW := Lib.hid (BW.out.alloc BW.out.size (.cells #[.bool false, .slice none 0 0, .bool false, .slice none 0 0] 26))
  have X1 := Lib.hid (Bk.new 26 w #[.bool false, .slice none 0 0, .bool false, .slice none 0 0])
  generalize (w.alloc (.cells #[.bool false, .slice none 0 0, .bool false, .slice none 0 0] 26)) = W0 at *
  have S2 := Lib.hid (show Sl (W0.alloc (.cells #[.int .i64 1] 3)) (some ⟨W0.heap.size, 0, none⟩) 1 1 [1] from (Own.new W0 [1]).all (n := 1) (c := 1) rfl (Nat.le_refl _) (by omega))
  have X1 := Lib.hid (X1.out.alloc (.cells #[.int .i64 1] 3))
  have BW := Lib.hid (BW.out.alloc BW.out.size (.cells #[.int .i64 1] 3))
  rw [← lOf_one] at S2
  have f0 := (X1.out).fz 0
  have f1 := (X1.out).fz 1
  have f2 := (X1.out).fz 2
  have f3 := (X1.out).fz 3
  have c0 := (X1.out).c 0 (v := .bool false) rfl
  have c1 := (X1.out).c 1 (v := .slice none 0 0) rfl
  have c2 := (X1.out).c 2 (v := .bool false) rfl
  have c3 := (X1.out).c 3 (v := .slice none 0 0) rfl
  go_wp2_with fail
  refine bodyPost_ret (v := .agg #[.bool false, .slice none 0 0, .bool false, .slice (some ⟨W0.heap.size, 0, none⟩) 1 1]) (by simp [results, Tryz.results56, go_sem, *]) rfl ⟨none, 0, 0, _, 1, 1, rfl, by rw [lOf_zero]; exact Sl.nil _, S2.out.bk4 X1.out _ _ _ _, below_set4 BW.out (by omega) _ _ _ _⟩

theorem r3right_any (na nb : Bool) (A B : Option Addr) (n c m d : Nat) (xs ys : List Int) (w : World) (ha : Sl w A n c xs) (hb : Sl w B m d ys) :
    Calls Tryz.prog 31 #[.agg #[.bool na, .slice A n c, .bool nb, .slice B m d]] w fun e w' => ∃ T k r U l s, e = .returned (.agg #[.bool (nOf (frN na xs nb ys)), .slice T k r, .bool (nOf (frD na xs nb ys)), .slice U l s]) ∧ Sl w' T k r (lOf (frN na xs nb ys)) ∧ Sl w' U l s (lOf (frD na xs nb ys)) ∧ Below w.heap.size w w' := by
  have S1 := Lib.hid ha
  have S2 := Lib.hid hb
  clear ha hb
  rcases Bool.eq_false_or_eq_true (validR na xs nb ys) with h1 | h1
  · obtain ⟨-, -, h2, h3, h4, h5⟩ := fr_valid h1
    have E1 := Lib.hid h2
    have E2 := Lib.hid h3
    have E3 := Lib.hid h4
    have E4 := Lib.hid h5
    clear h2 h3 h4 h5
    have V1 := Lib.hid h1
    clear h1
    have BW := Lib.hid (Below.refl w.heap.size w)
    go_enter Tryz.func31, Tryz.ntmps31
    go_upto_region 1 with fail
    have S1 := Lib.hid (S1.out.alloc (.cells #[.bool na, .slice A n c, .bool nb, .slice B m d] 26))
    have S2 := Lib.hid (S2.out.alloc (.cells #[.bool na, .slice A n c, .bool nb, .slice B m d] 26))
    have BW := Lib.hid (BW.out.alloc BW.out.size (.cells #[.bool na, .slice A n c, .bool nb, .slice B m d] 26))
    have X1 := Lib.hid (Bk.new 26 w #[.bool na, .slice A n c, .bool nb, .slice B m d])
    have S1 := Lib.hid (S1.out.alloc (.cells #[.bool false, .slice none 0 0, .bool false, .slice none 0 0] 26))
    have S2 := Lib.hid (S2.out.alloc (.cells #[.bool false, .slice none 0 0, .bool false, .slice none 0 0] 26))
    have BW := Lib.hid (BW.out.alloc BW.out.size (.cells #[.bool false, .slice none 0 0, .bool false, .slice none 0 0] 26))
    have X1 := Lib.hid (X1.out.alloc (.cells #[.bool false, .slice none 0 0, .bool false, .slice none 0 0] 26))
    have X2 := Lib.hid (Bk.new 26 (w.alloc (.cells #[.bool na, .slice A n c, .bool nb, .slice B m d] 26)) #[.bool false, .slice none 0 0, .bool false, .slice none 0 0])
    rw [alloc_sz] at X2
    generalize ((w.alloc (.cells #[.bool na, .slice A n c, .bool nb, .slice B m d] 26)).alloc (.cells #[.bool false, .slice none 0 0, .bool false, .slice none 0 0] 26)) = W0 at *
    have e0 : W0.cell? ⟨w.heap.size, 0, none⟩ = some (.bool na) := X1.out.c 0 rfl
    have e1 : W0.cell? ⟨w.heap.size, 1, none⟩ = some (.slice A n c) := X1.out.c 1 rfl
    have e2 : W0.cell? ⟨w.heap.size, 2, none⟩ = some (.bool nb) := X1.out.c 2 rfl
    have e3 : W0.cell? ⟨w.heap.size, 3, none⟩ = some (.slice B m d) := X1.out.c 3 rfl
    go_wp2_with fail
    ((with_reducible refine (r3valid_any na nb A B n c m d xs ys _ S1.out S2.out).mono ?_); rintro e w1 ⟨rfl, hb⟩)
    rw [V1.out]
    clear e0 e1 e2 e3
    have S1 := Lib.hid (S1.out.below hb)
    have S2 := Lib.hid (S2.out.below hb)
    have BW := Lib.hid (below_on BW.out hb)
    have X1 := Lib.hid (X1.out.below hb)
    have X2 := Lib.hid (X2.out.below hb)
    clear hb
    have e0 : w1.cell? ⟨w.heap.size, 0, none⟩ = some (.bool na) := X1.out.c 0 rfl
    have e1 : w1.cell? ⟨w.heap.size, 1, none⟩ = some (.slice A n c) := X1.out.c 1 rfl
    have e2 : w1.cell? ⟨w.heap.size, 2, none⟩ = some (.bool nb) := X1.out.c 2 rfl
    have e3 : w1.cell? ⟨w.heap.size, 3, none⟩ = some (.slice B m d) := X1.out.c 3 rfl
    have e4 : w1.cell? ⟨w.heap.size + 1, 0, none⟩ = some (.bool false) := X2.out.c 0 rfl
    have e5 : w1.cell? ⟨w.heap.size + 1, 1, none⟩ = some (.slice none 0 0) := X2.out.c 1 rfl
    have e6 : w1.cell? ⟨w.heap.size + 1, 2, none⟩ = some (.bool false) := X2.out.c 2 rfl
    have e7 : w1.cell? ⟨w.heap.size + 1, 3, none⟩ = some (.slice none 0 0) := X2.out.c 3 rfl
    have z8 := X2.out.fz 0
    have z9 := X2.out.fz 1
    have z10 := X2.out.fz 2
    have z11 := X2.out.fz 3
    go_wp2_with fail
    have S3 := Lib.hid (S1.out.bk4 X2.out (.bool na) (.slice A n c) (.bool nb) (.slice B m d))
    have S4 := Lib.hid (S2.out.bk4 X2.out (.bool na) (.slice A n c) (.bool nb) (.slice B m d))
    refine bodyPost_ret (v := .agg #[.bool na, .slice A n c, .bool nb, .slice B m d]) (by simp [results, Tryz.results31, go_sem, *]) rfl ⟨A, n, c, B, m, d, ?_, ?_, ?_, below_set4 BW.out (by omega) _ _ _ _⟩
    · rw [← E1.out, ← E3.out]
    · rw [← E2.out]; exact S3.out
    · rw [← E4.out]; exact S4.out
  · obtain ⟨h2, h3⟩ := fr_invalid h1
    have E1 := Lib.hid h2
    have E2 := Lib.hid h3
    clear h2 h3
    have V1 := Lib.hid h1
    clear h1
    have BW := Lib.hid (Below.refl w.heap.size w)
    go_enter Tryz.func31, Tryz.ntmps31
    go_upto_region 1 with fail
    have S1 := Lib.hid (S1.out.alloc (.cells #[.bool na, .slice A n c, .bool nb, .slice B m d] 26))
    have S2 := Lib.hid (S2.out.alloc (.cells #[.bool na, .slice A n c, .bool nb, .slice B m d] 26))
    have BW := Lib.hid (BW.out.alloc BW.out.size (.cells #[.bool na, .slice A n c, .bool nb, .slice B m d] 26))
    have X1 := Lib.hid (Bk.new 26 w #[.bool na, .slice A n c, .bool nb, .slice B m d])
    have S1 := Lib.hid (S1.out.alloc (.cells #[.bool false, .slice none 0 0, .bool false, .slice none 0 0] 26))
    have S2 := Lib.hid (S2.out.alloc (.cells #[.bool false, .slice none 0 0, .bool false, .slice none 0 0] 26))
    have BW := Lib.hid (BW.out.alloc BW.out.size (.cells #[.bool false, .slice none 0 0, .bool false, .slice none 0 0] 26))
    have X1 := Lib.hid (X1.out.alloc (.cells #[.bool false, .slice none 0 0, .bool false, .slice none 0 0] 26))
    have X2 := Lib.hid (Bk.new 26 (w.alloc (.cells #[.bool na, .slice A n c, .bool nb, .slice B m d] 26)) #[.bool false, .slice none 0 0, .bool false, .slice none 0 0])
    rw [alloc_sz] at X2
    generalize ((w.alloc (.cells #[.bool na, .slice A n c, .bool nb, .slice B m d] 26)).alloc (.cells #[.bool false, .slice none 0 0, .bool false, .slice none 0 0] 26)) = W0 at *
    have e0 : W0.cell? ⟨w.heap.size, 0, none⟩ = some (.bool na) := X1.out.c 0 rfl
    have e1 : W0.cell? ⟨w.heap.size, 1, none⟩ = some (.slice A n c) := X1.out.c 1 rfl
    have e2 : W0.cell? ⟨w.heap.size, 2, none⟩ = some (.bool nb) := X1.out.c 2 rfl
    have e3 : W0.cell? ⟨w.heap.size, 3, none⟩ = some (.slice B m d) := X1.out.c 3 rfl
    go_wp2_with fail
    ((with_reducible refine (r3valid_any na nb A B n c m d xs ys _ S1.out S2.out).mono ?_); rintro e w1 ⟨rfl, hb⟩)
    rw [V1.out]
    clear e0 e1 e2 e3
    have S1 := Lib.hid (S1.out.below hb)
    have S2 := Lib.hid (S2.out.below hb)
    have BW := Lib.hid (below_on BW.out hb)
    have X1 := Lib.hid (X1.out.below hb)
    have X2 := Lib.hid (X2.out.below hb)
    clear hb
    have e0 : w1.cell? ⟨w.heap.size, 0, none⟩ = some (.bool na) := X1.out.c 0 rfl
    have e1 : w1.cell? ⟨w.heap.size, 1, none⟩ = some (.slice A n c) := X1.out.c 1 rfl
    have e2 : w1.cell? ⟨w.heap.size, 2, none⟩ = some (.bool nb) := X1.out.c 2 rfl
    have e3 : w1.cell? ⟨w.heap.size, 3, none⟩ = some (.slice B m d) := X1.out.c 3 rfl
    go_wp2_with fail
    ((with_reducible refine (r3zero_any _).mono ?_); rintro e w2 ⟨T, k, r, U, l, s, rfl, hs, ht, hb⟩)
    clear e0 e1 e2 e3
    have S1 := Lib.hid (S1.out.below hb)
    have S2 := Lib.hid (S2.out.below hb)
    have BW := Lib.hid (below_on BW.out hb)
    have X1 := Lib.hid (X1.out.below hb)
    have X2 := Lib.hid (X2.out.below hb)
    clear hb
    have S3 := Lib.hid hs
    have S4 := Lib.hid ht
    clear hs ht
    rw [← E1.out] at S3
    rw [← E2.out] at S4
    have e0 : w2.cell? ⟨w.heap.size, 0, none⟩ = some (.bool na) := X1.out.c 0 rfl
    have e1 : w2.cell? ⟨w.heap.size, 1, none⟩ = some (.slice A n c) := X1.out.c 1 rfl
    have e2 : w2.cell? ⟨w.heap.size, 2, none⟩ = some (.bool nb) := X1.out.c 2 rfl
    have e3 : w2.cell? ⟨w.heap.size, 3, none⟩ = some (.slice B m d) := X1.out.c 3 rfl
    have e4 : w2.cell? ⟨w.heap.size + 1, 0, none⟩ = some (.bool false) := X2.out.c 0 rfl
    have e5 : w2.cell? ⟨w.heap.size + 1, 1, none⟩ = some (.slice none 0 0) := X2.out.c 1 rfl
    have e6 : w2.cell? ⟨w.heap.size + 1, 2, none⟩ = some (.bool false) := X2.out.c 2 rfl
    have e7 : w2.cell? ⟨w.heap.size + 1, 3, none⟩ = some (.slice none 0 0) := X2.out.c 3 rfl
    have z8 := X2.out.fz 0
    have z9 := X2.out.fz 1
    have z10 := X2.out.fz 2
    have z11 := X2.out.fz 3
    go_wp2_with fail
    refine bodyPost_ret (v := .agg #[.bool (nOf (0)), .slice T k r, .bool (nOf (1)), .slice U l s]) (by simp [results, Tryz.results31, go_sem, *]) rfl ⟨T, k, r, U, l, s, ?_, S3.out.bk4 X2.out _ _ _ _, S4.out.bk4 X2.out _ _ _ _, below_set4 BW.out (by omega) _ _ _ _⟩
    rw [E1.out, E2.out]

/-- Two fractions in new blocks. -/
def TwoRat (W : World) (p1 q1 p2 q2 : Int) (v8 v9 : Value) (wx : World) : Prop :=
  ∃ (b8 b9 : Nat) (A1 : Option Addr) (n1 c1 : Nat) (B1 : Option Addr) (m1 d1 : Nat) (A2 : Option Addr) (n2 c2 : Nat) (B2 : Option Addr) (m2 d2 : Nat), v8 = .pointer (some ⟨b8, 0, none⟩) ∧ v9 = .pointer (some ⟨b9, 0, none⟩) ∧ W.heap.size ≤ b8 ∧ W.heap.size ≤ b9 ∧ b8 ≠ b9 ∧ Bk 26 wx b8 #[.bool (nOf (p1)), .slice A1 n1 c1, .bool (nOf (q1)), .slice B1 m1 d1] ∧ Bk 26 wx b9 #[.bool (nOf (p2)), .slice A2 n2 c2, .bool (nOf (q2)), .slice B2 m2 d2] ∧ Sl wx A1 n1 c1 (lOf p1) ∧ Sl wx B1 m1 d1 (lOf q1) ∧ Sl wx A2 n2 c2 (lOf p2) ∧ Sl wx B2 m2 d2 (lOf q2) ∧ Below W.heap.size W wx
theorem tworat_aa {W p : World} {p1 q1 p2 q2 : Int} {A1 B1 A2 B2 : Option Addr} {n1 c1 m1 d1 n2 c2 m2 d2 : Nat} (B : Below W.heap.size W p) (s1 : Sl p A1 n1 c1 (lOf p1)) (t1 : Sl p B1 m1 d1 (lOf q1)) (s2 : Sl p A2 n2 c2 (lOf p2)) (t2 : Sl p B2 m2 d2 (lOf q2)) : TwoRat W p1 q1 p2 q2 (.pointer (some ⟨p.heap.size, 0, none⟩)) (.pointer (some ⟨p.heap.size + 1, 0, none⟩)) ((p.alloc (.cells #[.bool (nOf (p1)), .slice A1 n1 c1, .bool (nOf (q1)), .slice B1 m1 d1] 26)).alloc (.cells #[.bool (nOf (p2)), .slice A2 n2 c2, .bool (nOf (q2)), .slice B2 m2 d2] 26)) := by
  have N := Bk.new 26 (p.alloc (.cells #[.bool (nOf (p1)), .slice A1 n1 c1, .bool (nOf (q1)), .slice B1 m1 d1] 26)) #[.bool (nOf (p2)), .slice A2 n2 c2, .bool (nOf (q2)), .slice B2 m2 d2]
  rw [alloc_sz] at N
  exact ⟨_, _, A1, n1, c1, B1, m1, d1, A2, n2, c2, B2, m2, d2, rfl, rfl, B.size, by have := B.size; omega, by omega, (Bk.new _ _ _).alloc _, N, (s1.alloc _).alloc _, (t1.alloc _).alloc _, (s2.alloc _).alloc _, (t2.alloc _).alloc _, (B.alloc B.size _).alloc (B.alloc B.size _).size _⟩
theorem tworat_aa' {W p : World} {p1 q1 p2 q2 : Int} {A1 B1 A2 B2 : Option Addr} {n1 c1 m1 d1 n2 c2 m2 d2 : Nat} (B : Below W.heap.size W p) (s1 : Sl p A1 n1 c1 (lOf p1)) (t1 : Sl p B1 m1 d1 (lOf q1)) (s2 : Sl p A2 n2 c2 (lOf p2)) (t2 : Sl p B2 m2 d2 (lOf q2)) : TwoRat W p1 q1 p2 q2 (.pointer (some ⟨p.heap.size + 1, 0, none⟩)) (.pointer (some ⟨p.heap.size, 0, none⟩)) ((p.alloc (.cells #[.bool (nOf (p2)), .slice A2 n2 c2, .bool (nOf (q2)), .slice B2 m2 d2] 26)).alloc (.cells #[.bool (nOf (p1)), .slice A1 n1 c1, .bool (nOf (q1)), .slice B1 m1 d1] 26)) := by
  have N := Bk.new 26 (p.alloc (.cells #[.bool (nOf (p2)), .slice A2 n2 c2, .bool (nOf (q2)), .slice B2 m2 d2] 26)) #[.bool (nOf (p1)), .slice A1 n1 c1, .bool (nOf (q1)), .slice B1 m1 d1]
  rw [alloc_sz] at N
  exact ⟨_, _, A1, n1, c1, B1, m1, d1, A2, n2, c2, B2, m2, d2, rfl, rfl, by have := B.size; omega, B.size, by omega, N, (Bk.new _ _ _).alloc _, (s1.alloc _).alloc _, (t1.alloc _).alloc _, (s2.alloc _).alloc _, (t2.alloc _).alloc _, (B.alloc B.size _).alloc (B.alloc B.size _).size _⟩
theorem tworat_sa {W p : World} {p1 q1 p2 q2 : Int} {A1 B1 A2 B2 : Option Addr} {n1 c1 m1 d1 n2 c2 m2 d2 : Nat} (B : Below W.heap.size W p) (s1 : Sl p A1 n1 c1 (lOf p1)) (t1 : Sl p B1 m1 d1 (lOf q1)) (s2 : Sl p A2 n2 c2 (lOf p2)) (t2 : Sl p B2 m2 d2 (lOf q2)) {b : Nat} (N : Bk 26 p b #[.bool false, .slice none 0 0, .bool false, .slice none 0 0]) (h : W.heap.size ≤ b) : TwoRat W p1 q1 p2 q2 (.pointer (some ⟨b, 0, none⟩)) (.pointer (some ⟨p.heap.size, 0, none⟩)) (((((p.setCell ⟨b, 0, none⟩ (.bool (nOf (p1)))).setCell ⟨b, 1, none⟩ (.slice A1 n1 c1)).setCell ⟨b, 2, none⟩ (.bool (nOf (q1)))).setCell ⟨b, 3, none⟩ (.slice B1 m1 d1)).alloc (.cells #[.bool (nOf (p2)), .slice A2 n2 c2, .bool (nOf (q2)), .slice B2 m2 d2] 26)) := by
  have l := N.lt
  have M := Bk.new 26 ((((p.setCell ⟨b, 0, none⟩ (.bool (nOf (p1)))).setCell ⟨b, 1, none⟩ (.slice A1 n1 c1)).setCell ⟨b, 2, none⟩ (.bool (nOf (q1)))).setCell ⟨b, 3, none⟩ (.slice B1 m1 d1)) #[.bool (nOf (p2)), .slice A2 n2 c2, .bool (nOf (q2)), .slice B2 m2 d2]
  rw [show ((((p.setCell ⟨b, 0, none⟩ (.bool (nOf (p1)))).setCell ⟨b, 1, none⟩ (.slice A1 n1 c1)).setCell ⟨b, 2, none⟩ (.bool (nOf (q1)))).setCell ⟨b, 3, none⟩ (.slice B1 m1 d1)).heap.size = p.heap.size by simp] at M
  have B2' := below_set4 B h (.bool (nOf p1)) (.slice A1 n1 c1) (.bool (nOf q1)) (.slice B1 m1 d1)
  exact ⟨_, _, A1, n1, c1, B1, m1, d1, A2, n2, c2, B2, m2, d2, rfl, rfl, h, B.size, by omega, (N.set4 _ _ _ _).alloc _, M, (s1.bk4 N _ _ _ _).alloc _, (t1.bk4 N _ _ _ _).alloc _, (s2.bk4 N _ _ _ _).alloc _, (t2.bk4 N _ _ _ _).alloc _, B2'.alloc B2'.size _⟩
theorem tworat_sa' {W p : World} {p1 q1 p2 q2 : Int} {A1 B1 A2 B2 : Option Addr} {n1 c1 m1 d1 n2 c2 m2 d2 : Nat} (B : Below W.heap.size W p) (s1 : Sl p A1 n1 c1 (lOf p1)) (t1 : Sl p B1 m1 d1 (lOf q1)) (s2 : Sl p A2 n2 c2 (lOf p2)) (t2 : Sl p B2 m2 d2 (lOf q2)) {b : Nat} (N : Bk 26 p b #[.bool false, .slice none 0 0, .bool false, .slice none 0 0]) (h : W.heap.size ≤ b) : TwoRat W p1 q1 p2 q2 (.pointer (some ⟨p.heap.size, 0, none⟩)) (.pointer (some ⟨b, 0, none⟩)) (((((p.setCell ⟨b, 0, none⟩ (.bool (nOf (p2)))).setCell ⟨b, 1, none⟩ (.slice A2 n2 c2)).setCell ⟨b, 2, none⟩ (.bool (nOf (q2)))).setCell ⟨b, 3, none⟩ (.slice B2 m2 d2)).alloc (.cells #[.bool (nOf (p1)), .slice A1 n1 c1, .bool (nOf (q1)), .slice B1 m1 d1] 26)) := by
  have l := N.lt
  have M := Bk.new 26 ((((p.setCell ⟨b, 0, none⟩ (.bool (nOf (p2)))).setCell ⟨b, 1, none⟩ (.slice A2 n2 c2)).setCell ⟨b, 2, none⟩ (.bool (nOf (q2)))).setCell ⟨b, 3, none⟩ (.slice B2 m2 d2)) #[.bool (nOf (p1)), .slice A1 n1 c1, .bool (nOf (q1)), .slice B1 m1 d1]
  rw [show ((((p.setCell ⟨b, 0, none⟩ (.bool (nOf (p2)))).setCell ⟨b, 1, none⟩ (.slice A2 n2 c2)).setCell ⟨b, 2, none⟩ (.bool (nOf (q2)))).setCell ⟨b, 3, none⟩ (.slice B2 m2 d2)).heap.size = p.heap.size by simp] at M
  have B2' := below_set4 B h (.bool (nOf p2)) (.slice A2 n2 c2) (.bool (nOf q2)) (.slice B2 m2 d2)
  exact ⟨_, _, A1, n1, c1, B1, m1, d1, A2, n2, c2, B2, m2, d2, rfl, rfl, B.size, h, by omega, M, (N.set4 _ _ _ _).alloc _, (s1.bk4 N _ _ _ _).alloc _, (t1.bk4 N _ _ _ _).alloc _, (s2.bk4 N _ _ _ _).alloc _, (t2.bk4 N _ _ _ _).alloc _, B2'.alloc B2'.size _⟩
theorem tworat_ss {W p : World} {p1 q1 p2 q2 : Int} {A1 B1 A2 B2 : Option Addr} {n1 c1 m1 d1 n2 c2 m2 d2 : Nat} (B : Below W.heap.size W p) (s1 : Sl p A1 n1 c1 (lOf p1)) (t1 : Sl p B1 m1 d1 (lOf q1)) (s2 : Sl p A2 n2 c2 (lOf p2)) (t2 : Sl p B2 m2 d2 (lOf q2)) {b b' : Nat} (N : Bk 26 p b #[.bool false, .slice none 0 0, .bool false, .slice none 0 0]) (N' : Bk 26 p b' #[.bool false, .slice none 0 0, .bool false, .slice none 0 0]) (h : W.heap.size ≤ b) (h' : W.heap.size ≤ b') (hne : b ≠ b') : TwoRat W p1 q1 p2 q2 (.pointer (some ⟨b, 0, none⟩)) (.pointer (some ⟨b', 0, none⟩)) ((((((((p.setCell ⟨b, 0, none⟩ (.bool (nOf (p1)))).setCell ⟨b, 1, none⟩ (.slice A1 n1 c1)).setCell ⟨b, 2, none⟩ (.bool (nOf (q1)))).setCell ⟨b, 3, none⟩ (.slice B1 m1 d1)).setCell ⟨b', 0, none⟩ (.bool (nOf (p2)))).setCell ⟨b', 1, none⟩ (.slice A2 n2 c2)).setCell ⟨b', 2, none⟩ (.bool (nOf (q2)))).setCell ⟨b', 3, none⟩ (.slice B2 m2 d2)) := by
  have M' := N'.far4 (Ne.symm hne) (.bool (nOf p1)) (.slice A1 n1 c1) (.bool (nOf q1)) (.slice B1 m1 d1)
  exact ⟨_, _, A1, n1, c1, B1, m1, d1, A2, n2, c2, B2, m2, d2, rfl, rfl, h, h', hne, (N.set4 _ _ _ _).far4 hne _ _ _ _, M'.set4 _ _ _ _, (s1.bk4 N _ _ _ _).bk4 M' _ _ _ _, (t1.bk4 N _ _ _ _).bk4 M' _ _ _ _, (s2.bk4 N _ _ _ _).bk4 M' _ _ _ _, (t2.bk4 N _ _ _ _).bk4 M' _ _ _ _, below_set4 (below_set4 B h _ _ _ _) h' _ _ _ _⟩
end Go.Proofs.YtfenmogbellhdaaGreatDoor

namespace Go.Proofs.YtfenmogbellhdaaGreatDoor
open Go.RowKit

theorem whole_same {p q : Int} (h : nOf p = nOf q) : digs ((p.natAbs : Int) + (q.natAbs : Int)).toNat = lOf (p + q) ∧ nOf (p + q) = nOf p := by
  unfold nOf at *
  have hh : (p < 0 ↔ q < 0) := by
    constructor
    · intro a; rw [decide_eq_true a] at h; exact of_decide_eq_true h.symm
    · intro a; rw [decide_eq_true a] at h; exact of_decide_eq_true h
  unfold lOf
  constructor
  · congr 1; omega
  · by_cases a : p < 0
    · rw [decide_eq_true a, decide_eq_true (show p + q < 0 by omega)]
    · rw [decide_eq_false a, decide_eq_false (show ¬ p + q < 0 by omega)]
theorem whole_diff {p q : Int} (h : nOf p ≠ nOf q) (hl : q.natAbs ≤ p.natAbs) : digs ((p.natAbs : Int) - (q.natAbs : Int)).toNat = lOf (p + q) ∧ nOf (p + q) = (nOf p && decide (0 < (lOf (p + q)).length)) := by
  unfold nOf at *
  have hh : (p < 0 ↔ ¬ q < 0) := by
    constructor
    · intro a b; exact h (by rw [decide_eq_true a, decide_eq_true b])
    · intro a; refine Int.not_le.1 fun b => h ?_
      rw [decide_eq_false (by omega), decide_eq_false a]
  have e : ((p.natAbs : Int) - (q.natAbs : Int)).toNat = (p + q).natAbs := by omega
  refine ⟨by unfold lOf; rw [e], ?_⟩
  by_cases z : p + q = 0
  · rw [z, lOf_zero]; simp
  · have hp : 0 < (lOf (p + q)).length := by
      rcases Nat.eq_zero_or_pos (lOf (p + q)).length with h | h
      · exact absurd (lOf_nil.1 (List.eq_nil_of_length_eq_zero h)) z
      · exact h
    rw [decide_eq_true hp, Bool.and_true]
    by_cases a : p < 0
    · rw [decide_eq_true a, decide_eq_true (show p + q < 0 by omega)]
    · rw [decide_eq_false a, decide_eq_false (show ¬ p + q < 0 by omega)]
theorem wabs_len {p q : Int} (h : q.natAbs ≤ p.natAbs) : (lOf q).length ≤ (lOf p).length := by
  unfold lOf
  refine digs_len_le ?_
  have := digs_len_lt (n := p.natAbs) (k := (digs p.natAbs).length) (Nat.le_refl _)
  omega
theorem sum_len {p q : Int} {n : Nat} (hp : (lOf p).length ≤ n) (hq : (lOf q).length ≤ n) : (lOf (p + q)).length ≤ n + 1 := by
  unfold lOf at *
  have h1 := digs_len_lt hp
  have h2 := digs_len_lt hq
  refine digs_len_le ?_
  have := pw_succ n
  omega

set_option maxRecDepth 100000 in
set_option maxHeartbeats 4000000 in
/-- The reference's sum, of integers of any size. -/
theorem r3whole_any (p q : Int) (A B : Option Addr) (n c m d : Nat) (w : World) (ha : Sl w A n c (lOf p)) (hb : Sl w B m d (lOf q)) (n1 : n ≤ 900) (m1 : m ≤ 900) :
    Calls Tryz.prog 33 #[.agg #[.bool (nOf (p)), .slice A n c], .agg #[.bool (nOf (q)), .slice B m d]] w fun e w' => ∃ T k r, e = .returned (.agg #[.bool (nOf (p + q)), .slice T k r]) ∧ Sl w' T k r (lOf (p + q)) ∧ Below w.heap.size w w' := by
  have S1 := Lib.hid ha
  have S2 := Lib.hid hb
  clear ha hb
  by_cases hs : nOf p = nOf q
  · have HS := Lib.hid (whole_same hs)
    have HQ : Hid (nOf q = nOf p) := hs.symm
    obtain ⟨sp, hsp⟩ : ∃ sp, nOf p = sp := ⟨_, rfl⟩
    have HP := Lib.hid hsp
    rw [hsp] at HQ
    clear hs hsp
    have BW := Lib.hid (Below.refl w.heap.size w)
    go_enter Tryz.func33, Tryz.ntmps33
    go_upto_region 1 with fail
    have S1 := Lib.hid (S1.out.alloc (.cells #[.bool (nOf (p)), .slice A n c] 24))
    have S2 := Lib.hid (S2.out.alloc (.cells #[.bool (nOf (p)), .slice A n c] 24))
    have BW := Lib.hid (BW.out.alloc BW.out.size (.cells #[.bool (nOf (p)), .slice A n c] 24))
    have X1 := Lib.hid (Bk.new 24 w #[.bool (nOf (p)), .slice A n c])
    have S1 := Lib.hid (S1.out.alloc (.cells #[.bool (nOf (q)), .slice B m d] 24))
    have S2 := Lib.hid (S2.out.alloc (.cells #[.bool (nOf (q)), .slice B m d] 24))
    have BW := Lib.hid (BW.out.alloc BW.out.size (.cells #[.bool (nOf (q)), .slice B m d] 24))
    have X1 := Lib.hid (X1.out.alloc (.cells #[.bool (nOf (q)), .slice B m d] 24))
    have X2 := Lib.hid (Bk.new 24 (w.alloc (.cells #[.bool (nOf (p)), .slice A n c] 24)) #[.bool (nOf (q)), .slice B m d])
    rw [alloc_sz] at X2
    have S1 := Lib.hid (S1.out.alloc (.cells #[.bool false, .slice none 0 0] 24))
    have S2 := Lib.hid (S2.out.alloc (.cells #[.bool false, .slice none 0 0] 24))
    have BW := Lib.hid (BW.out.alloc BW.out.size (.cells #[.bool false, .slice none 0 0] 24))
    have X1 := Lib.hid (X1.out.alloc (.cells #[.bool false, .slice none 0 0] 24))
    have X2 := Lib.hid (X2.out.alloc (.cells #[.bool false, .slice none 0 0] 24))
    have X3 := Lib.hid (Bk.new 24 ((w.alloc (.cells #[.bool (nOf (p)), .slice A n c] 24)).alloc (.cells #[.bool (nOf (q)), .slice B m d] 24)) #[.bool false, .slice none 0 0])
    rw [alloc_sz, alloc_sz] at X3
    generalize (((w.alloc (.cells #[.bool (nOf (p)), .slice A n c] 24)).alloc (.cells #[.bool (nOf (q)), .slice B m d] 24)).alloc (.cells #[.bool false, .slice none 0 0] 24)) = W0 at *
    rw [HP.out] at X1
    rw [HQ.out] at X2
    have e0 : W0.cell? ⟨w.heap.size, 0, none⟩ = some (.bool sp) := X1.out.c 0 rfl
    have e1 : W0.cell? ⟨w.heap.size, 1, none⟩ = some (.slice A n c) := X1.out.c 1 rfl
    have e2 : W0.cell? ⟨w.heap.size + 1, 0, none⟩ = some (.bool sp) := X2.out.c 0 rfl
    have e3 : W0.cell? ⟨w.heap.size + 1, 1, none⟩ = some (.slice B m d) := X2.out.c 1 rfl
    go_upto_region 2 with fail
    clear e0 e1 e2 e3
    have e0 : W0.cell? ⟨w.heap.size, 0, none⟩ = some (.bool sp) := X1.out.c 0 rfl
    have e1 : W0.cell? ⟨w.heap.size, 1, none⟩ = some (.slice A n c) := X1.out.c 1 rfl
    have e2 : W0.cell? ⟨w.heap.size + 1, 0, none⟩ = some (.bool sp) := X2.out.c 0 rfl
    have e3 : W0.cell? ⟨w.heap.size + 1, 1, none⟩ = some (.slice B m d) := X2.out.c 1 rfl
    have iq1 : ¬ w.heap.size + 1 + 1 = w.heap.size := by omega
    have ir1 : ¬ w.heap.size = w.heap.size + 1 + 1 := by omega
    have iq2 : ¬ w.heap.size + 1 + 1 = w.heap.size + 1 := by omega
    have ir2 : ¬ w.heap.size + 1 = w.heap.size + 1 + 1 := by omega
    go_region_held3 (fun w' => w'.cell? ⟨w.heap.size, 0, none⟩ = some (.bool sp) ∧ w'.cell? ⟨w.heap.size, 1, none⟩ = some (.slice A n c) ∧ w'.cell? ⟨w.heap.size + 1, 0, none⟩ = some (.bool sp) ∧ w'.cell? ⟨w.heap.size + 1, 1, none⟩ = some (.slice B m d)) (go_keep)
      (first | (go_at_call 40; (with_reducible refine (r3plus_any A B n c m d (lOf p) (lOf q) _ (by first | exact S1.out | exact S1.out.drew) (by first | exact S2.out | exact S2.out.drew) (lOf_ok _) (lOf_ok _) (by omega) (by omega)).mono ?_); rintro e a1 ⟨T, k, r, rfl, hs, hb⟩; rw [val_lOf, val_lOf, HS.out.1] at hs; have BB1 := Lib.hid (show Below W0.heap.size W0 a1 from (by first | exact hb | exact (Below.refl _ _).drew.trans (hb.mono (Nat.le_refl _)))); have S3 := Lib.hid hs; clear hs; have f0 : a1.cell? ⟨w.heap.size, 0, none⟩ = some (.bool sp) := (X1.out.below BB1.out).c 0 rfl; have f1 : a1.cell? ⟨w.heap.size, 1, none⟩ = some (.slice A n c) := (X1.out.below BB1.out).c 1 rfl; have f2 : a1.cell? ⟨w.heap.size + 1, 0, none⟩ = some (.bool sp) := (X2.out.below BB1.out).c 0 rfl; have f3 : a1.cell? ⟨w.heap.size + 1, 1, none⟩ = some (.slice B m d) := (X2.out.below BB1.out).c 1 rfl; have g0 : a1.cell? ⟨w.heap.size + 1 + 1, 0, none⟩ = some (.bool false) := (X3.out.below BB1.out).c 0 rfl; have h0 := (X3.out.below BB1.out).fz 0; have g1 : a1.cell? ⟨w.heap.size + 1 + 1, 1, none⟩ = some (.slice none 0 0) := (X3.out.below BB1.out).c 1 rfl; have h1 := (X3.out.below BB1.out).fz 1; clear hb))
    clear e0 e1 e2 e3 iq1 ir1 iq2 ir2
    try clear f0 f1 f2 f3
    have S1 := Lib.hid (S1.out.below BB1.out)
    have S2 := Lib.hid (S2.out.below BB1.out)
    have BW := Lib.hid (below_on BW.out BB1.out)
    have X1 := Lib.hid (X1.out.below BB1.out)
    have X2 := Lib.hid (X2.out.below BB1.out)
    have X3 := Lib.hid (X3.out.below BB1.out)
    go_wp2_with fail
    refine bodyPost_ret (v := .agg #[.bool sp, .slice T k r]) (by simp [results, Tryz.results33, go_sem, *]) rfl ⟨T, k, r, by rw [HS.out.2, HP.out], S3.out.bk2 X3.out _ _, below_set2 BW.out (by omega) _ _⟩
  · rcases Bool.eq_false_or_eq_true (nOf p) with hp | hp
    · have hq : nOf q = false := by rcases Bool.eq_false_or_eq_true (nOf q) with h | h; exact absurd (hp.trans h.symm) hs; exact h
      by_cases hl : p.natAbs < q.natAbs
      · have HP := Lib.hid hp
        have HQ := Lib.hid hq
        have HD := Lib.hid (show nOf p ≠ nOf q by rw [hp, hq]; decide)
        have HL := Lib.hid hl
        have HS := Lib.hid (whole_diff (p := q) (q := p) (fun e => HD.out e.symm) (by omega))
        have HLEN := Lib.hid (wabs_len (p := q) (q := p) (by omega))
        have hl' : decide ((p.natAbs : Int) < (q.natAbs : Int)) = true := decide_eq_true (by omega)
        rw [Int.add_comm q p, hq] at HS
        clear hp hq hl
        have BW := Lib.hid (Below.refl w.heap.size w)
        go_enter Tryz.func33, Tryz.ntmps33
        go_upto_region 1 with fail
        have S1 := Lib.hid (S1.out.alloc (.cells #[.bool (nOf (p)), .slice A n c] 24))
        have S2 := Lib.hid (S2.out.alloc (.cells #[.bool (nOf (p)), .slice A n c] 24))
        have BW := Lib.hid (BW.out.alloc BW.out.size (.cells #[.bool (nOf (p)), .slice A n c] 24))
        have X1 := Lib.hid (Bk.new 24 w #[.bool (nOf (p)), .slice A n c])
        have S1 := Lib.hid (S1.out.alloc (.cells #[.bool (nOf (q)), .slice B m d] 24))
        have S2 := Lib.hid (S2.out.alloc (.cells #[.bool (nOf (q)), .slice B m d] 24))
        have BW := Lib.hid (BW.out.alloc BW.out.size (.cells #[.bool (nOf (q)), .slice B m d] 24))
        have X1 := Lib.hid (X1.out.alloc (.cells #[.bool (nOf (q)), .slice B m d] 24))
        have X2 := Lib.hid (Bk.new 24 (w.alloc (.cells #[.bool (nOf (p)), .slice A n c] 24)) #[.bool (nOf (q)), .slice B m d])
        rw [alloc_sz] at X2
        have S1 := Lib.hid (S1.out.alloc (.cells #[.bool false, .slice none 0 0] 24))
        have S2 := Lib.hid (S2.out.alloc (.cells #[.bool false, .slice none 0 0] 24))
        have BW := Lib.hid (BW.out.alloc BW.out.size (.cells #[.bool false, .slice none 0 0] 24))
        have X1 := Lib.hid (X1.out.alloc (.cells #[.bool false, .slice none 0 0] 24))
        have X2 := Lib.hid (X2.out.alloc (.cells #[.bool false, .slice none 0 0] 24))
        have X3 := Lib.hid (Bk.new 24 ((w.alloc (.cells #[.bool (nOf (p)), .slice A n c] 24)).alloc (.cells #[.bool (nOf (q)), .slice B m d] 24)) #[.bool false, .slice none 0 0])
        rw [alloc_sz, alloc_sz] at X3
        generalize (((w.alloc (.cells #[.bool (nOf (p)), .slice A n c] 24)).alloc (.cells #[.bool (nOf (q)), .slice B m d] 24)).alloc (.cells #[.bool false, .slice none 0 0] 24)) = W0 at *
        rw [HP.out] at X1
        rw [HQ.out] at X2
        have e0 : W0.cell? ⟨w.heap.size, 0, none⟩ = some (.bool true) := X1.out.c 0 rfl
        have e1 : W0.cell? ⟨w.heap.size, 1, none⟩ = some (.slice A n c) := X1.out.c 1 rfl
        have e2 : W0.cell? ⟨w.heap.size + 1, 0, none⟩ = some (.bool false) := X2.out.c 0 rfl
        have e3 : W0.cell? ⟨w.heap.size + 1, 1, none⟩ = some (.slice B m d) := X2.out.c 1 rfl
        go_wp2_with fail
        (refine (r3less_any A B n c m d (digs p.natAbs) (digs q.natAbs) _ S1.out S2.out (digs_ok _) (digs_ok _) (digs_top _) (digs_top _)).mono ?_; rintro e w1 ⟨rfl, q0, rfl⟩)
        rw [val_digs, val_digs, hl']
        clear e0 e1 e2 e3
        have S1 := Lib.hid (S1.out.drewN q0)
        have S2 := Lib.hid (S2.out.drewN q0)
        have BW := Lib.hid (below_drewN BW.out q0)
        have X1 := Lib.hid (show Bk 24 (W0.drewN q0) _ _ from X1.out)
        have X2 := Lib.hid (show Bk 24 (W0.drewN q0) _ _ from X2.out)
        have X3 := Lib.hid (show Bk 24 (W0.drewN q0) _ _ from X3.out)
        generalize W0.drewN q0 = W1 at *
        have e0 : W1.cell? ⟨w.heap.size, 0, none⟩ = some (.bool true) := X1.out.c 0 rfl
        have e1 : W1.cell? ⟨w.heap.size, 1, none⟩ = some (.slice A n c) := X1.out.c 1 rfl
        have e2 : W1.cell? ⟨w.heap.size + 1, 0, none⟩ = some (.bool false) := X2.out.c 0 rfl
        have e3 : W1.cell? ⟨w.heap.size + 1, 1, none⟩ = some (.slice B m d) := X2.out.c 1 rfl
        have z4 := X1.out.fz 0
        have z5 := X1.out.fz 1
        have z6 := X2.out.fz 0
        have z7 := X2.out.fz 1
        go_upto_region 5 with fail
        clear e0 e1 e2 e3 z4 z5 z6 z7
        have S1 := Lib.hid (S1.out.bk2 X1.out (.bool false) (.slice B m d))
        have S2 := Lib.hid (S2.out.bk2 X1.out (.bool false) (.slice B m d))
        have BW := Lib.hid (below_set2 BW.out (show w.heap.size ≤ w.heap.size by omega) (.bool false) (.slice B m d))
        have X2 := Lib.hid (X2.out.far2 (show w.heap.size + 1 ≠ w.heap.size by omega) (.bool false) (.slice B m d))
        have X3 := Lib.hid (X3.out.far2 (show w.heap.size + 1 + 1 ≠ w.heap.size by omega) (.bool false) (.slice B m d))
        have X1 := Lib.hid (X1.out.set2 (.bool false) (.slice B m d))
        have S1 := Lib.hid (S1.out.bk2 X2.out (.bool true) (.slice A n c))
        have S2 := Lib.hid (S2.out.bk2 X2.out (.bool true) (.slice A n c))
        have BW := Lib.hid (below_set2 BW.out (show w.heap.size ≤ w.heap.size + 1 by omega) (.bool true) (.slice A n c))
        have X1 := Lib.hid (X1.out.far2 (show w.heap.size ≠ w.heap.size + 1 by omega) (.bool true) (.slice A n c))
        have X3 := Lib.hid (X3.out.far2 (show w.heap.size + 1 + 1 ≠ w.heap.size + 1 by omega) (.bool true) (.slice A n c))
        have X2 := Lib.hid (X2.out.set2 (.bool true) (.slice A n c))
        generalize ((((W1.setCell ⟨w.heap.size, 0, none⟩ (.bool false)).setCell ⟨w.heap.size, 1, none⟩ (.slice B m d)).setCell ⟨w.heap.size + 1, 0, none⟩ (.bool true)).setCell ⟨w.heap.size + 1, 1, none⟩ (.slice A n c)) = W2 at *
        have e0 : W2.cell? ⟨w.heap.size, 0, none⟩ = some (.bool false) := X1.out.c 0 rfl
        have e1 : W2.cell? ⟨w.heap.size, 1, none⟩ = some (.slice B m d) := X1.out.c 1 rfl
        have e2 : W2.cell? ⟨w.heap.size + 1, 0, none⟩ = some (.bool true) := X2.out.c 0 rfl
        have e3 : W2.cell? ⟨w.heap.size + 1, 1, none⟩ = some (.slice A n c) := X2.out.c 1 rfl
        go_wp2_with fail
        ((with_reducible refine (r3minus_any B A m d n c (digs q.natAbs) (digs p.natAbs) _ S2.out S1.out (digs_ok _) (digs_ok _) (by omega) (by have h := HLEN.out; rw [S1.out.len, S2.out.len] at h; exact h) (by rw [val_digs, val_digs]; have := HL.out; omega)).mono ?_); rintro e w3 ⟨T, k, r, rfl, hs, hb⟩)
        rw [val_digs, val_digs, HS.out.1] at hs
        clear e0 e1 e2 e3
        have S1 := Lib.hid (S1.out.below hb)
        have S2 := Lib.hid (S2.out.below hb)
        have BW := Lib.hid (below_on BW.out hb)
        have X1 := Lib.hid (X1.out.below hb)
        have X2 := Lib.hid (X2.out.below hb)
        have X3 := Lib.hid (X3.out.below hb)
        clear hb
        have S3 := Lib.hid hs
        clear hs
        have HN := HS.out.2
        rw [S3.out.len] at HN
        have HN := Lib.hid HN
        have HNV : Hid (nOf (p + q) = false) := by show nOf (p + q) = false; rw [HN.out]; rfl
        have e0 : w3.cell? ⟨w.heap.size, 0, none⟩ = some (.bool false) := X1.out.c 0 rfl
        have e1 : w3.cell? ⟨w.heap.size, 1, none⟩ = some (.slice B m d) := X1.out.c 1 rfl
        have e2 : w3.cell? ⟨w.heap.size + 1, 0, none⟩ = some (.bool true) := X2.out.c 0 rfl
        have e3 : w3.cell? ⟨w.heap.size + 1, 1, none⟩ = some (.slice A n c) := X2.out.c 1 rfl
        have e4 : w3.cell? ⟨w.heap.size + 1 + 1, 0, none⟩ = some (.bool false) := X3.out.c 0 rfl
        have e5 : w3.cell? ⟨w.heap.size + 1 + 1, 1, none⟩ = some (.slice none 0 0) := X3.out.c 1 rfl
        have z6 := X3.out.fz 0
        have z7 := X3.out.fz 1
        go_wp2_with fail
        refine bodyPost_ret (v := .agg #[.bool false, .slice T k r]) (by simp [results, Tryz.results33, go_sem, *]) rfl ⟨T, k, r, by rw [HNV.out], S3.out.bk2 X3.out _ _, below_set2 BW.out (by omega) _ _⟩
      · have HP := Lib.hid hp
        have HQ := Lib.hid hq
        have HD := Lib.hid (show nOf p ≠ nOf q by rw [hp, hq]; decide)
        have HL := Lib.hid hl
        have HS := Lib.hid (whole_diff (p := p) (q := q) HD.out (by omega))
        have HLEN := Lib.hid (wabs_len (p := p) (q := q) (by omega))
        have hl' : decide ((p.natAbs : Int) < (q.natAbs : Int)) = false := decide_eq_false (by omega)
        rw [hp] at HS
        clear hp hq hl
        have BW := Lib.hid (Below.refl w.heap.size w)
        go_enter Tryz.func33, Tryz.ntmps33
        go_upto_region 1 with fail
        have S1 := Lib.hid (S1.out.alloc (.cells #[.bool (nOf (p)), .slice A n c] 24))
        have S2 := Lib.hid (S2.out.alloc (.cells #[.bool (nOf (p)), .slice A n c] 24))
        have BW := Lib.hid (BW.out.alloc BW.out.size (.cells #[.bool (nOf (p)), .slice A n c] 24))
        have X1 := Lib.hid (Bk.new 24 w #[.bool (nOf (p)), .slice A n c])
        have S1 := Lib.hid (S1.out.alloc (.cells #[.bool (nOf (q)), .slice B m d] 24))
        have S2 := Lib.hid (S2.out.alloc (.cells #[.bool (nOf (q)), .slice B m d] 24))
        have BW := Lib.hid (BW.out.alloc BW.out.size (.cells #[.bool (nOf (q)), .slice B m d] 24))
        have X1 := Lib.hid (X1.out.alloc (.cells #[.bool (nOf (q)), .slice B m d] 24))
        have X2 := Lib.hid (Bk.new 24 (w.alloc (.cells #[.bool (nOf (p)), .slice A n c] 24)) #[.bool (nOf (q)), .slice B m d])
        rw [alloc_sz] at X2
        have S1 := Lib.hid (S1.out.alloc (.cells #[.bool false, .slice none 0 0] 24))
        have S2 := Lib.hid (S2.out.alloc (.cells #[.bool false, .slice none 0 0] 24))
        have BW := Lib.hid (BW.out.alloc BW.out.size (.cells #[.bool false, .slice none 0 0] 24))
        have X1 := Lib.hid (X1.out.alloc (.cells #[.bool false, .slice none 0 0] 24))
        have X2 := Lib.hid (X2.out.alloc (.cells #[.bool false, .slice none 0 0] 24))
        have X3 := Lib.hid (Bk.new 24 ((w.alloc (.cells #[.bool (nOf (p)), .slice A n c] 24)).alloc (.cells #[.bool (nOf (q)), .slice B m d] 24)) #[.bool false, .slice none 0 0])
        rw [alloc_sz, alloc_sz] at X3
        generalize (((w.alloc (.cells #[.bool (nOf (p)), .slice A n c] 24)).alloc (.cells #[.bool (nOf (q)), .slice B m d] 24)).alloc (.cells #[.bool false, .slice none 0 0] 24)) = W0 at *
        rw [HP.out] at X1
        rw [HQ.out] at X2
        have e0 : W0.cell? ⟨w.heap.size, 0, none⟩ = some (.bool true) := X1.out.c 0 rfl
        have e1 : W0.cell? ⟨w.heap.size, 1, none⟩ = some (.slice A n c) := X1.out.c 1 rfl
        have e2 : W0.cell? ⟨w.heap.size + 1, 0, none⟩ = some (.bool false) := X2.out.c 0 rfl
        have e3 : W0.cell? ⟨w.heap.size + 1, 1, none⟩ = some (.slice B m d) := X2.out.c 1 rfl
        go_wp2_with fail
        (refine (r3less_any A B n c m d (digs p.natAbs) (digs q.natAbs) _ S1.out S2.out (digs_ok _) (digs_ok _) (digs_top _) (digs_top _)).mono ?_; rintro e w1 ⟨rfl, q0, rfl⟩)
        rw [val_digs, val_digs, hl']
        clear e0 e1 e2 e3
        have S1 := Lib.hid (S1.out.drewN q0)
        have S2 := Lib.hid (S2.out.drewN q0)
        have BW := Lib.hid (below_drewN BW.out q0)
        have X1 := Lib.hid (show Bk 24 (W0.drewN q0) _ _ from X1.out)
        have X2 := Lib.hid (show Bk 24 (W0.drewN q0) _ _ from X2.out)
        have X3 := Lib.hid (show Bk 24 (W0.drewN q0) _ _ from X3.out)
        generalize W0.drewN q0 = W1 at *
        have e0 : W1.cell? ⟨w.heap.size, 0, none⟩ = some (.bool true) := X1.out.c 0 rfl
        have e1 : W1.cell? ⟨w.heap.size, 1, none⟩ = some (.slice A n c) := X1.out.c 1 rfl
        have e2 : W1.cell? ⟨w.heap.size + 1, 0, none⟩ = some (.bool false) := X2.out.c 0 rfl
        have e3 : W1.cell? ⟨w.heap.size + 1, 1, none⟩ = some (.slice B m d) := X2.out.c 1 rfl
        go_wp2_with fail
        ((with_reducible refine (r3minus_any A B n c m d (digs p.natAbs) (digs q.natAbs) _ S1.out S2.out (digs_ok _) (digs_ok _) (by omega) (by have h := HLEN.out; rw [S1.out.len, S2.out.len] at h; exact h) (by rw [val_digs, val_digs]; have := HL.out; omega)).mono ?_); rintro e w3 ⟨T, k, r, rfl, hs, hb⟩)
        rw [val_digs, val_digs, HS.out.1] at hs
        clear e0 e1 e2 e3
        have S1 := Lib.hid (S1.out.below hb)
        have S2 := Lib.hid (S2.out.below hb)
        have BW := Lib.hid (below_on BW.out hb)
        have X1 := Lib.hid (X1.out.below hb)
        have X2 := Lib.hid (X2.out.below hb)
        have X3 := Lib.hid (X3.out.below hb)
        clear hb
        have S3 := Lib.hid hs
        clear hs
        have HN := HS.out.2
        rw [S3.out.len] at HN
        have HN := Lib.hid HN
        by_cases u2 : 0 < k
        · have HNV : Hid (nOf (p + q) = true) := by show nOf (p + q) = true; rw [HN.out]; simp [u2]
          have u3 : (0 : Int) < (k : Int) := by omega
          have e0 : w3.cell? ⟨w.heap.size, 0, none⟩ = some (.bool true) := X1.out.c 0 rfl
          have e1 : w3.cell? ⟨w.heap.size, 1, none⟩ = some (.slice A n c) := X1.out.c 1 rfl
          have e2 : w3.cell? ⟨w.heap.size + 1, 0, none⟩ = some (.bool false) := X2.out.c 0 rfl
          have e3 : w3.cell? ⟨w.heap.size + 1, 1, none⟩ = some (.slice B m d) := X2.out.c 1 rfl
          have e4 : w3.cell? ⟨w.heap.size + 1 + 1, 0, none⟩ = some (.bool false) := X3.out.c 0 rfl
          have e5 : w3.cell? ⟨w.heap.size + 1 + 1, 1, none⟩ = some (.slice none 0 0) := X3.out.c 1 rfl
          have z6 := X3.out.fz 0
          have z7 := X3.out.fz 1
          go_wp2_with fail
          refine bodyPost_ret (v := .agg #[.bool true, .slice T k r]) (by simp [results, Tryz.results33, go_sem, *]) rfl ⟨T, k, r, by rw [HNV.out], S3.out.bk2 X3.out _ _, below_set2 BW.out (by omega) _ _⟩
        · have HNV : Hid (nOf (p + q) = false) := by show nOf (p + q) = false; rw [HN.out]; simp [u2]
          have u3 : ¬ (0 : Int) < (k : Int) := by omega
          have e0 : w3.cell? ⟨w.heap.size, 0, none⟩ = some (.bool true) := X1.out.c 0 rfl
          have e1 : w3.cell? ⟨w.heap.size, 1, none⟩ = some (.slice A n c) := X1.out.c 1 rfl
          have e2 : w3.cell? ⟨w.heap.size + 1, 0, none⟩ = some (.bool false) := X2.out.c 0 rfl
          have e3 : w3.cell? ⟨w.heap.size + 1, 1, none⟩ = some (.slice B m d) := X2.out.c 1 rfl
          have e4 : w3.cell? ⟨w.heap.size + 1 + 1, 0, none⟩ = some (.bool false) := X3.out.c 0 rfl
          have e5 : w3.cell? ⟨w.heap.size + 1 + 1, 1, none⟩ = some (.slice none 0 0) := X3.out.c 1 rfl
          have z6 := X3.out.fz 0
          have z7 := X3.out.fz 1
          go_wp2_with fail
          refine bodyPost_ret (v := .agg #[.bool false, .slice T k r]) (by simp [results, Tryz.results33, go_sem, *]) rfl ⟨T, k, r, by rw [HNV.out], S3.out.bk2 X3.out _ _, below_set2 BW.out (by omega) _ _⟩
    · have hq : nOf q = true := by rcases Bool.eq_false_or_eq_true (nOf q) with h | h; exact h; exact absurd (hp.trans h.symm) hs
      by_cases hl : p.natAbs < q.natAbs
      · have HP := Lib.hid hp
        have HQ := Lib.hid hq
        have HD := Lib.hid (show nOf p ≠ nOf q by rw [hp, hq]; decide)
        have HL := Lib.hid hl
        have HS := Lib.hid (whole_diff (p := q) (q := p) (fun e => HD.out e.symm) (by omega))
        have HLEN := Lib.hid (wabs_len (p := q) (q := p) (by omega))
        have hl' : decide ((p.natAbs : Int) < (q.natAbs : Int)) = true := decide_eq_true (by omega)
        rw [Int.add_comm q p, hq] at HS
        clear hp hq hl
        have BW := Lib.hid (Below.refl w.heap.size w)
        go_enter Tryz.func33, Tryz.ntmps33
        go_upto_region 1 with fail
        have S1 := Lib.hid (S1.out.alloc (.cells #[.bool (nOf (p)), .slice A n c] 24))
        have S2 := Lib.hid (S2.out.alloc (.cells #[.bool (nOf (p)), .slice A n c] 24))
        have BW := Lib.hid (BW.out.alloc BW.out.size (.cells #[.bool (nOf (p)), .slice A n c] 24))
        have X1 := Lib.hid (Bk.new 24 w #[.bool (nOf (p)), .slice A n c])
        have S1 := Lib.hid (S1.out.alloc (.cells #[.bool (nOf (q)), .slice B m d] 24))
        have S2 := Lib.hid (S2.out.alloc (.cells #[.bool (nOf (q)), .slice B m d] 24))
        have BW := Lib.hid (BW.out.alloc BW.out.size (.cells #[.bool (nOf (q)), .slice B m d] 24))
        have X1 := Lib.hid (X1.out.alloc (.cells #[.bool (nOf (q)), .slice B m d] 24))
        have X2 := Lib.hid (Bk.new 24 (w.alloc (.cells #[.bool (nOf (p)), .slice A n c] 24)) #[.bool (nOf (q)), .slice B m d])
        rw [alloc_sz] at X2
        have S1 := Lib.hid (S1.out.alloc (.cells #[.bool false, .slice none 0 0] 24))
        have S2 := Lib.hid (S2.out.alloc (.cells #[.bool false, .slice none 0 0] 24))
        have BW := Lib.hid (BW.out.alloc BW.out.size (.cells #[.bool false, .slice none 0 0] 24))
        have X1 := Lib.hid (X1.out.alloc (.cells #[.bool false, .slice none 0 0] 24))
        have X2 := Lib.hid (X2.out.alloc (.cells #[.bool false, .slice none 0 0] 24))
        have X3 := Lib.hid (Bk.new 24 ((w.alloc (.cells #[.bool (nOf (p)), .slice A n c] 24)).alloc (.cells #[.bool (nOf (q)), .slice B m d] 24)) #[.bool false, .slice none 0 0])
        rw [alloc_sz, alloc_sz] at X3
        generalize (((w.alloc (.cells #[.bool (nOf (p)), .slice A n c] 24)).alloc (.cells #[.bool (nOf (q)), .slice B m d] 24)).alloc (.cells #[.bool false, .slice none 0 0] 24)) = W0 at *
        rw [HP.out] at X1
        rw [HQ.out] at X2
        have e0 : W0.cell? ⟨w.heap.size, 0, none⟩ = some (.bool false) := X1.out.c 0 rfl
        have e1 : W0.cell? ⟨w.heap.size, 1, none⟩ = some (.slice A n c) := X1.out.c 1 rfl
        have e2 : W0.cell? ⟨w.heap.size + 1, 0, none⟩ = some (.bool true) := X2.out.c 0 rfl
        have e3 : W0.cell? ⟨w.heap.size + 1, 1, none⟩ = some (.slice B m d) := X2.out.c 1 rfl
        go_wp2_with fail
        (refine (r3less_any A B n c m d (digs p.natAbs) (digs q.natAbs) _ S1.out S2.out (digs_ok _) (digs_ok _) (digs_top _) (digs_top _)).mono ?_; rintro e w1 ⟨rfl, q0, rfl⟩)
        rw [val_digs, val_digs, hl']
        clear e0 e1 e2 e3
        have S1 := Lib.hid (S1.out.drewN q0)
        have S2 := Lib.hid (S2.out.drewN q0)
        have BW := Lib.hid (below_drewN BW.out q0)
        have X1 := Lib.hid (show Bk 24 (W0.drewN q0) _ _ from X1.out)
        have X2 := Lib.hid (show Bk 24 (W0.drewN q0) _ _ from X2.out)
        have X3 := Lib.hid (show Bk 24 (W0.drewN q0) _ _ from X3.out)
        generalize W0.drewN q0 = W1 at *
        have e0 : W1.cell? ⟨w.heap.size, 0, none⟩ = some (.bool false) := X1.out.c 0 rfl
        have e1 : W1.cell? ⟨w.heap.size, 1, none⟩ = some (.slice A n c) := X1.out.c 1 rfl
        have e2 : W1.cell? ⟨w.heap.size + 1, 0, none⟩ = some (.bool true) := X2.out.c 0 rfl
        have e3 : W1.cell? ⟨w.heap.size + 1, 1, none⟩ = some (.slice B m d) := X2.out.c 1 rfl
        have z4 := X1.out.fz 0
        have z5 := X1.out.fz 1
        have z6 := X2.out.fz 0
        have z7 := X2.out.fz 1
        go_upto_region 5 with fail
        clear e0 e1 e2 e3 z4 z5 z6 z7
        have S1 := Lib.hid (S1.out.bk2 X1.out (.bool true) (.slice B m d))
        have S2 := Lib.hid (S2.out.bk2 X1.out (.bool true) (.slice B m d))
        have BW := Lib.hid (below_set2 BW.out (show w.heap.size ≤ w.heap.size by omega) (.bool true) (.slice B m d))
        have X2 := Lib.hid (X2.out.far2 (show w.heap.size + 1 ≠ w.heap.size by omega) (.bool true) (.slice B m d))
        have X3 := Lib.hid (X3.out.far2 (show w.heap.size + 1 + 1 ≠ w.heap.size by omega) (.bool true) (.slice B m d))
        have X1 := Lib.hid (X1.out.set2 (.bool true) (.slice B m d))
        have S1 := Lib.hid (S1.out.bk2 X2.out (.bool false) (.slice A n c))
        have S2 := Lib.hid (S2.out.bk2 X2.out (.bool false) (.slice A n c))
        have BW := Lib.hid (below_set2 BW.out (show w.heap.size ≤ w.heap.size + 1 by omega) (.bool false) (.slice A n c))
        have X1 := Lib.hid (X1.out.far2 (show w.heap.size ≠ w.heap.size + 1 by omega) (.bool false) (.slice A n c))
        have X3 := Lib.hid (X3.out.far2 (show w.heap.size + 1 + 1 ≠ w.heap.size + 1 by omega) (.bool false) (.slice A n c))
        have X2 := Lib.hid (X2.out.set2 (.bool false) (.slice A n c))
        generalize ((((W1.setCell ⟨w.heap.size, 0, none⟩ (.bool true)).setCell ⟨w.heap.size, 1, none⟩ (.slice B m d)).setCell ⟨w.heap.size + 1, 0, none⟩ (.bool false)).setCell ⟨w.heap.size + 1, 1, none⟩ (.slice A n c)) = W2 at *
        have e0 : W2.cell? ⟨w.heap.size, 0, none⟩ = some (.bool true) := X1.out.c 0 rfl
        have e1 : W2.cell? ⟨w.heap.size, 1, none⟩ = some (.slice B m d) := X1.out.c 1 rfl
        have e2 : W2.cell? ⟨w.heap.size + 1, 0, none⟩ = some (.bool false) := X2.out.c 0 rfl
        have e3 : W2.cell? ⟨w.heap.size + 1, 1, none⟩ = some (.slice A n c) := X2.out.c 1 rfl
        go_wp2_with fail
        ((with_reducible refine (r3minus_any B A m d n c (digs q.natAbs) (digs p.natAbs) _ S2.out S1.out (digs_ok _) (digs_ok _) (by omega) (by have h := HLEN.out; rw [S1.out.len, S2.out.len] at h; exact h) (by rw [val_digs, val_digs]; have := HL.out; omega)).mono ?_); rintro e w3 ⟨T, k, r, rfl, hs, hb⟩)
        rw [val_digs, val_digs, HS.out.1] at hs
        clear e0 e1 e2 e3
        have S1 := Lib.hid (S1.out.below hb)
        have S2 := Lib.hid (S2.out.below hb)
        have BW := Lib.hid (below_on BW.out hb)
        have X1 := Lib.hid (X1.out.below hb)
        have X2 := Lib.hid (X2.out.below hb)
        have X3 := Lib.hid (X3.out.below hb)
        clear hb
        have S3 := Lib.hid hs
        clear hs
        have HN := HS.out.2
        rw [S3.out.len] at HN
        have HN := Lib.hid HN
        by_cases u2 : 0 < k
        · have HNV : Hid (nOf (p + q) = true) := by show nOf (p + q) = true; rw [HN.out]; simp [u2]
          have u3 : (0 : Int) < (k : Int) := by omega
          have e0 : w3.cell? ⟨w.heap.size, 0, none⟩ = some (.bool true) := X1.out.c 0 rfl
          have e1 : w3.cell? ⟨w.heap.size, 1, none⟩ = some (.slice B m d) := X1.out.c 1 rfl
          have e2 : w3.cell? ⟨w.heap.size + 1, 0, none⟩ = some (.bool false) := X2.out.c 0 rfl
          have e3 : w3.cell? ⟨w.heap.size + 1, 1, none⟩ = some (.slice A n c) := X2.out.c 1 rfl
          have e4 : w3.cell? ⟨w.heap.size + 1 + 1, 0, none⟩ = some (.bool false) := X3.out.c 0 rfl
          have e5 : w3.cell? ⟨w.heap.size + 1 + 1, 1, none⟩ = some (.slice none 0 0) := X3.out.c 1 rfl
          have z6 := X3.out.fz 0
          have z7 := X3.out.fz 1
          go_wp2_with fail
          refine bodyPost_ret (v := .agg #[.bool true, .slice T k r]) (by simp [results, Tryz.results33, go_sem, *]) rfl ⟨T, k, r, by rw [HNV.out], S3.out.bk2 X3.out _ _, below_set2 BW.out (by omega) _ _⟩
        · have HNV : Hid (nOf (p + q) = false) := by show nOf (p + q) = false; rw [HN.out]; simp [u2]
          have u3 : ¬ (0 : Int) < (k : Int) := by omega
          have e0 : w3.cell? ⟨w.heap.size, 0, none⟩ = some (.bool true) := X1.out.c 0 rfl
          have e1 : w3.cell? ⟨w.heap.size, 1, none⟩ = some (.slice B m d) := X1.out.c 1 rfl
          have e2 : w3.cell? ⟨w.heap.size + 1, 0, none⟩ = some (.bool false) := X2.out.c 0 rfl
          have e3 : w3.cell? ⟨w.heap.size + 1, 1, none⟩ = some (.slice A n c) := X2.out.c 1 rfl
          have e4 : w3.cell? ⟨w.heap.size + 1 + 1, 0, none⟩ = some (.bool false) := X3.out.c 0 rfl
          have e5 : w3.cell? ⟨w.heap.size + 1 + 1, 1, none⟩ = some (.slice none 0 0) := X3.out.c 1 rfl
          have z6 := X3.out.fz 0
          have z7 := X3.out.fz 1
          go_wp2_with fail
          refine bodyPost_ret (v := .agg #[.bool false, .slice T k r]) (by simp [results, Tryz.results33, go_sem, *]) rfl ⟨T, k, r, by rw [HNV.out], S3.out.bk2 X3.out _ _, below_set2 BW.out (by omega) _ _⟩
      · have HP := Lib.hid hp
        have HQ := Lib.hid hq
        have HD := Lib.hid (show nOf p ≠ nOf q by rw [hp, hq]; decide)
        have HL := Lib.hid hl
        have HS := Lib.hid (whole_diff (p := p) (q := q) HD.out (by omega))
        have HLEN := Lib.hid (wabs_len (p := p) (q := q) (by omega))
        have hl' : decide ((p.natAbs : Int) < (q.natAbs : Int)) = false := decide_eq_false (by omega)
        rw [hp] at HS
        clear hp hq hl
        have BW := Lib.hid (Below.refl w.heap.size w)
        go_enter Tryz.func33, Tryz.ntmps33
        go_upto_region 1 with fail
        have S1 := Lib.hid (S1.out.alloc (.cells #[.bool (nOf (p)), .slice A n c] 24))
        have S2 := Lib.hid (S2.out.alloc (.cells #[.bool (nOf (p)), .slice A n c] 24))
        have BW := Lib.hid (BW.out.alloc BW.out.size (.cells #[.bool (nOf (p)), .slice A n c] 24))
        have X1 := Lib.hid (Bk.new 24 w #[.bool (nOf (p)), .slice A n c])
        have S1 := Lib.hid (S1.out.alloc (.cells #[.bool (nOf (q)), .slice B m d] 24))
        have S2 := Lib.hid (S2.out.alloc (.cells #[.bool (nOf (q)), .slice B m d] 24))
        have BW := Lib.hid (BW.out.alloc BW.out.size (.cells #[.bool (nOf (q)), .slice B m d] 24))
        have X1 := Lib.hid (X1.out.alloc (.cells #[.bool (nOf (q)), .slice B m d] 24))
        have X2 := Lib.hid (Bk.new 24 (w.alloc (.cells #[.bool (nOf (p)), .slice A n c] 24)) #[.bool (nOf (q)), .slice B m d])
        rw [alloc_sz] at X2
        have S1 := Lib.hid (S1.out.alloc (.cells #[.bool false, .slice none 0 0] 24))
        have S2 := Lib.hid (S2.out.alloc (.cells #[.bool false, .slice none 0 0] 24))
        have BW := Lib.hid (BW.out.alloc BW.out.size (.cells #[.bool false, .slice none 0 0] 24))
        have X1 := Lib.hid (X1.out.alloc (.cells #[.bool false, .slice none 0 0] 24))
        have X2 := Lib.hid (X2.out.alloc (.cells #[.bool false, .slice none 0 0] 24))
        have X3 := Lib.hid (Bk.new 24 ((w.alloc (.cells #[.bool (nOf (p)), .slice A n c] 24)).alloc (.cells #[.bool (nOf (q)), .slice B m d] 24)) #[.bool false, .slice none 0 0])
        rw [alloc_sz, alloc_sz] at X3
        generalize (((w.alloc (.cells #[.bool (nOf (p)), .slice A n c] 24)).alloc (.cells #[.bool (nOf (q)), .slice B m d] 24)).alloc (.cells #[.bool false, .slice none 0 0] 24)) = W0 at *
        rw [HP.out] at X1
        rw [HQ.out] at X2
        have e0 : W0.cell? ⟨w.heap.size, 0, none⟩ = some (.bool false) := X1.out.c 0 rfl
        have e1 : W0.cell? ⟨w.heap.size, 1, none⟩ = some (.slice A n c) := X1.out.c 1 rfl
        have e2 : W0.cell? ⟨w.heap.size + 1, 0, none⟩ = some (.bool true) := X2.out.c 0 rfl
        have e3 : W0.cell? ⟨w.heap.size + 1, 1, none⟩ = some (.slice B m d) := X2.out.c 1 rfl
        go_wp2_with fail
        (refine (r3less_any A B n c m d (digs p.natAbs) (digs q.natAbs) _ S1.out S2.out (digs_ok _) (digs_ok _) (digs_top _) (digs_top _)).mono ?_; rintro e w1 ⟨rfl, q0, rfl⟩)
        rw [val_digs, val_digs, hl']
        clear e0 e1 e2 e3
        have S1 := Lib.hid (S1.out.drewN q0)
        have S2 := Lib.hid (S2.out.drewN q0)
        have BW := Lib.hid (below_drewN BW.out q0)
        have X1 := Lib.hid (show Bk 24 (W0.drewN q0) _ _ from X1.out)
        have X2 := Lib.hid (show Bk 24 (W0.drewN q0) _ _ from X2.out)
        have X3 := Lib.hid (show Bk 24 (W0.drewN q0) _ _ from X3.out)
        generalize W0.drewN q0 = W1 at *
        have e0 : W1.cell? ⟨w.heap.size, 0, none⟩ = some (.bool false) := X1.out.c 0 rfl
        have e1 : W1.cell? ⟨w.heap.size, 1, none⟩ = some (.slice A n c) := X1.out.c 1 rfl
        have e2 : W1.cell? ⟨w.heap.size + 1, 0, none⟩ = some (.bool true) := X2.out.c 0 rfl
        have e3 : W1.cell? ⟨w.heap.size + 1, 1, none⟩ = some (.slice B m d) := X2.out.c 1 rfl
        go_wp2_with fail
        ((with_reducible refine (r3minus_any A B n c m d (digs p.natAbs) (digs q.natAbs) _ S1.out S2.out (digs_ok _) (digs_ok _) (by omega) (by have h := HLEN.out; rw [S1.out.len, S2.out.len] at h; exact h) (by rw [val_digs, val_digs]; have := HL.out; omega)).mono ?_); rintro e w3 ⟨T, k, r, rfl, hs, hb⟩)
        rw [val_digs, val_digs, HS.out.1] at hs
        clear e0 e1 e2 e3
        have S1 := Lib.hid (S1.out.below hb)
        have S2 := Lib.hid (S2.out.below hb)
        have BW := Lib.hid (below_on BW.out hb)
        have X1 := Lib.hid (X1.out.below hb)
        have X2 := Lib.hid (X2.out.below hb)
        have X3 := Lib.hid (X3.out.below hb)
        clear hb
        have S3 := Lib.hid hs
        clear hs
        have HN := HS.out.2
        rw [S3.out.len] at HN
        have HN := Lib.hid HN
        have HNV : Hid (nOf (p + q) = false) := by show nOf (p + q) = false; rw [HN.out]; rfl
        have e0 : w3.cell? ⟨w.heap.size, 0, none⟩ = some (.bool false) := X1.out.c 0 rfl
        have e1 : w3.cell? ⟨w.heap.size, 1, none⟩ = some (.slice A n c) := X1.out.c 1 rfl
        have e2 : w3.cell? ⟨w.heap.size + 1, 0, none⟩ = some (.bool true) := X2.out.c 0 rfl
        have e3 : w3.cell? ⟨w.heap.size + 1, 1, none⟩ = some (.slice B m d) := X2.out.c 1 rfl
        have e4 : w3.cell? ⟨w.heap.size + 1 + 1, 0, none⟩ = some (.bool false) := X3.out.c 0 rfl
        have e5 : w3.cell? ⟨w.heap.size + 1 + 1, 1, none⟩ = some (.slice none 0 0) := X3.out.c 1 rfl
        have z6 := X3.out.fz 0
        have z7 := X3.out.fz 1
        go_wp2_with fail
        refine bodyPost_ret (v := .agg #[.bool false, .slice T k r]) (by simp [results, Tryz.results33, go_sem, *]) rfl ⟨T, k, r, by rw [HNV.out], S3.out.bk2 X3.out _ _, below_set2 BW.out (by omega) _ _⟩

theorem neg_len (p : Int) : nOf (-p) = (!nOf p && decide (0 < (lOf p).length)) := by
  unfold nOf
  by_cases h0 : p = 0
  · rw [h0, lOf_zero]; simp
  · have hp : 0 < (lOf p).length := by
      rcases Nat.eq_zero_or_pos (lOf p).length with h | h
      · exact absurd (lOf_nil.1 (List.eq_nil_of_length_eq_zero h)) h0
      · exact h
    rw [decide_eq_true hp, Bool.and_true]
    by_cases a : p < 0
    · rw [decide_eq_true a, decide_eq_false (show ¬ -p < 0 by omega)]; rfl
    · rw [decide_eq_false a, decide_eq_true (show -p < 0 by omega)]; rfl
set_option maxHeartbeats 2000000 in
theorem r3opp_any (na nb : Bool) (A B : Option Addr) (n c m d : Nat) (xs ys : List Int) (w : World) (ha : Sl w A n c xs) (hb : Sl w B m d ys) :
    Calls Tryz.prog 35 #[.agg #[.bool na, .slice A n c, .bool nb, .slice B m d]] w fun e w' => ∃ T k r U l s, e = .returned (.agg #[.bool (nOf (-(frN na xs nb ys))), .slice T k r, .bool (nOf (frD na xs nb ys)), .slice U l s]) ∧ Sl w' T k r (lOf (-(frN na xs nb ys))) ∧ Sl w' U l s (lOf (frD na xs nb ys)) ∧ Below w.heap.size w w' := by
  have S1 := Lib.hid ha
  have S2 := Lib.hid hb
  clear ha hb
  have BW := Lib.hid (Below.refl w.heap.size w)
  go_enter Tryz.func35, Tryz.ntmps35
  go_upto_region 1 with fail
  have S1 := Lib.hid (S1.out.alloc (.cells #[.bool na, .slice A n c, .bool nb, .slice B m d] 26))
  have S2 := Lib.hid (S2.out.alloc (.cells #[.bool na, .slice A n c, .bool nb, .slice B m d] 26))
  have BW := Lib.hid (BW.out.alloc BW.out.size (.cells #[.bool na, .slice A n c, .bool nb, .slice B m d] 26))
  have X1 := Lib.hid (Bk.new 26 w #[.bool na, .slice A n c, .bool nb, .slice B m d])
  have S1 := Lib.hid (S1.out.alloc (.cells #[.bool false, .slice none 0 0, .bool false, .slice none 0 0] 26))
  have S2 := Lib.hid (S2.out.alloc (.cells #[.bool false, .slice none 0 0, .bool false, .slice none 0 0] 26))
  have BW := Lib.hid (BW.out.alloc BW.out.size (.cells #[.bool false, .slice none 0 0, .bool false, .slice none 0 0] 26))
  have X1 := Lib.hid (X1.out.alloc (.cells #[.bool false, .slice none 0 0, .bool false, .slice none 0 0] 26))
  have X2 := Lib.hid (Bk.new 26 (w.alloc (.cells #[.bool na, .slice A n c, .bool nb, .slice B m d] 26)) #[.bool false, .slice none 0 0, .bool false, .slice none 0 0])
  rw [alloc_sz] at X2
  generalize ((w.alloc (.cells #[.bool na, .slice A n c, .bool nb, .slice B m d] 26)).alloc (.cells #[.bool false, .slice none 0 0, .bool false, .slice none 0 0] 26)) = W0 at *
  have e0 : W0.cell? ⟨w.heap.size, 0, none⟩ = some (.bool na) := X1.out.c 0 rfl
  have e1 : W0.cell? ⟨w.heap.size, 1, none⟩ = some (.slice A n c) := X1.out.c 1 rfl
  have e2 : W0.cell? ⟨w.heap.size, 2, none⟩ = some (.bool nb) := X1.out.c 2 rfl
  have e3 : W0.cell? ⟨w.heap.size, 3, none⟩ = some (.slice B m d) := X1.out.c 3 rfl
  go_wp2_with fail
  ((with_reducible refine (r3right_any na nb A B n c m d xs ys _ S1.out S2.out).mono ?_); rintro e w1 ⟨T1, k1, r1, U1, l1, j1, rfl, hs, ht, hb⟩)
  clear e0 e1 e2 e3
  have S1 := Lib.hid (S1.out.below hb)
  have S2 := Lib.hid (S2.out.below hb)
  have BW := Lib.hid (below_on BW.out hb)
  have X1 := Lib.hid (X1.out.below hb)
  have X2 := Lib.hid (X2.out.below hb)
  clear hb
  have S3 := Lib.hid hs
  have S4 := Lib.hid ht
  clear hs ht
  have e0 : w1.cell? ⟨w.heap.size, 0, none⟩ = some (.bool na) := X1.out.c 0 rfl
  have e1 : w1.cell? ⟨w.heap.size, 1, none⟩ = some (.slice A n c) := X1.out.c 1 rfl
  have e2 : w1.cell? ⟨w.heap.size, 2, none⟩ = some (.bool nb) := X1.out.c 2 rfl
  have e3 : w1.cell? ⟨w.heap.size, 3, none⟩ = some (.slice B m d) := X1.out.c 3 rfl
  go_upto_region 2 with fail
  clear e0 e1 e2 e3
  have ln1 := X1.out.lt
  have ln2 := X2.out.lt
  have S1 := Lib.hid (S1.out.alloc (.cells #[.bool (nOf (frN na xs nb ys)), .slice T1 k1 r1, .bool (nOf (frD na xs nb ys)), .slice U1 l1 j1] 26))
  have S2 := Lib.hid (S2.out.alloc (.cells #[.bool (nOf (frN na xs nb ys)), .slice T1 k1 r1, .bool (nOf (frD na xs nb ys)), .slice U1 l1 j1] 26))
  have BW := Lib.hid (BW.out.alloc BW.out.size (.cells #[.bool (nOf (frN na xs nb ys)), .slice T1 k1 r1, .bool (nOf (frD na xs nb ys)), .slice U1 l1 j1] 26))
  have X1 := Lib.hid (X1.out.alloc (.cells #[.bool (nOf (frN na xs nb ys)), .slice T1 k1 r1, .bool (nOf (frD na xs nb ys)), .slice U1 l1 j1] 26))
  have X2 := Lib.hid (X2.out.alloc (.cells #[.bool (nOf (frN na xs nb ys)), .slice T1 k1 r1, .bool (nOf (frD na xs nb ys)), .slice U1 l1 j1] 26))
  have S3 := Lib.hid (S3.out.alloc (.cells #[.bool (nOf (frN na xs nb ys)), .slice T1 k1 r1, .bool (nOf (frD na xs nb ys)), .slice U1 l1 j1] 26))
  have S4 := Lib.hid (S4.out.alloc (.cells #[.bool (nOf (frN na xs nb ys)), .slice T1 k1 r1, .bool (nOf (frD na xs nb ys)), .slice U1 l1 j1] 26))
  have X3 := Lib.hid (Bk.new 26 w1 #[.bool (nOf (frN na xs nb ys)), .slice T1 k1 r1, .bool (nOf (frD na xs nb ys)), .slice U1 l1 j1])
  generalize (w1.alloc (.cells #[.bool (nOf (frN na xs nb ys)), .slice T1 k1 r1, .bool (nOf (frD na xs nb ys)), .slice U1 l1 j1] 26)) = W1 at *
  clear X1 S1 S2
  have HN := neg_len (frN na xs nb ys)
  rw [S3.out.len] at HN
  have HN := Lib.hid HN
  rcases Bool.eq_false_or_eq_true (nOf (frN na xs nb ys)) with hp | hp
  · have HPP := Lib.hid hp
    clear hp
    rw [HPP.out] at X3 HN
    have HNV : Hid (nOf (-(frN na xs nb ys)) = false) := by show nOf (-(frN na xs nb ys)) = false; rw [HN.out]; rfl
    have e0 : W1.cell? ⟨w1.heap.size, 0, none⟩ = some (.bool true) := X3.out.c 0 rfl
    have e1 : W1.cell? ⟨w1.heap.size, 1, none⟩ = some (.slice T1 k1 r1) := X3.out.c 1 rfl
    have e2 : W1.cell? ⟨w1.heap.size, 2, none⟩ = some (.bool (nOf (frD na xs nb ys))) := X3.out.c 2 rfl
    have e3 : W1.cell? ⟨w1.heap.size, 3, none⟩ = some (.slice U1 l1 j1) := X3.out.c 3 rfl
    have e4 : W1.cell? ⟨w.heap.size + 1, 0, none⟩ = some (.bool false) := X2.out.c 0 rfl
    have e5 : W1.cell? ⟨w.heap.size + 1, 1, none⟩ = some (.slice none 0 0) := X2.out.c 1 rfl
    have e6 : W1.cell? ⟨w.heap.size + 1, 2, none⟩ = some (.bool false) := X2.out.c 2 rfl
    have e7 : W1.cell? ⟨w.heap.size + 1, 3, none⟩ = some (.slice none 0 0) := X2.out.c 3 rfl
    have z8 := X2.out.fz 0
    have z9 := X2.out.fz 1
    have z10 := X2.out.fz 2
    have z11 := X2.out.fz 3
    go_wp2_with fail
    refine bodyPost_ret (v := .agg #[.bool false, .slice T1 k1 r1, .bool (nOf (frD na xs nb ys)), .slice U1 l1 j1]) (by simp [results, Tryz.results35, go_sem, *]) rfl ⟨T1, k1, r1, U1, l1, j1, (by first | rw [HNV.out] | rfl), by rw [lOf_neg]; exact S3.out.bk4 X2.out _ _ _ _, S4.out.bk4 X2.out _ _ _ _, below_set4 BW.out (by omega) _ _ _ _⟩
  · have HPP := Lib.hid hp
    clear hp
    rw [HPP.out] at X3 HN
    by_cases u2 : 0 < k1
    · have HNV : Hid (nOf (-(frN na xs nb ys)) = true) := by show nOf (-(frN na xs nb ys)) = true; rw [HN.out]; simp [u2]
      have u3 : (0 : Int) < (k1 : Int) := by omega
      have e0 : W1.cell? ⟨w1.heap.size, 0, none⟩ = some (.bool false) := X3.out.c 0 rfl
      have e1 : W1.cell? ⟨w1.heap.size, 1, none⟩ = some (.slice T1 k1 r1) := X3.out.c 1 rfl
      have e2 : W1.cell? ⟨w1.heap.size, 2, none⟩ = some (.bool (nOf (frD na xs nb ys))) := X3.out.c 2 rfl
      have e3 : W1.cell? ⟨w1.heap.size, 3, none⟩ = some (.slice U1 l1 j1) := X3.out.c 3 rfl
      have e4 : W1.cell? ⟨w.heap.size + 1, 0, none⟩ = some (.bool false) := X2.out.c 0 rfl
      have e5 : W1.cell? ⟨w.heap.size + 1, 1, none⟩ = some (.slice none 0 0) := X2.out.c 1 rfl
      have e6 : W1.cell? ⟨w.heap.size + 1, 2, none⟩ = some (.bool false) := X2.out.c 2 rfl
      have e7 : W1.cell? ⟨w.heap.size + 1, 3, none⟩ = some (.slice none 0 0) := X2.out.c 3 rfl
      have z8 := X2.out.fz 0
      have z9 := X2.out.fz 1
      have z10 := X2.out.fz 2
      have z11 := X2.out.fz 3
      go_wp2_with fail
      refine bodyPost_ret (v := .agg #[.bool true, .slice T1 k1 r1, .bool (nOf (frD na xs nb ys)), .slice U1 l1 j1]) (by simp [results, Tryz.results35, go_sem, *]) rfl ⟨T1, k1, r1, U1, l1, j1, (by first | rw [HNV.out] | rfl), by rw [lOf_neg]; exact S3.out.bk4 X2.out _ _ _ _, S4.out.bk4 X2.out _ _ _ _, below_set4 BW.out (by omega) _ _ _ _⟩
    · have HNV : Hid (nOf (-(frN na xs nb ys)) = false) := by show nOf (-(frN na xs nb ys)) = false; rw [HN.out]; simp [u2]
      have u3 : ¬ (0 : Int) < (k1 : Int) := by omega
      have e0 : W1.cell? ⟨w1.heap.size, 0, none⟩ = some (.bool false) := X3.out.c 0 rfl
      have e1 : W1.cell? ⟨w1.heap.size, 1, none⟩ = some (.slice T1 k1 r1) := X3.out.c 1 rfl
      have e2 : W1.cell? ⟨w1.heap.size, 2, none⟩ = some (.bool (nOf (frD na xs nb ys))) := X3.out.c 2 rfl
      have e3 : W1.cell? ⟨w1.heap.size, 3, none⟩ = some (.slice U1 l1 j1) := X3.out.c 3 rfl
      have e4 : W1.cell? ⟨w.heap.size + 1, 0, none⟩ = some (.bool false) := X2.out.c 0 rfl
      have e5 : W1.cell? ⟨w.heap.size + 1, 1, none⟩ = some (.slice none 0 0) := X2.out.c 1 rfl
      have e6 : W1.cell? ⟨w.heap.size + 1, 2, none⟩ = some (.bool false) := X2.out.c 2 rfl
      have e7 : W1.cell? ⟨w.heap.size + 1, 3, none⟩ = some (.slice none 0 0) := X2.out.c 3 rfl
      have z8 := X2.out.fz 0
      have z9 := X2.out.fz 1
      have z10 := X2.out.fz 2
      have z11 := X2.out.fz 3
      go_wp2_with fail
      refine bodyPost_ret (v := .agg #[.bool false, .slice T1 k1 r1, .bool (nOf (frD na xs nb ys)), .slice U1 l1 j1]) (by simp [results, Tryz.results35, go_sem, *]) rfl ⟨T1, k1, r1, U1, l1, j1, (by first | rw [HNV.out] | rfl), by rw [lOf_neg]; exact S3.out.bk4 X2.out _ _ _ _, S4.out.bk4 X2.out _ _ _ _, below_set4 BW.out (by omega) _ _ _ _⟩

theorem sgn_len (s : Bool) (u : Nat) : nOf (sgn s (u : Nat)) = (s && decide (0 < (digs u).length)) ∧ lOf (sgn s (u : Nat)) = digs u := by
  unfold sgn nOf lOf
  have hz : 0 < (digs u).length ↔ 0 < u := by
    constructor
    · intro h
      refine Nat.pos_of_ne_zero fun e => ?_
      rw [e, digs_zero] at h; simp at h
    · intro h
      rcases Nat.eq_zero_or_pos (digs u).length with e | e
      · have := digs_eq_nil.1 (List.eq_nil_of_length_eq_zero e); omega
      · exact e
  cases s
  · refine ⟨?_, by simp⟩
    simp
  · refine ⟨?_, by simp⟩
    by_cases h : 0 < u
    · rw [decide_eq_true (hz.2 h)]; simp; omega
    · rw [decide_eq_false (fun e => h (hz.1 e))]; simp; omega
set_option maxRecDepth 100000 in
set_option maxHeartbeats 4000000 in
theorem r3floor_any (na nb : Bool) (A B : Option Addr) (n c m d : Nat) (xs ys : List Int) (w : World) (ha : Sl w A n c xs) (hb : Sl w B m d ys) :
    Calls Tryz.prog 16 #[.agg #[.bool na, .slice A n c, .bool nb, .slice B m d]] w fun e w' => ∃ T k r, e = .returned (.agg #[.bool (nOf (qZ (frN na xs nb ys) (frD na xs nb ys))), .slice T k r]) ∧ Sl w' T k r (lOf (qZ (frN na xs nb ys) (frD na xs nb ys))) ∧ Below w.heap.size w w' := by
  have S1 := Lib.hid ha
  have S2 := Lib.hid hb
  clear ha hb
  have FA := Lib.hid (fr_ok na xs nb ys)
  have BW := Lib.hid (Below.refl w.heap.size w)
  go_enter Tryz.func16, Tryz.ntmps16
  go_upto_region 1 with fail
  have S1 := Lib.hid (S1.out.alloc (.cells #[.bool na, .slice A n c, .bool nb, .slice B m d] 26))
  have S2 := Lib.hid (S2.out.alloc (.cells #[.bool na, .slice A n c, .bool nb, .slice B m d] 26))
  have BW := Lib.hid (BW.out.alloc BW.out.size (.cells #[.bool na, .slice A n c, .bool nb, .slice B m d] 26))
  have X1 := Lib.hid (Bk.new 26 w #[.bool na, .slice A n c, .bool nb, .slice B m d])
  have S1 := Lib.hid (S1.out.alloc (.cells #[.bool false, .slice none 0 0] 24))
  have S2 := Lib.hid (S2.out.alloc (.cells #[.bool false, .slice none 0 0] 24))
  have BW := Lib.hid (BW.out.alloc BW.out.size (.cells #[.bool false, .slice none 0 0] 24))
  have X1 := Lib.hid (X1.out.alloc (.cells #[.bool false, .slice none 0 0] 24))
  have X2 := Lib.hid (Bk.new 24 (w.alloc (.cells #[.bool na, .slice A n c, .bool nb, .slice B m d] 26)) #[.bool false, .slice none 0 0])
  rw [alloc_sz] at X2
  generalize ((w.alloc (.cells #[.bool na, .slice A n c, .bool nb, .slice B m d] 26)).alloc (.cells #[.bool false, .slice none 0 0] 24)) = W0 at *
  have e0 : W0.cell? ⟨w.heap.size, 0, none⟩ = some (.bool na) := X1.out.c 0 rfl
  have e1 : W0.cell? ⟨w.heap.size, 1, none⟩ = some (.slice A n c) := X1.out.c 1 rfl
  have e2 : W0.cell? ⟨w.heap.size, 2, none⟩ = some (.bool nb) := X1.out.c 2 rfl
  have e3 : W0.cell? ⟨w.heap.size, 3, none⟩ = some (.slice B m d) := X1.out.c 3 rfl
  go_wp2_with fail
  ((with_reducible refine (r3right_any na nb A B n c m d xs ys _ S1.out S2.out).mono ?_); rintro e w1 ⟨T1, k1, r1, U1, l1, j1, rfl, hs, ht, hb⟩)
  clear e0 e1 e2 e3
  have S1 := Lib.hid (S1.out.below hb)
  have S2 := Lib.hid (S2.out.below hb)
  have BW := Lib.hid (below_on BW.out hb)
  have X1 := Lib.hid (X1.out.below hb)
  have X2 := Lib.hid (X2.out.below hb)
  clear hb
  have S3 := Lib.hid hs
  have S4 := Lib.hid ht
  clear hs ht
  have e0 : w1.cell? ⟨w.heap.size, 0, none⟩ = some (.bool na) := X1.out.c 0 rfl
  have e1 : w1.cell? ⟨w.heap.size, 1, none⟩ = some (.slice A n c) := X1.out.c 1 rfl
  have e2 : w1.cell? ⟨w.heap.size, 2, none⟩ = some (.bool nb) := X1.out.c 2 rfl
  have e3 : w1.cell? ⟨w.heap.size, 3, none⟩ = some (.slice B m d) := X1.out.c 3 rfl
  go_upto_region 2 with fail
  clear e0 e1 e2 e3
  have ln1 := X1.out.lt
  have ln2 := X2.out.lt
  have S1 := Lib.hid (S1.out.alloc (.cells #[.bool (nOf (frN na xs nb ys)), .slice T1 k1 r1, .bool (nOf (frD na xs nb ys)), .slice U1 l1 j1] 26))
  have S2 := Lib.hid (S2.out.alloc (.cells #[.bool (nOf (frN na xs nb ys)), .slice T1 k1 r1, .bool (nOf (frD na xs nb ys)), .slice U1 l1 j1] 26))
  have BW := Lib.hid (BW.out.alloc BW.out.size (.cells #[.bool (nOf (frN na xs nb ys)), .slice T1 k1 r1, .bool (nOf (frD na xs nb ys)), .slice U1 l1 j1] 26))
  have X1 := Lib.hid (X1.out.alloc (.cells #[.bool (nOf (frN na xs nb ys)), .slice T1 k1 r1, .bool (nOf (frD na xs nb ys)), .slice U1 l1 j1] 26))
  have X2 := Lib.hid (X2.out.alloc (.cells #[.bool (nOf (frN na xs nb ys)), .slice T1 k1 r1, .bool (nOf (frD na xs nb ys)), .slice U1 l1 j1] 26))
  have S3 := Lib.hid (S3.out.alloc (.cells #[.bool (nOf (frN na xs nb ys)), .slice T1 k1 r1, .bool (nOf (frD na xs nb ys)), .slice U1 l1 j1] 26))
  have S4 := Lib.hid (S4.out.alloc (.cells #[.bool (nOf (frN na xs nb ys)), .slice T1 k1 r1, .bool (nOf (frD na xs nb ys)), .slice U1 l1 j1] 26))
  have X3 := Lib.hid (Bk.new 26 w1 #[.bool (nOf (frN na xs nb ys)), .slice T1 k1 r1, .bool (nOf (frD na xs nb ys)), .slice U1 l1 j1])
  generalize (w1.alloc (.cells #[.bool (nOf (frN na xs nb ys)), .slice T1 k1 r1, .bool (nOf (frD na xs nb ys)), .slice U1 l1 j1] 26)) = W1 at *
  clear X1 S1 S2
  generalize hP1 : frN na xs nb ys = p at *
  generalize hQ1 : frD na xs nb ys = q at *
  have HP1 := Lib.hid hP1
  have HQ1 := Lib.hid hQ1
  clear hP1 hQ1
  have b1 := S3.out.fit FA.out.fn
  have b2 := S4.out.fit FA.out.fd
  have QP := Lib.hid FA.out.pos
  have Q0 : Hid (q ≠ 0) := (by have := QP.out; omega : q ≠ 0)
  have QN : Hid (nOf q = false) := decide_eq_false (by have := QP.out; omega)
  have e0 : W1.cell? ⟨w1.heap.size, 0, none⟩ = some (.bool (nOf (p))) := X3.out.c 0 rfl
  have e1 : W1.cell? ⟨w1.heap.size, 1, none⟩ = some (.slice T1 k1 r1) := X3.out.c 1 rfl
  have e2 : W1.cell? ⟨w1.heap.size, 2, none⟩ = some (.bool (nOf (q))) := X3.out.c 2 rfl
  have e3 : W1.cell? ⟨w1.heap.size, 3, none⟩ = some (.slice U1 l1 j1) := X3.out.c 3 rfl
  go_wp2_with fail
  ((with_reducible refine (r3over_any T1 U1 k1 r1 l1 j1 (digs p.natAbs) (digs q.natAbs) _ S3.out S4.out (digs_ok _) (digs_ok _) (digs_top _) (by rw [val_digs]; have := Q0.out; omega) (by omega) (by omega)).mono ?_); rintro e w2 ⟨T2, k2, r2, U2, l2, j2, rfl, hs, ht, hb⟩)
  rw [val_digs, val_digs] at hs ht
  clear e0 e1 e2 e3
  have BW := Lib.hid (below_on BW.out hb)
  have X2 := Lib.hid (X2.out.below hb)
  have S3 := Lib.hid (S3.out.below hb)
  have S4 := Lib.hid (S4.out.below hb)
  have X3 := Lib.hid (X3.out.below hb)
  clear hb
  have S5 := Lib.hid hs
  have S6 := Lib.hid ht
  clear hs ht
  clear S3 S4
  have LQ : Hid (k2 ≤ 200) := by show k2 ≤ 200; rw [← S5.out.len]; exact quot_len FA.out.fn
  go_upto_region 3 with fail
  rcases Bool.eq_false_or_eq_true (nOf p) with hp | hp
  · have HPP := Lib.hid hp
    rw [HPP.out] at X3
    by_cases hz : l2 = 0
    · have hz1 : ¬ (0 : Int) < (l2 : Int) := by omega
      have HD := Lib.hid (div_same (a := p) (b := q) Q0.out (.inr (rest_zero (by rw [S6.out.len]; exact hz))))
      rw [HPP.out, QN.out] at HD
      clear hz hp
      have HQ : Hid (sgn true ((((p.natAbs : Int) / (q.natAbs : Int)).toNat : Nat) : Int) = qZ p q) := HD.out.1
      have HN := sgn_len true (((p.natAbs : Int) / (q.natAbs : Int)).toNat)
      rw [HQ.out, S5.out.len] at HN
      have HN := Lib.hid HN
      by_cases u2 : 0 < k2
      · have HNV : Hid (nOf (qZ p q) = true) := by show nOf (qZ p q) = true; rw [HN.out.1]; simp [u2]
        have u3 : (0 : Int) < (k2 : Int) := by omega
        have e0 : w2.cell? ⟨w1.heap.size, 0, none⟩ = some (.bool true) := X3.out.c 0 rfl
        have e1 : w2.cell? ⟨w1.heap.size, 1, none⟩ = some (.slice T1 k1 r1) := X3.out.c 1 rfl
        have e2 : w2.cell? ⟨w1.heap.size, 2, none⟩ = some (.bool (nOf (q))) := X3.out.c 2 rfl
        have e3 : w2.cell? ⟨w1.heap.size, 3, none⟩ = some (.slice U1 l1 j1) := X3.out.c 3 rfl
        have e4 : w2.cell? ⟨w.heap.size + 1, 0, none⟩ = some (.bool false) := X2.out.c 0 rfl
        have e5 : w2.cell? ⟨w.heap.size + 1, 1, none⟩ = some (.slice none 0 0) := X2.out.c 1 rfl
        have z6 := X2.out.fz 0
        have z7 := X2.out.fz 1
        go_wp2_with fail
        refine bodyPost_ret (v := .agg #[.bool true, .slice T2 k2 r2]) (by simp [results, Tryz.results16, go_sem, *]) rfl ⟨T2, k2, r2, by rw [HP1.out, HQ1.out, HNV.out], by rw [HP1.out, HQ1.out, HN.out.2]; exact S5.out.bk2 X2.out _ _, below_set2 BW.out (by omega) _ _⟩
      · have HNV : Hid (nOf (qZ p q) = false) := by show nOf (qZ p q) = false; rw [HN.out.1]; simp [u2]
        have u3 : ¬ (0 : Int) < (k2 : Int) := by omega
        have e0 : w2.cell? ⟨w1.heap.size, 0, none⟩ = some (.bool true) := X3.out.c 0 rfl
        have e1 : w2.cell? ⟨w1.heap.size, 1, none⟩ = some (.slice T1 k1 r1) := X3.out.c 1 rfl
        have e2 : w2.cell? ⟨w1.heap.size, 2, none⟩ = some (.bool (nOf (q))) := X3.out.c 2 rfl
        have e3 : w2.cell? ⟨w1.heap.size, 3, none⟩ = some (.slice U1 l1 j1) := X3.out.c 3 rfl
        have e4 : w2.cell? ⟨w.heap.size + 1, 0, none⟩ = some (.bool false) := X2.out.c 0 rfl
        have e5 : w2.cell? ⟨w.heap.size + 1, 1, none⟩ = some (.slice none 0 0) := X2.out.c 1 rfl
        have z6 := X2.out.fz 0
        have z7 := X2.out.fz 1
        go_wp2_with fail
        refine bodyPost_ret (v := .agg #[.bool false, .slice T2 k2 r2]) (by simp [results, Tryz.results16, go_sem, *]) rfl ⟨T2, k2, r2, by rw [HP1.out, HQ1.out, HNV.out], by rw [HP1.out, HQ1.out, HN.out.2]; exact S5.out.bk2 X2.out _ _, below_set2 BW.out (by omega) _ _⟩
    · have hz1 : (0 : Int) < (l2 : Int) := by omega
      have HD := Lib.hid (div_diff (a := p) (b := q) Q0.out (by rw [HPP.out, QN.out]; rfl) (rest_pos (by rw [S6.out.len]; omega)))
      rw [HPP.out, QN.out] at HD
      clear hz hp
      have e0 : w2.cell? ⟨w1.heap.size, 0, none⟩ = some (.bool true) := X3.out.c 0 rfl
      have e1 : w2.cell? ⟨w1.heap.size, 1, none⟩ = some (.slice T1 k1 r1) := X3.out.c 1 rfl
      have e2 : w2.cell? ⟨w1.heap.size, 2, none⟩ = some (.bool (nOf (q))) := X3.out.c 2 rfl
      have e3 : w2.cell? ⟨w1.heap.size, 3, none⟩ = some (.slice U1 l1 j1) := X3.out.c 3 rfl
      go_upto_region 4 with fail
      clear e0 e1 e2 e3
      have HO1 := Lib.hid (show Sl (w2.alloc (.cells #[.int .i64 1] 3)) (some ⟨w2.heap.size, 0, none⟩) 1 1 [1] from (Own.new w2 [1]).all (n := 1) (c := 1) rfl (Nat.le_refl _) (by omega))
      have BW := Lib.hid (BW.out.alloc BW.out.size (.cells #[.int .i64 1] 3))
      have X2 := Lib.hid (X2.out.alloc (.cells #[.int .i64 1] 3))
      have X3 := Lib.hid (X3.out.alloc (.cells #[.int .i64 1] 3))
      have S5 := Lib.hid (S5.out.alloc (.cells #[.int .i64 1] 3))
      have S6 := Lib.hid (S6.out.alloc (.cells #[.int .i64 1] 3))
      have HD1 : Hid (dOk [(1 : Int)]) := dOk_cons.2 ⟨⟨by omega, by omega⟩, dOk_nil⟩
      go_wp2_with fail
      (refine (r3plus_any T2 _ k2 r2 1 1 (digs ((p.natAbs : Int) / (q.natAbs : Int)).toNat) [1] _ S5.out HO1.out (digs_ok _) HD1.out (by have := LQ.out; omega) (by omega)).mono ?_; rintro e w5 ⟨T3, k3, r3, rfl, hs, hb⟩)
      rw [val_digs, show val [(1 : Int)] = 1 by simp [val], show (((p.natAbs : Int) / (q.natAbs : Int)).toNat : Int) + 1 = (p.natAbs : Int) / (q.natAbs : Int) + 1 by have := (nat_div p q Q0.out).2.2.2; omega] at hs
      have BW := Lib.hid (below_on BW.out hb)
      have X2 := Lib.hid (X2.out.below hb)
      have X3 := Lib.hid (X3.out.below hb)
      have S5 := Lib.hid (S5.out.below hb)
      have S6 := Lib.hid (S6.out.below hb)
      clear hb
      have S10 := Lib.hid hs
      clear hs
      clear S5 S6
      have HQ : Hid (sgn true ((((p.natAbs : Int) / (q.natAbs : Int) + 1).toNat : Nat) : Int) = qZ p q) := HD.out.1
      have HN := sgn_len true (((p.natAbs : Int) / (q.natAbs : Int) + 1).toNat)
      rw [HQ.out, S10.out.len] at HN
      have HN := Lib.hid HN
      by_cases u2 : 0 < k3
      · have HNV : Hid (nOf (qZ p q) = true) := by show nOf (qZ p q) = true; rw [HN.out.1]; simp [u2]
        have u3 : (0 : Int) < (k3 : Int) := by omega
        have e0 : w5.cell? ⟨w1.heap.size, 0, none⟩ = some (.bool true) := X3.out.c 0 rfl
        have e1 : w5.cell? ⟨w1.heap.size, 1, none⟩ = some (.slice T1 k1 r1) := X3.out.c 1 rfl
        have e2 : w5.cell? ⟨w1.heap.size, 2, none⟩ = some (.bool (nOf (q))) := X3.out.c 2 rfl
        have e3 : w5.cell? ⟨w1.heap.size, 3, none⟩ = some (.slice U1 l1 j1) := X3.out.c 3 rfl
        have e4 : w5.cell? ⟨w.heap.size + 1, 0, none⟩ = some (.bool false) := X2.out.c 0 rfl
        have e5 : w5.cell? ⟨w.heap.size + 1, 1, none⟩ = some (.slice none 0 0) := X2.out.c 1 rfl
        have z6 := X2.out.fz 0
        have z7 := X2.out.fz 1
        go_wp2_with fail
        refine bodyPost_ret (v := .agg #[.bool true, .slice T3 k3 r3]) (by simp [results, Tryz.results16, go_sem, *]) rfl ⟨T3, k3, r3, by rw [HP1.out, HQ1.out, HNV.out], by rw [HP1.out, HQ1.out, HN.out.2]; exact S10.out.bk2 X2.out _ _, below_set2 BW.out (by omega) _ _⟩
      · have HNV : Hid (nOf (qZ p q) = false) := by show nOf (qZ p q) = false; rw [HN.out.1]; simp [u2]
        have u3 : ¬ (0 : Int) < (k3 : Int) := by omega
        have e0 : w5.cell? ⟨w1.heap.size, 0, none⟩ = some (.bool true) := X3.out.c 0 rfl
        have e1 : w5.cell? ⟨w1.heap.size, 1, none⟩ = some (.slice T1 k1 r1) := X3.out.c 1 rfl
        have e2 : w5.cell? ⟨w1.heap.size, 2, none⟩ = some (.bool (nOf (q))) := X3.out.c 2 rfl
        have e3 : w5.cell? ⟨w1.heap.size, 3, none⟩ = some (.slice U1 l1 j1) := X3.out.c 3 rfl
        have e4 : w5.cell? ⟨w.heap.size + 1, 0, none⟩ = some (.bool false) := X2.out.c 0 rfl
        have e5 : w5.cell? ⟨w.heap.size + 1, 1, none⟩ = some (.slice none 0 0) := X2.out.c 1 rfl
        have z6 := X2.out.fz 0
        have z7 := X2.out.fz 1
        go_wp2_with fail
        refine bodyPost_ret (v := .agg #[.bool false, .slice T3 k3 r3]) (by simp [results, Tryz.results16, go_sem, *]) rfl ⟨T3, k3, r3, by rw [HP1.out, HQ1.out, HNV.out], by rw [HP1.out, HQ1.out, HN.out.2]; exact S10.out.bk2 X2.out _ _, below_set2 BW.out (by omega) _ _⟩
  · have HPP := Lib.hid hp
    rw [HPP.out] at X3
    have HD := Lib.hid (div_same (a := p) (b := q) Q0.out (.inl (by rw [HPP.out, QN.out]; rfl)))
    rw [HPP.out, QN.out] at HD
    clear hp
    have HQ : Hid (sgn false ((((p.natAbs : Int) / (q.natAbs : Int)).toNat : Nat) : Int) = qZ p q) := HD.out.1
    have HN := sgn_len false (((p.natAbs : Int) / (q.natAbs : Int)).toNat)
    rw [HQ.out, S5.out.len] at HN
    have HN := Lib.hid HN
    have HNV : Hid (nOf (qZ p q) = false) := by show nOf (qZ p q) = false; rw [HN.out.1]; rfl
    have e0 : w2.cell? ⟨w1.heap.size, 0, none⟩ = some (.bool false) := X3.out.c 0 rfl
    have e1 : w2.cell? ⟨w1.heap.size, 1, none⟩ = some (.slice T1 k1 r1) := X3.out.c 1 rfl
    have e2 : w2.cell? ⟨w1.heap.size, 2, none⟩ = some (.bool (nOf (q))) := X3.out.c 2 rfl
    have e3 : w2.cell? ⟨w1.heap.size, 3, none⟩ = some (.slice U1 l1 j1) := X3.out.c 3 rfl
    have e4 : w2.cell? ⟨w.heap.size + 1, 0, none⟩ = some (.bool false) := X2.out.c 0 rfl
    have e5 : w2.cell? ⟨w.heap.size + 1, 1, none⟩ = some (.slice none 0 0) := X2.out.c 1 rfl
    have z6 := X2.out.fz 0
    have z7 := X2.out.fz 1
    go_wp2_with fail
    refine bodyPost_ret (v := .agg #[.bool false, .slice T2 k2 r2]) (by simp [results, Tryz.results16, go_sem, *]) rfl ⟨T2, k2, r2, by rw [HP1.out, HQ1.out, HNV.out], by rw [HP1.out, HQ1.out, HN.out.2]; exact S5.out.bk2 X2.out _ _, below_set2 BW.out (by omega) _ _⟩

theorem r3floor_z (p q : Int) (A B : Option Addr) (n c m d : Nat) (w : World) (ha : Sl w A n c (lOf p)) (hb : Sl w B m d (lOf q)) (h : Fr p q) :
    Calls Tryz.prog 16 #[.agg #[.bool (nOf p), .slice A n c, .bool (nOf q), .slice B m d]] w fun e w' => ∃ T k r, e = .returned (.agg #[.bool (nOf (qZ p q)), .slice T k r]) ∧ Sl w' T k r (lOf (qZ p q)) ∧ Below w.heap.size w w' := by
  have hc := r3floor_any (nOf p) (nOf q) A B n c m d (lOf p) (lOf q) w ha hb
  rw [(fr_of h).1, (fr_of h).2] at hc
  exact hc
set_option maxHeartbeats 2000000 in
theorem r3ceil_any (na nb : Bool) (A B : Option Addr) (n c m d : Nat) (xs ys : List Int) (w : World) (ha : Sl w A n c xs) (hb : Sl w B m d ys) :
    Calls Tryz.prog 18 #[.agg #[.bool na, .slice A n c, .bool nb, .slice B m d]] w fun e w' => ∃ T k r, e = .returned (.agg #[.bool (nOf (-qZ (-frN na xs nb ys) (frD na xs nb ys))), .slice T k r]) ∧ Sl w' T k r (lOf (-qZ (-frN na xs nb ys) (frD na xs nb ys))) ∧ Below w.heap.size w w' := by
  have S1 := Lib.hid ha
  have S2 := Lib.hid hb
  clear ha hb
  have FA := Lib.hid (fr_ok na xs nb ys)
  have BW := Lib.hid (Below.refl w.heap.size w)
  go_enter Tryz.func18, Tryz.ntmps18
  go_upto_region 1 with fail
  have S1 := Lib.hid (S1.out.alloc (.cells #[.bool na, .slice A n c, .bool nb, .slice B m d] 26))
  have S2 := Lib.hid (S2.out.alloc (.cells #[.bool na, .slice A n c, .bool nb, .slice B m d] 26))
  have BW := Lib.hid (BW.out.alloc BW.out.size (.cells #[.bool na, .slice A n c, .bool nb, .slice B m d] 26))
  have X1 := Lib.hid (Bk.new 26 w #[.bool na, .slice A n c, .bool nb, .slice B m d])
  have S1 := Lib.hid (S1.out.alloc (.cells #[.bool false, .slice none 0 0] 24))
  have S2 := Lib.hid (S2.out.alloc (.cells #[.bool false, .slice none 0 0] 24))
  have BW := Lib.hid (BW.out.alloc BW.out.size (.cells #[.bool false, .slice none 0 0] 24))
  have X1 := Lib.hid (X1.out.alloc (.cells #[.bool false, .slice none 0 0] 24))
  have X2 := Lib.hid (Bk.new 24 (w.alloc (.cells #[.bool na, .slice A n c, .bool nb, .slice B m d] 26)) #[.bool false, .slice none 0 0])
  rw [alloc_sz] at X2
  generalize ((w.alloc (.cells #[.bool na, .slice A n c, .bool nb, .slice B m d] 26)).alloc (.cells #[.bool false, .slice none 0 0] 24)) = W0 at *
  have e0 : W0.cell? ⟨w.heap.size, 0, none⟩ = some (.bool na) := X1.out.c 0 rfl
  have e1 : W0.cell? ⟨w.heap.size, 1, none⟩ = some (.slice A n c) := X1.out.c 1 rfl
  have e2 : W0.cell? ⟨w.heap.size, 2, none⟩ = some (.bool nb) := X1.out.c 2 rfl
  have e3 : W0.cell? ⟨w.heap.size, 3, none⟩ = some (.slice B m d) := X1.out.c 3 rfl
  go_wp2_with fail
  ((with_reducible refine (r3opp_any na nb A B n c m d xs ys _ S1.out S2.out).mono ?_); rintro e w1 ⟨T1, k1, r1, U1, l1, j1, rfl, hs, ht, hb⟩)
  clear e0 e1 e2 e3
  have S1 := Lib.hid (S1.out.below hb)
  have S2 := Lib.hid (S2.out.below hb)
  have BW := Lib.hid (below_on BW.out hb)
  have X1 := Lib.hid (X1.out.below hb)
  have X2 := Lib.hid (X2.out.below hb)
  clear hb
  have S3 := Lib.hid hs
  have S4 := Lib.hid ht
  clear hs ht
  go_wp2_with fail
  ((with_reducible refine (r3floor_z (-(frN na xs nb ys)) (frD na xs nb ys) T1 U1 k1 r1 l1 j1 _ S3.out S4.out FA.out.neg).mono ?_); rintro e w2 ⟨T2, k2, r2, rfl, hs, hb⟩)
  have S1 := Lib.hid (S1.out.below hb)
  have S2 := Lib.hid (S2.out.below hb)
  have BW := Lib.hid (below_on BW.out hb)
  have X1 := Lib.hid (X1.out.below hb)
  have X2 := Lib.hid (X2.out.below hb)
  have S3 := Lib.hid (S3.out.below hb)
  have S4 := Lib.hid (S4.out.below hb)
  clear hb
  have S5 := Lib.hid hs
  clear hs
  go_upto_region 2 with fail
  have ln1 := X1.out.lt
  have ln2 := X2.out.lt
  have S1 := Lib.hid (S1.out.alloc (.cells #[.bool (nOf (qZ (-(frN na xs nb ys)) (frD na xs nb ys))), .slice T2 k2 r2] 24))
  have S2 := Lib.hid (S2.out.alloc (.cells #[.bool (nOf (qZ (-(frN na xs nb ys)) (frD na xs nb ys))), .slice T2 k2 r2] 24))
  have BW := Lib.hid (BW.out.alloc BW.out.size (.cells #[.bool (nOf (qZ (-(frN na xs nb ys)) (frD na xs nb ys))), .slice T2 k2 r2] 24))
  have X1 := Lib.hid (X1.out.alloc (.cells #[.bool (nOf (qZ (-(frN na xs nb ys)) (frD na xs nb ys))), .slice T2 k2 r2] 24))
  have X2 := Lib.hid (X2.out.alloc (.cells #[.bool (nOf (qZ (-(frN na xs nb ys)) (frD na xs nb ys))), .slice T2 k2 r2] 24))
  have S3 := Lib.hid (S3.out.alloc (.cells #[.bool (nOf (qZ (-(frN na xs nb ys)) (frD na xs nb ys))), .slice T2 k2 r2] 24))
  have S4 := Lib.hid (S4.out.alloc (.cells #[.bool (nOf (qZ (-(frN na xs nb ys)) (frD na xs nb ys))), .slice T2 k2 r2] 24))
  have S5 := Lib.hid (S5.out.alloc (.cells #[.bool (nOf (qZ (-(frN na xs nb ys)) (frD na xs nb ys))), .slice T2 k2 r2] 24))
  have X3 := Lib.hid (Bk.new 24 w2 #[.bool (nOf (qZ (-(frN na xs nb ys)) (frD na xs nb ys))), .slice T2 k2 r2])
  generalize (w2.alloc (.cells #[.bool (nOf (qZ (-(frN na xs nb ys)) (frD na xs nb ys))), .slice T2 k2 r2] 24)) = W1 at *
  clear X1 S1 S2 S3 S4
  generalize hz : qZ (-(frN na xs nb ys)) (frD na xs nb ys) = z at *
  have HZ := Lib.hid hz
  clear hz
  have HN := neg_len (z)
  rw [S5.out.len] at HN
  have HN := Lib.hid HN
  rcases Bool.eq_false_or_eq_true (nOf (z)) with hp | hp
  · have HPP := Lib.hid hp
    clear hp
    rw [HPP.out] at X3 HN
    have HNV : Hid (nOf (-(z)) = false) := by show nOf (-(z)) = false; rw [HN.out]; rfl
    have e0 : W1.cell? ⟨w2.heap.size, 0, none⟩ = some (.bool true) := X3.out.c 0 rfl
    have e1 : W1.cell? ⟨w2.heap.size, 1, none⟩ = some (.slice T2 k2 r2) := X3.out.c 1 rfl
    have e2 : W1.cell? ⟨w.heap.size + 1, 0, none⟩ = some (.bool false) := X2.out.c 0 rfl
    have e3 : W1.cell? ⟨w.heap.size + 1, 1, none⟩ = some (.slice none 0 0) := X2.out.c 1 rfl
    have z4 := X2.out.fz 0
    have z5 := X2.out.fz 1
    go_wp2_with fail
    refine bodyPost_ret (v := .agg #[.bool false, .slice T2 k2 r2]) (by simp [results, Tryz.results18, go_sem, *]) rfl ⟨T2, k2, r2, by rw [HZ.out, HNV.out], by rw [HZ.out, lOf_neg]; exact S5.out.bk2 X2.out _ _, below_set2 BW.out (by omega) _ _⟩
  · have HPP := Lib.hid hp
    clear hp
    rw [HPP.out] at X3 HN
    by_cases u2 : 0 < k2
    · have HNV : Hid (nOf (-(z)) = true) := by show nOf (-(z)) = true; rw [HN.out]; simp [u2]
      have u3 : (0 : Int) < (k2 : Int) := by omega
      have e0 : W1.cell? ⟨w2.heap.size, 0, none⟩ = some (.bool false) := X3.out.c 0 rfl
      have e1 : W1.cell? ⟨w2.heap.size, 1, none⟩ = some (.slice T2 k2 r2) := X3.out.c 1 rfl
      have e2 : W1.cell? ⟨w.heap.size + 1, 0, none⟩ = some (.bool false) := X2.out.c 0 rfl
      have e3 : W1.cell? ⟨w.heap.size + 1, 1, none⟩ = some (.slice none 0 0) := X2.out.c 1 rfl
      have z4 := X2.out.fz 0
      have z5 := X2.out.fz 1
      go_wp2_with fail
      refine bodyPost_ret (v := .agg #[.bool true, .slice T2 k2 r2]) (by simp [results, Tryz.results18, go_sem, *]) rfl ⟨T2, k2, r2, by rw [HZ.out, HNV.out], by rw [HZ.out, lOf_neg]; exact S5.out.bk2 X2.out _ _, below_set2 BW.out (by omega) _ _⟩
    · have HNV : Hid (nOf (-(z)) = false) := by show nOf (-(z)) = false; rw [HN.out]; simp [u2]
      have u3 : ¬ (0 : Int) < (k2 : Int) := by omega
      have e0 : W1.cell? ⟨w2.heap.size, 0, none⟩ = some (.bool false) := X3.out.c 0 rfl
      have e1 : W1.cell? ⟨w2.heap.size, 1, none⟩ = some (.slice T2 k2 r2) := X3.out.c 1 rfl
      have e2 : W1.cell? ⟨w.heap.size + 1, 0, none⟩ = some (.bool false) := X2.out.c 0 rfl
      have e3 : W1.cell? ⟨w.heap.size + 1, 1, none⟩ = some (.slice none 0 0) := X2.out.c 1 rfl
      have z4 := X2.out.fz 0
      have z5 := X2.out.fz 1
      go_wp2_with fail
      refine bodyPost_ret (v := .agg #[.bool false, .slice T2 k2 r2]) (by simp [results, Tryz.results18, go_sem, *]) rfl ⟨T2, k2, r2, by rw [HZ.out, HNV.out], by rw [HZ.out, lOf_neg]; exact S5.out.bk2 X2.out _ _, below_set2 BW.out (by omega) _ _⟩
end Go.Proofs.YtfenmogbellhdaaGreatDoor

namespace Go.Proofs.YtfenmogbellhdaaGreatDoor
open Go.RowKit

theorem prod_len {p q : Int} (hp : fitB p = true) (hq : fitB q = true) : (lOf (p * q)).length ≤ 400 := by
  have := mul_len p q
  have h1 := lOf_len hp
  have h2 := lOf_len hq
  omega

set_option maxRecDepth 100000 in
set_option maxHeartbeats 4000000 in
theorem r3add_any (s1 t1 s2 t2 : Bool) (A1 B1 A2 B2 : Option Addr) (n1 c1 m1 d1 n2 c2 m2 d2 : Nat) (x1 y1 x2 y2 : List Int) (w : World) (ha : Sl w A1 n1 c1 x1) (hb : Sl w B1 m1 d1 y1) (hc : Sl w A2 n2 c2 x2) (hd : Sl w B2 m2 d2 y2) :
    Calls Tryz.prog 8 #[.agg #[.bool s1, .slice A1 n1 c1, .bool t1, .slice B1 m1 d1], .agg #[.bool s2, .slice A2 n2 c2, .bool t2, .slice B2 m2 d2]] w fun e w' => ∃ T k r U l s, e = .returned (.tuple #[.agg #[.bool (nOf (resN (frN s1 x1 t1 y1 * frD s2 x2 t2 y2 + frN s2 x2 t2 y2 * frD s1 x1 t1 y1) (frD s1 x1 t1 y1 * frD s2 x2 t2 y2))), .slice T k r, .bool (nOf (resD (frN s1 x1 t1 y1 * frD s2 x2 t2 y2 + frN s2 x2 t2 y2 * frD s1 x1 t1 y1) (frD s1 x1 t1 y1 * frD s2 x2 t2 y2))), .slice U l s], .bool (resB (frN s1 x1 t1 y1 * frD s2 x2 t2 y2 + frN s2 x2 t2 y2 * frD s1 x1 t1 y1) (frD s1 x1 t1 y1 * frD s2 x2 t2 y2))]) ∧ Sl w' T k r (lOf (resN (frN s1 x1 t1 y1 * frD s2 x2 t2 y2 + frN s2 x2 t2 y2 * frD s1 x1 t1 y1) (frD s1 x1 t1 y1 * frD s2 x2 t2 y2))) ∧ Sl w' U l s (lOf (resD (frN s1 x1 t1 y1 * frD s2 x2 t2 y2 + frN s2 x2 t2 y2 * frD s1 x1 t1 y1) (frD s1 x1 t1 y1 * frD s2 x2 t2 y2))) ∧ Below w.heap.size w w' := by
  have S1 := Lib.hid ha
  have S2 := Lib.hid hb
  have S3 := Lib.hid hc
  have S4 := Lib.hid hd
  clear ha hb hc hd
  have BW := Lib.hid (Below.refl w.heap.size w)
  go_enter Tryz.func8, Tryz.ntmps8
  go_upto_region 1 with fail
  have S1 := Lib.hid (S1.out.alloc (.cells #[.bool s1, .slice A1 n1 c1, .bool t1, .slice B1 m1 d1] 26))
  have S2 := Lib.hid (S2.out.alloc (.cells #[.bool s1, .slice A1 n1 c1, .bool t1, .slice B1 m1 d1] 26))
  have S3 := Lib.hid (S3.out.alloc (.cells #[.bool s1, .slice A1 n1 c1, .bool t1, .slice B1 m1 d1] 26))
  have S4 := Lib.hid (S4.out.alloc (.cells #[.bool s1, .slice A1 n1 c1, .bool t1, .slice B1 m1 d1] 26))
  have BW := Lib.hid (BW.out.alloc BW.out.size (.cells #[.bool s1, .slice A1 n1 c1, .bool t1, .slice B1 m1 d1] 26))
  have X1 := Lib.hid (Bk.new 26 w #[.bool s1, .slice A1 n1 c1, .bool t1, .slice B1 m1 d1])
  have S1 := Lib.hid (S1.out.alloc (.cells #[.bool s2, .slice A2 n2 c2, .bool t2, .slice B2 m2 d2] 26))
  have S2 := Lib.hid (S2.out.alloc (.cells #[.bool s2, .slice A2 n2 c2, .bool t2, .slice B2 m2 d2] 26))
  have S3 := Lib.hid (S3.out.alloc (.cells #[.bool s2, .slice A2 n2 c2, .bool t2, .slice B2 m2 d2] 26))
  have S4 := Lib.hid (S4.out.alloc (.cells #[.bool s2, .slice A2 n2 c2, .bool t2, .slice B2 m2 d2] 26))
  have BW := Lib.hid (BW.out.alloc BW.out.size (.cells #[.bool s2, .slice A2 n2 c2, .bool t2, .slice B2 m2 d2] 26))
  have X1 := Lib.hid (X1.out.alloc (.cells #[.bool s2, .slice A2 n2 c2, .bool t2, .slice B2 m2 d2] 26))
  have X2 := Lib.hid (Bk.new 26 (w.alloc (.cells #[.bool s1, .slice A1 n1 c1, .bool t1, .slice B1 m1 d1] 26)) #[.bool s2, .slice A2 n2 c2, .bool t2, .slice B2 m2 d2])
  rw [alloc_sz] at X2
  have S1 := Lib.hid (S1.out.alloc (.cells #[.bool false, .slice none 0 0, .bool false, .slice none 0 0] 26))
  have S2 := Lib.hid (S2.out.alloc (.cells #[.bool false, .slice none 0 0, .bool false, .slice none 0 0] 26))
  have S3 := Lib.hid (S3.out.alloc (.cells #[.bool false, .slice none 0 0, .bool false, .slice none 0 0] 26))
  have S4 := Lib.hid (S4.out.alloc (.cells #[.bool false, .slice none 0 0, .bool false, .slice none 0 0] 26))
  have BW := Lib.hid (BW.out.alloc BW.out.size (.cells #[.bool false, .slice none 0 0, .bool false, .slice none 0 0] 26))
  have X1 := Lib.hid (X1.out.alloc (.cells #[.bool false, .slice none 0 0, .bool false, .slice none 0 0] 26))
  have X2 := Lib.hid (X2.out.alloc (.cells #[.bool false, .slice none 0 0, .bool false, .slice none 0 0] 26))
  have X3 := Lib.hid (Bk.new 26 ((w.alloc (.cells #[.bool s1, .slice A1 n1 c1, .bool t1, .slice B1 m1 d1] 26)).alloc (.cells #[.bool s2, .slice A2 n2 c2, .bool t2, .slice B2 m2 d2] 26)) #[.bool false, .slice none 0 0, .bool false, .slice none 0 0])
  rw [alloc_sz, alloc_sz] at X3
  generalize (((w.alloc (.cells #[.bool s1, .slice A1 n1 c1, .bool t1, .slice B1 m1 d1] 26)).alloc (.cells #[.bool s2, .slice A2 n2 c2, .bool t2, .slice B2 m2 d2] 26)).alloc (.cells #[.bool false, .slice none 0 0, .bool false, .slice none 0 0] 26)) = W0 at *
  have lx3 := X3.out.lt
  go_cut [6, 7] (fun vp0 vp1 wx => TwoRat W0 (frN s1 x1 t1 y1) (frD s1 x1 t1 y1) (frN s2 x2 t2 y2) (frD s2 x2 t2 y2) vp0 vp1 wx)
  case first =>
    have e0 : W0.cell? ⟨w.heap.size, 0, none⟩ = some (.bool s1) := X1.out.c 0 rfl
    have e1 : W0.cell? ⟨w.heap.size, 1, none⟩ = some (.slice A1 n1 c1) := X1.out.c 1 rfl
    have e2 : W0.cell? ⟨w.heap.size, 2, none⟩ = some (.bool t1) := X1.out.c 2 rfl
    have e3 : W0.cell? ⟨w.heap.size, 3, none⟩ = some (.slice B1 m1 d1) := X1.out.c 3 rfl
    have e4 : W0.cell? ⟨w.heap.size + 1, 0, none⟩ = some (.bool s2) := X2.out.c 0 rfl
    have e5 : W0.cell? ⟨w.heap.size + 1, 1, none⟩ = some (.slice A2 n2 c2) := X2.out.c 1 rfl
    have e6 : W0.cell? ⟨w.heap.size + 1, 2, none⟩ = some (.bool t2) := X2.out.c 2 rfl
    have e7 : W0.cell? ⟨w.heap.size + 1, 3, none⟩ = some (.slice B2 m2 d2) := X2.out.c 3 rfl
    have laX1 := X1.out.lt
    have xa0X1 : ¬ W0.heap.size = w.heap.size := by omega
    have ya0X1 : ¬ w.heap.size = W0.heap.size := by omega
    have xb0X1 : ¬ W0.heap.size + 1 = w.heap.size := by omega
    have yb0X1 : ¬ w.heap.size = W0.heap.size + 1 := by omega
    have laX2 := X2.out.lt
    have xa0X2 : ¬ W0.heap.size = w.heap.size + 1 := by omega
    have ya0X2 : ¬ w.heap.size + 1 = W0.heap.size := by omega
    have xb0X2 : ¬ W0.heap.size + 1 = w.heap.size + 1 := by omega
    have yb0X2 : ¬ w.heap.size + 1 = W0.heap.size + 1 := by omega
    have BB0 := Lib.hid (Below.refl W0.heap.size W0)
    go_region_held3 (fun w' => w'.cell? ⟨w.heap.size, 0, none⟩ = some (.bool s1) ∧ w'.cell? ⟨w.heap.size, 1, none⟩ = some (.slice A1 n1 c1) ∧ w'.cell? ⟨w.heap.size, 2, none⟩ = some (.bool t1) ∧ w'.cell? ⟨w.heap.size, 3, none⟩ = some (.slice B1 m1 d1) ∧ w'.cell? ⟨w.heap.size + 1, 0, none⟩ = some (.bool s2) ∧ w'.cell? ⟨w.heap.size + 1, 1, none⟩ = some (.slice A2 n2 c2) ∧ w'.cell? ⟨w.heap.size + 1, 2, none⟩ = some (.bool t2) ∧ w'.cell? ⟨w.heap.size + 1, 3, none⟩ = some (.slice B2 m2 d2)) (go_keep)
      (first | (go_at_call 31; (with_reducible refine (r3right_any s1 t1 A1 B1 n1 c1 m1 d1 x1 y1 _ (by first | exact S1.out.below BB0.out | exact (S1.out.below BB0.out).drew | exact (S1.out.below BB0.out).alloc _ | exact (S1.out.below BB0.out).drew.alloc _ | exact ((S1.out.below BB0.out).alloc _).drew | exact ((S1.out.below BB0.out).alloc _).alloc _ | exact ((S1.out.below BB0.out).drew.alloc _).alloc _ | exact (((S1.out.below BB0.out).alloc _).alloc _).drew) (by first | exact S2.out.below BB0.out | exact (S2.out.below BB0.out).drew | exact (S2.out.below BB0.out).alloc _ | exact (S2.out.below BB0.out).drew.alloc _ | exact ((S2.out.below BB0.out).alloc _).drew | exact ((S2.out.below BB0.out).alloc _).alloc _ | exact ((S2.out.below BB0.out).drew.alloc _).alloc _ | exact (((S2.out.below BB0.out).alloc _).alloc _).drew)).mono ?_); rintro e p1 ⟨T1, k1, r1, U1, l1, j1, rfl, hs, ht, hb⟩; have BB1 := Lib.hid (show Below W0.heap.size W0 p1 from (by first | exact below_up BB0.out hb | exact below_up BB0.out.drew hb | exact below_up (BB0.out.alloc BB0.out.size _) hb | exact below_up (BB0.out.drew.alloc BB0.out.drew.size _) hb | exact below_up (BB0.out.alloc BB0.out.size _).drew hb | exact below_up ((BB0.out.alloc BB0.out.size _).alloc (BB0.out.alloc BB0.out.size _).size _) hb | exact below_up ((BB0.out.drew.alloc BB0.out.drew.size _).alloc (BB0.out.drew.alloc BB0.out.drew.size _).size _) hb | exact below_up (((BB0.out.alloc BB0.out.size _).alloc (BB0.out.alloc BB0.out.size _).size _).drew) hb)); (first | (have N1a := Lib.hid (show Bk 26 p1 W0.heap.size #[.bool false, .slice none 0 0, .bool false, .slice none 0 0] from Bk.below (Bk.new 26 W0 #[.bool false, .slice none 0 0, .bool false, .slice none 0 0]) hb)) | (have N1a := Lib.hid (show Bk 26 p1 W0.heap.size #[.bool false, .slice none 0 0, .bool false, .slice none 0 0] from Bk.below (Bk.new 26 W0.drew #[.bool false, .slice none 0 0, .bool false, .slice none 0 0]) hb)) | (have N1a := Lib.hid (show Bk 26 p1 W0.heap.size #[.bool false, .slice none 0 0, .bool false, .slice none 0 0] from Bk.below (Bk.new 26 W0 #[.bool false, .slice none 0 0, .bool false, .slice none 0 0]).drew hb)) | (have N1a := Lib.hid (show Bk 26 p1 W0.heap.size #[.bool false, .slice none 0 0, .bool false, .slice none 0 0] from Bk.below ((Bk.new 26 W0 #[.bool false, .slice none 0 0, .bool false, .slice none 0 0]).alloc (.cells #[.bool false, .slice none 0 0, .bool false, .slice none 0 0] 26)) hb)) | (have N1a := Lib.hid (show Bk 26 p1 W0.heap.size #[.bool false, .slice none 0 0, .bool false, .slice none 0 0] from Bk.below ((Bk.new 26 W0.drew #[.bool false, .slice none 0 0, .bool false, .slice none 0 0]).alloc (.cells #[.bool false, .slice none 0 0, .bool false, .slice none 0 0] 26)) hb)) | skip); (first | (have N1b := Lib.hid (Bk.below (Bk.new 26 (W0.alloc (.cells #[.bool false, .slice none 0 0, .bool false, .slice none 0 0] 26)) #[.bool false, .slice none 0 0, .bool false, .slice none 0 0]) hb); rw [alloc_sz] at N1b) | (have N1b := Lib.hid (Bk.below (Bk.new 26 (W0.drew.alloc (.cells #[.bool false, .slice none 0 0, .bool false, .slice none 0 0] 26)) #[.bool false, .slice none 0 0, .bool false, .slice none 0 0]) hb); rw [alloc_sz] at N1b; have N1b := Lib.hid (show Bk 26 p1 (W0.heap.size + 1) #[.bool false, .slice none 0 0, .bool false, .slice none 0 0] from N1b.out)) | skip); (first | (have mN1a0 := N1a.out.c 0 (v := .bool false) rfl; have oN1a0 := N1a.out.fz 0; have mN1a1 := N1a.out.c 1 (v := .slice none 0 0) rfl; have oN1a1 := N1a.out.fz 1; have mN1a2 := N1a.out.c 2 (v := .bool false) rfl; have oN1a2 := N1a.out.fz 2; have mN1a3 := N1a.out.c 3 (v := .slice none 0 0) rfl; have oN1a3 := N1a.out.fz 3; have yN1a := N1a.out.lt; have yaN1a1 : ¬ W0.heap.size = p1.heap.size := (by omega); have ybN1a1 : ¬ p1.heap.size = W0.heap.size := (by omega); have ycN1a1 : ¬ W0.heap.size = p1.heap.size + 1 := (by omega); have ydN1a1 : ¬ p1.heap.size + 1 = W0.heap.size := (by omega)) | skip); (first | (have mN1b0 := N1b.out.c 0 (v := .bool false) rfl; have oN1b0 := N1b.out.fz 0; have mN1b1 := N1b.out.c 1 (v := .slice none 0 0) rfl; have oN1b1 := N1b.out.fz 1; have mN1b2 := N1b.out.c 2 (v := .bool false) rfl; have oN1b2 := N1b.out.fz 2; have mN1b3 := N1b.out.c 3 (v := .slice none 0 0) rfl; have oN1b3 := N1b.out.fz 3; have yN1b := N1b.out.lt; have yaN1b1 : ¬ W0.heap.size + 1 = p1.heap.size := (by omega); have ybN1b1 : ¬ p1.heap.size = W0.heap.size + 1 := (by omega); have ycN1b1 : ¬ W0.heap.size + 1 = p1.heap.size + 1 := (by omega); have ydN1b1 : ¬ p1.heap.size + 1 = W0.heap.size + 1 := (by omega)) | skip); have R1 := Lib.hid hs; clear hs; have R2 := Lib.hid ht; clear ht; have f0 : p1.cell? ⟨w.heap.size, 0, none⟩ = some (.bool s1) := (X1.out.below BB1.out).c 0 rfl; have f1 : p1.cell? ⟨w.heap.size, 1, none⟩ = some (.slice A1 n1 c1) := (X1.out.below BB1.out).c 1 rfl; have f2 : p1.cell? ⟨w.heap.size, 2, none⟩ = some (.bool t1) := (X1.out.below BB1.out).c 2 rfl; have f3 : p1.cell? ⟨w.heap.size, 3, none⟩ = some (.slice B1 m1 d1) := (X1.out.below BB1.out).c 3 rfl; have laX1 := (X1.out.below BB1.out).lt; have xa1X1 : ¬ p1.heap.size = w.heap.size := (by omega); have ya1X1 : ¬ w.heap.size = p1.heap.size := (by omega); have xb1X1 : ¬ p1.heap.size + 1 = w.heap.size := (by omega); have yb1X1 : ¬ w.heap.size = p1.heap.size + 1 := (by omega); have f4 : p1.cell? ⟨w.heap.size + 1, 0, none⟩ = some (.bool s2) := (X2.out.below BB1.out).c 0 rfl; have f5 : p1.cell? ⟨w.heap.size + 1, 1, none⟩ = some (.slice A2 n2 c2) := (X2.out.below BB1.out).c 1 rfl; have f6 : p1.cell? ⟨w.heap.size + 1, 2, none⟩ = some (.bool t2) := (X2.out.below BB1.out).c 2 rfl; have f7 : p1.cell? ⟨w.heap.size + 1, 3, none⟩ = some (.slice B2 m2 d2) := (X2.out.below BB1.out).c 3 rfl; have laX2 := (X2.out.below BB1.out).lt; have xa1X2 : ¬ p1.heap.size = w.heap.size + 1 := (by omega); have ya1X2 : ¬ w.heap.size + 1 = p1.heap.size := (by omega); have xb1X2 : ¬ p1.heap.size + 1 = w.heap.size + 1 := (by omega); have yb1X2 : ¬ w.heap.size + 1 = p1.heap.size + 1 := (by omega); clear hb) | (go_at_call 31; (with_reducible refine (r3right_any s2 t2 A2 B2 n2 c2 m2 d2 x2 y2 _ (by first | exact S3.out.below BB1.out | exact (S3.out.below BB1.out).drew | exact (S3.out.below BB1.out).alloc _ | exact (S3.out.below BB1.out).drew.alloc _ | exact ((S3.out.below BB1.out).alloc _).drew | exact ((S3.out.below BB1.out).alloc _).alloc _ | exact ((S3.out.below BB1.out).drew.alloc _).alloc _ | exact (((S3.out.below BB1.out).alloc _).alloc _).drew) (by first | exact S4.out.below BB1.out | exact (S4.out.below BB1.out).drew | exact (S4.out.below BB1.out).alloc _ | exact (S4.out.below BB1.out).drew.alloc _ | exact ((S4.out.below BB1.out).alloc _).drew | exact ((S4.out.below BB1.out).alloc _).alloc _ | exact ((S4.out.below BB1.out).drew.alloc _).alloc _ | exact (((S4.out.below BB1.out).alloc _).alloc _).drew)).mono ?_); rintro e p2 ⟨T2, k2, r2, U2, l2, j2, rfl, hs, ht, hb⟩; have BB2 := Lib.hid (show Below W0.heap.size W0 p2 from (by first | exact below_up BB1.out hb | exact below_up BB1.out.drew hb | exact below_up (BB1.out.alloc BB1.out.size _) hb | exact below_up (BB1.out.drew.alloc BB1.out.drew.size _) hb | exact below_up (BB1.out.alloc BB1.out.size _).drew hb | exact below_up ((BB1.out.alloc BB1.out.size _).alloc (BB1.out.alloc BB1.out.size _).size _) hb | exact below_up ((BB1.out.drew.alloc BB1.out.drew.size _).alloc (BB1.out.drew.alloc BB1.out.drew.size _).size _) hb | exact below_up (((BB1.out.alloc BB1.out.size _).alloc (BB1.out.alloc BB1.out.size _).size _).drew) hb)); (first | (have N1a := Lib.hid (N1a.out.below hb)) | (have N1a := Lib.hid (N1a.out.drew.below hb)) | (have N1a := Lib.hid ((N1a.out.alloc _).below hb)) | (have N1a := Lib.hid (((N1a.out.alloc _).drew).below hb)) | (have N1a := Lib.hid ((N1a.out.drew.alloc _).below hb)) | (have N1a := Lib.hid (((N1a.out.alloc _).alloc _).below hb)) | (have N1a := Lib.hid (((N1a.out.drew.alloc _).alloc _).below hb)) | skip); (first | (have N1b := Lib.hid (N1b.out.below hb)) | (have N1b := Lib.hid (N1b.out.drew.below hb)) | (have N1b := Lib.hid ((N1b.out.alloc _).below hb)) | (have N1b := Lib.hid (((N1b.out.alloc _).drew).below hb)) | (have N1b := Lib.hid ((N1b.out.drew.alloc _).below hb)) | (have N1b := Lib.hid (((N1b.out.alloc _).alloc _).below hb)) | (have N1b := Lib.hid (((N1b.out.drew.alloc _).alloc _).below hb)) | skip); (first | (have N2a := Lib.hid (show Bk 26 p2 p1.heap.size #[.bool false, .slice none 0 0, .bool false, .slice none 0 0] from Bk.below (Bk.new 26 p1 #[.bool false, .slice none 0 0, .bool false, .slice none 0 0]) hb)) | (have N2a := Lib.hid (show Bk 26 p2 p1.heap.size #[.bool false, .slice none 0 0, .bool false, .slice none 0 0] from Bk.below (Bk.new 26 p1.drew #[.bool false, .slice none 0 0, .bool false, .slice none 0 0]) hb)) | (have N2a := Lib.hid (show Bk 26 p2 p1.heap.size #[.bool false, .slice none 0 0, .bool false, .slice none 0 0] from Bk.below (Bk.new 26 p1 #[.bool false, .slice none 0 0, .bool false, .slice none 0 0]).drew hb)) | (have N2a := Lib.hid (show Bk 26 p2 p1.heap.size #[.bool false, .slice none 0 0, .bool false, .slice none 0 0] from Bk.below ((Bk.new 26 p1 #[.bool false, .slice none 0 0, .bool false, .slice none 0 0]).alloc (.cells #[.bool false, .slice none 0 0, .bool false, .slice none 0 0] 26)) hb)) | (have N2a := Lib.hid (show Bk 26 p2 p1.heap.size #[.bool false, .slice none 0 0, .bool false, .slice none 0 0] from Bk.below ((Bk.new 26 p1.drew #[.bool false, .slice none 0 0, .bool false, .slice none 0 0]).alloc (.cells #[.bool false, .slice none 0 0, .bool false, .slice none 0 0] 26)) hb)) | skip); (first | (have N2b := Lib.hid (Bk.below (Bk.new 26 (p1.alloc (.cells #[.bool false, .slice none 0 0, .bool false, .slice none 0 0] 26)) #[.bool false, .slice none 0 0, .bool false, .slice none 0 0]) hb); rw [alloc_sz] at N2b) | (have N2b := Lib.hid (Bk.below (Bk.new 26 (p1.drew.alloc (.cells #[.bool false, .slice none 0 0, .bool false, .slice none 0 0] 26)) #[.bool false, .slice none 0 0, .bool false, .slice none 0 0]) hb); rw [alloc_sz] at N2b; have N2b := Lib.hid (show Bk 26 p2 (p1.heap.size + 1) #[.bool false, .slice none 0 0, .bool false, .slice none 0 0] from N2b.out)) | skip); (first | (have mN1a0 := N1a.out.c 0 (v := .bool false) rfl; have oN1a0 := N1a.out.fz 0; have mN1a1 := N1a.out.c 1 (v := .slice none 0 0) rfl; have oN1a1 := N1a.out.fz 1; have mN1a2 := N1a.out.c 2 (v := .bool false) rfl; have oN1a2 := N1a.out.fz 2; have mN1a3 := N1a.out.c 3 (v := .slice none 0 0) rfl; have oN1a3 := N1a.out.fz 3; have yN1a := N1a.out.lt; have yaN1a2 : ¬ W0.heap.size = p2.heap.size := (by omega); have ybN1a2 : ¬ p2.heap.size = W0.heap.size := (by omega); have ycN1a2 : ¬ W0.heap.size = p2.heap.size + 1 := (by omega); have ydN1a2 : ¬ p2.heap.size + 1 = W0.heap.size := (by omega)) | skip); (first | (have mN1b0 := N1b.out.c 0 (v := .bool false) rfl; have oN1b0 := N1b.out.fz 0; have mN1b1 := N1b.out.c 1 (v := .slice none 0 0) rfl; have oN1b1 := N1b.out.fz 1; have mN1b2 := N1b.out.c 2 (v := .bool false) rfl; have oN1b2 := N1b.out.fz 2; have mN1b3 := N1b.out.c 3 (v := .slice none 0 0) rfl; have oN1b3 := N1b.out.fz 3; have yN1b := N1b.out.lt; have yaN1b2 : ¬ W0.heap.size + 1 = p2.heap.size := (by omega); have ybN1b2 : ¬ p2.heap.size = W0.heap.size + 1 := (by omega); have ycN1b2 : ¬ W0.heap.size + 1 = p2.heap.size + 1 := (by omega); have ydN1b2 : ¬ p2.heap.size + 1 = W0.heap.size + 1 := (by omega)) | skip); (first | (have mN2a0 := N2a.out.c 0 (v := .bool false) rfl; have oN2a0 := N2a.out.fz 0; have mN2a1 := N2a.out.c 1 (v := .slice none 0 0) rfl; have oN2a1 := N2a.out.fz 1; have mN2a2 := N2a.out.c 2 (v := .bool false) rfl; have oN2a2 := N2a.out.fz 2; have mN2a3 := N2a.out.c 3 (v := .slice none 0 0) rfl; have oN2a3 := N2a.out.fz 3; have yN2a := N2a.out.lt; have yaN2a2 : ¬ p1.heap.size = p2.heap.size := (by omega); have ybN2a2 : ¬ p2.heap.size = p1.heap.size := (by omega); have ycN2a2 : ¬ p1.heap.size = p2.heap.size + 1 := (by omega); have ydN2a2 : ¬ p2.heap.size + 1 = p1.heap.size := (by omega)) | skip); (first | (have mN2b0 := N2b.out.c 0 (v := .bool false) rfl; have oN2b0 := N2b.out.fz 0; have mN2b1 := N2b.out.c 1 (v := .slice none 0 0) rfl; have oN2b1 := N2b.out.fz 1; have mN2b2 := N2b.out.c 2 (v := .bool false) rfl; have oN2b2 := N2b.out.fz 2; have mN2b3 := N2b.out.c 3 (v := .slice none 0 0) rfl; have oN2b3 := N2b.out.fz 3; have yN2b := N2b.out.lt; have yaN2b2 : ¬ p1.heap.size + 1 = p2.heap.size := (by omega); have ybN2b2 : ¬ p2.heap.size = p1.heap.size + 1 := (by omega); have ycN2b2 : ¬ p1.heap.size + 1 = p2.heap.size + 1 := (by omega); have ydN2b2 : ¬ p2.heap.size + 1 = p1.heap.size + 1 := (by omega)) | skip); have R1 := Lib.hid (by first | exact R1.out.below hb | exact R1.out.drew.below hb | exact (R1.out.alloc _).below hb | exact (R1.out.drew.alloc _).below hb | exact ((R1.out.alloc _).drew).below hb | exact ((R1.out.alloc _).alloc _).below hb | exact ((R1.out.drew.alloc _).alloc _).below hb); have R2 := Lib.hid (by first | exact R2.out.below hb | exact R2.out.drew.below hb | exact (R2.out.alloc _).below hb | exact (R2.out.drew.alloc _).below hb | exact ((R2.out.alloc _).drew).below hb | exact ((R2.out.alloc _).alloc _).below hb | exact ((R2.out.drew.alloc _).alloc _).below hb); have R3 := Lib.hid hs; clear hs; have R4 := Lib.hid ht; clear ht; have f0 : p2.cell? ⟨w.heap.size, 0, none⟩ = some (.bool s1) := (X1.out.below BB2.out).c 0 rfl; have f1 : p2.cell? ⟨w.heap.size, 1, none⟩ = some (.slice A1 n1 c1) := (X1.out.below BB2.out).c 1 rfl; have f2 : p2.cell? ⟨w.heap.size, 2, none⟩ = some (.bool t1) := (X1.out.below BB2.out).c 2 rfl; have f3 : p2.cell? ⟨w.heap.size, 3, none⟩ = some (.slice B1 m1 d1) := (X1.out.below BB2.out).c 3 rfl; have laX1 := (X1.out.below BB2.out).lt; have xa2X1 : ¬ p2.heap.size = w.heap.size := (by omega); have ya2X1 : ¬ w.heap.size = p2.heap.size := (by omega); have xb2X1 : ¬ p2.heap.size + 1 = w.heap.size := (by omega); have yb2X1 : ¬ w.heap.size = p2.heap.size + 1 := (by omega); have f4 : p2.cell? ⟨w.heap.size + 1, 0, none⟩ = some (.bool s2) := (X2.out.below BB2.out).c 0 rfl; have f5 : p2.cell? ⟨w.heap.size + 1, 1, none⟩ = some (.slice A2 n2 c2) := (X2.out.below BB2.out).c 1 rfl; have f6 : p2.cell? ⟨w.heap.size + 1, 2, none⟩ = some (.bool t2) := (X2.out.below BB2.out).c 2 rfl; have f7 : p2.cell? ⟨w.heap.size + 1, 3, none⟩ = some (.slice B2 m2 d2) := (X2.out.below BB2.out).c 3 rfl; have laX2 := (X2.out.below BB2.out).lt; have xa2X2 : ¬ p2.heap.size = w.heap.size + 1 := (by omega); have ya2X2 : ¬ w.heap.size + 1 = p2.heap.size := (by omega); have xb2X2 : ¬ p2.heap.size + 1 = w.heap.size + 1 := (by omega); have yb2X2 : ¬ w.heap.size + 1 = p2.heap.size + 1 := (by omega); clear hb))
    all_goals
      go_wp2_with fail
      go_meet
      have sz1 := BB1.out.size
      have sz2 := BB2.out.size
      first
        | (with_reducible exact tworat_aa BB2.out R1.out R2.out R3.out R4.out)
        | (with_reducible exact tworat_aa' BB2.out R1.out R2.out R3.out R4.out)
        | (with_reducible exact tworat_sa BB2.out R1.out R2.out R3.out R4.out N1a.out (by first | exact Nat.le_refl _ | exact BB1.out.size | exact BB2.out.size | omega))
        | (with_reducible exact tworat_sa' BB2.out R1.out R2.out R3.out R4.out N1a.out (by first | exact Nat.le_refl _ | exact BB1.out.size | exact BB2.out.size | omega))
        | (with_reducible exact tworat_sa BB2.out R1.out R2.out R3.out R4.out N1b.out (by first | exact Nat.le_refl _ | exact BB1.out.size | exact BB2.out.size | omega))
        | (with_reducible exact tworat_sa' BB2.out R1.out R2.out R3.out R4.out N1b.out (by first | exact Nat.le_refl _ | exact BB1.out.size | exact BB2.out.size | omega))
        | (with_reducible exact tworat_sa BB2.out R1.out R2.out R3.out R4.out N2a.out (by first | exact Nat.le_refl _ | exact BB1.out.size | exact BB2.out.size | omega))
        | (with_reducible exact tworat_sa' BB2.out R1.out R2.out R3.out R4.out N2a.out (by first | exact Nat.le_refl _ | exact BB1.out.size | exact BB2.out.size | omega))
        | (with_reducible exact tworat_sa BB2.out R1.out R2.out R3.out R4.out N2b.out (by first | exact Nat.le_refl _ | exact BB1.out.size | exact BB2.out.size | omega))
        | (with_reducible exact tworat_sa' BB2.out R1.out R2.out R3.out R4.out N2b.out (by first | exact Nat.le_refl _ | exact BB1.out.size | exact BB2.out.size | omega))
        | (with_reducible exact tworat_ss BB2.out R1.out R2.out R3.out R4.out N1a.out N1b.out (by first | exact Nat.le_refl _ | exact BB1.out.size | exact BB2.out.size | omega) (by first | exact Nat.le_refl _ | exact BB1.out.size | exact BB2.out.size | omega) (by omega))
        | (with_reducible exact tworat_ss BB2.out R1.out R2.out R3.out R4.out N1a.out N2a.out (by first | exact Nat.le_refl _ | exact BB1.out.size | exact BB2.out.size | omega) (by first | exact Nat.le_refl _ | exact BB1.out.size | exact BB2.out.size | omega) (by omega))
        | (with_reducible exact tworat_ss BB2.out R1.out R2.out R3.out R4.out N1a.out N2b.out (by first | exact Nat.le_refl _ | exact BB1.out.size | exact BB2.out.size | omega) (by first | exact Nat.le_refl _ | exact BB1.out.size | exact BB2.out.size | omega) (by omega))
        | (with_reducible exact tworat_ss BB2.out R1.out R2.out R3.out R4.out N1b.out N1a.out (by first | exact Nat.le_refl _ | exact BB1.out.size | exact BB2.out.size | omega) (by first | exact Nat.le_refl _ | exact BB1.out.size | exact BB2.out.size | omega) (by omega))
        | (with_reducible exact tworat_ss BB2.out R1.out R2.out R3.out R4.out N1b.out N2a.out (by first | exact Nat.le_refl _ | exact BB1.out.size | exact BB2.out.size | omega) (by first | exact Nat.le_refl _ | exact BB1.out.size | exact BB2.out.size | omega) (by omega))
        | (with_reducible exact tworat_ss BB2.out R1.out R2.out R3.out R4.out N1b.out N2b.out (by first | exact Nat.le_refl _ | exact BB1.out.size | exact BB2.out.size | omega) (by first | exact Nat.le_refl _ | exact BB1.out.size | exact BB2.out.size | omega) (by omega))
        | (with_reducible exact tworat_ss BB2.out R1.out R2.out R3.out R4.out N2a.out N1a.out (by first | exact Nat.le_refl _ | exact BB1.out.size | exact BB2.out.size | omega) (by first | exact Nat.le_refl _ | exact BB1.out.size | exact BB2.out.size | omega) (by omega))
        | (with_reducible exact tworat_ss BB2.out R1.out R2.out R3.out R4.out N2a.out N1b.out (by first | exact Nat.le_refl _ | exact BB1.out.size | exact BB2.out.size | omega) (by first | exact Nat.le_refl _ | exact BB1.out.size | exact BB2.out.size | omega) (by omega))
        | (with_reducible exact tworat_ss BB2.out R1.out R2.out R3.out R4.out N2a.out N2b.out (by first | exact Nat.le_refl _ | exact BB1.out.size | exact BB2.out.size | omega) (by first | exact Nat.le_refl _ | exact BB1.out.size | exact BB2.out.size | omega) (by omega))
        | (with_reducible exact tworat_ss BB2.out R1.out R2.out R3.out R4.out N2b.out N1a.out (by first | exact Nat.le_refl _ | exact BB1.out.size | exact BB2.out.size | omega) (by first | exact Nat.le_refl _ | exact BB1.out.size | exact BB2.out.size | omega) (by omega))
        | (with_reducible exact tworat_ss BB2.out R1.out R2.out R3.out R4.out N2b.out N1b.out (by first | exact Nat.le_refl _ | exact BB1.out.size | exact BB2.out.size | omega) (by first | exact Nat.le_refl _ | exact BB1.out.size | exact BB2.out.size | omega) (by omega))
        | (with_reducible exact tworat_ss BB2.out R1.out R2.out R3.out R4.out N2b.out N2a.out (by first | exact Nat.le_refl _ | exact BB1.out.size | exact BB2.out.size | omega) (by first | exact Nat.le_refl _ | exact BB1.out.size | exact BB2.out.size | omega) (by omega))
  case rest =>
    obtain ⟨bp0, bp1, T1, k1, r1, U1, l1, j1, T2, k2, r2, U2, l2, j2, rfl, rfl, hg1, hg2, hne, hx0, hx1, hs, ht, hu, hv, hb⟩ := hcut
    have S1 := Lib.hid (S1.out.below hb)
    have S2 := Lib.hid (S2.out.below hb)
    have S3 := Lib.hid (S3.out.below hb)
    have S4 := Lib.hid (S4.out.below hb)
    have BW := Lib.hid (below_on BW.out hb)
    have X1 := Lib.hid (X1.out.below hb)
    have X2 := Lib.hid (X2.out.below hb)
    have X3 := Lib.hid (X3.out.below hb)
    clear hb
    have Y1 := Lib.hid hx0
    clear hx0
    have Y2 := Lib.hid hx1
    clear hx1
    have R1 := Lib.hid hs
    clear hs
    have R2 := Lib.hid ht
    clear ht
    have R3 := Lib.hid hu
    clear hu
    have R4 := Lib.hid hv
    clear hv
    have FA := Lib.hid (fr_ok s1 x1 t1 y1)
    have FB := Lib.hid (fr_ok s2 x2 t2 y2)
    clear hne
    generalize wc = W1 at *
    clear S1 S2 S3 S4 X1 X2
    generalize hP1 : frN s1 x1 t1 y1 = p at *
    generalize hQ1 : frD s1 x1 t1 y1 = q at *
    generalize hP2 : frN s2 x2 t2 y2 = p' at *
    generalize hQ2 : frD s2 x2 t2 y2 = q' at *
    have HP1 := Lib.hid hP1
    have HQ1 := Lib.hid hQ1
    have HP2 := Lib.hid hP2
    have HQ2 := Lib.hid hQ2
    clear hP1 hQ1 hP2 hQ2
    have b1 := R1.out.fit FA.out.fn
    have b2 := R2.out.fit FA.out.fd
    have b3 := R3.out.fit FB.out.fn
    have b4 := R4.out.fit FB.out.fd
    go_upto_region 2 with fail
    have e0 : W1.cell? ⟨bp0, 0, none⟩ = some (.bool (nOf (p))) := Y1.out.c 0 rfl
    have e1 : W1.cell? ⟨bp0, 1, none⟩ = some (.slice T1 k1 r1) := Y1.out.c 1 rfl
    have e2 : W1.cell? ⟨bp0, 2, none⟩ = some (.bool (nOf (q))) := Y1.out.c 2 rfl
    have e3 : W1.cell? ⟨bp0, 3, none⟩ = some (.slice U1 l1 j1) := Y1.out.c 3 rfl
    have e4 : W1.cell? ⟨bp1, 0, none⟩ = some (.bool (nOf (p'))) := Y2.out.c 0 rfl
    have e5 : W1.cell? ⟨bp1, 1, none⟩ = some (.slice T2 k2 r2) := Y2.out.c 1 rfl
    have e6 : W1.cell? ⟨bp1, 2, none⟩ = some (.bool (nOf (q'))) := Y2.out.c 2 rfl
    have e7 : W1.cell? ⟨bp1, 3, none⟩ = some (.slice U2 l2 j2) := Y2.out.c 3 rfl
    have iq1 : ¬ w.heap.size + 1 + 1 = bp0 := by omega
    have ir1 : ¬ bp0 = w.heap.size + 1 + 1 := by omega
    have iq2 : ¬ w.heap.size + 1 + 1 = bp1 := by omega
    have ir2 : ¬ bp1 = w.heap.size + 1 + 1 := by omega
    go_region_held3 (fun w' => w'.cell? ⟨bp0, 0, none⟩ = some (.bool (nOf (p))) ∧ w'.cell? ⟨bp0, 1, none⟩ = some (.slice T1 k1 r1) ∧ w'.cell? ⟨bp0, 2, none⟩ = some (.bool (nOf (q))) ∧ w'.cell? ⟨bp0, 3, none⟩ = some (.slice U1 l1 j1) ∧ w'.cell? ⟨bp1, 0, none⟩ = some (.bool (nOf (p'))) ∧ w'.cell? ⟨bp1, 1, none⟩ = some (.slice T2 k2 r2) ∧ w'.cell? ⟨bp1, 2, none⟩ = some (.bool (nOf (q'))) ∧ w'.cell? ⟨bp1, 3, none⟩ = some (.slice U2 l2 j2)) (go_keep)
      (first | (go_at_call 34; (with_reducible refine (r3prod_any p q' T1 U2 k1 r1 l2 j2 _ (by first | exact R1.out | exact R1.out.drew) (by first | exact R4.out | exact R4.out.drew) (by omega) (by omega)).mono ?_); rintro e a1 ⟨T3, k3, r3, rfl, hs, hl1, hb⟩; have BB1 := Lib.hid (show Below W1.heap.size W1 a1 from (by first | exact hb | exact (Below.refl _ _).drew.trans (hb.mono (Nat.le_refl _)))); have R5 := Lib.hid hs; clear hs; have f0 : a1.cell? ⟨bp0, 0, none⟩ = some (.bool (nOf (p))) := (Y1.out.below BB1.out).c 0 rfl; have f1 : a1.cell? ⟨bp0, 1, none⟩ = some (.slice T1 k1 r1) := (Y1.out.below BB1.out).c 1 rfl; have f2 : a1.cell? ⟨bp0, 2, none⟩ = some (.bool (nOf (q))) := (Y1.out.below BB1.out).c 2 rfl; have f3 : a1.cell? ⟨bp0, 3, none⟩ = some (.slice U1 l1 j1) := (Y1.out.below BB1.out).c 3 rfl; have f4 : a1.cell? ⟨bp1, 0, none⟩ = some (.bool (nOf (p'))) := (Y2.out.below BB1.out).c 0 rfl; have f5 : a1.cell? ⟨bp1, 1, none⟩ = some (.slice T2 k2 r2) := (Y2.out.below BB1.out).c 1 rfl; have f6 : a1.cell? ⟨bp1, 2, none⟩ = some (.bool (nOf (q'))) := (Y2.out.below BB1.out).c 2 rfl; have f7 : a1.cell? ⟨bp1, 3, none⟩ = some (.slice U2 l2 j2) := (Y2.out.below BB1.out).c 3 rfl; have g0 : a1.cell? ⟨w.heap.size + 1 + 1, 0, none⟩ = some (.bool false) := (X3.out.below BB1.out).c 0 rfl; have h0 := (X3.out.below BB1.out).fz 0; have g1 : a1.cell? ⟨w.heap.size + 1 + 1, 1, none⟩ = some (.slice none 0 0) := (X3.out.below BB1.out).c 1 rfl; have h1 := (X3.out.below BB1.out).fz 1; have g2 : a1.cell? ⟨w.heap.size + 1 + 1, 2, none⟩ = some (.bool false) := (X3.out.below BB1.out).c 2 rfl; have h2 := (X3.out.below BB1.out).fz 2; have g3 : a1.cell? ⟨w.heap.size + 1 + 1, 3, none⟩ = some (.slice none 0 0) := (X3.out.below BB1.out).c 3 rfl; have h3 := (X3.out.below BB1.out).fz 3; clear hb) | (go_at_call 34; (with_reducible refine (r3prod_any p' q T2 U1 k2 r2 l1 j1 _ (R3.out.below BB1.out) (R2.out.below BB1.out) (by omega) (by omega)).mono ?_); rintro e a2 ⟨T4, k4, r4, rfl, hs, hl2, hb⟩; have BB2 := Lib.hid (below_up BB1.out hb); have R5 := Lib.hid (R5.out.below hb); have R6 := Lib.hid hs; clear hs; have f0 : a2.cell? ⟨bp0, 0, none⟩ = some (.bool (nOf (p))) := (Y1.out.below BB2.out).c 0 rfl; have f1 : a2.cell? ⟨bp0, 1, none⟩ = some (.slice T1 k1 r1) := (Y1.out.below BB2.out).c 1 rfl; have f2 : a2.cell? ⟨bp0, 2, none⟩ = some (.bool (nOf (q))) := (Y1.out.below BB2.out).c 2 rfl; have f3 : a2.cell? ⟨bp0, 3, none⟩ = some (.slice U1 l1 j1) := (Y1.out.below BB2.out).c 3 rfl; have f4 : a2.cell? ⟨bp1, 0, none⟩ = some (.bool (nOf (p'))) := (Y2.out.below BB2.out).c 0 rfl; have f5 : a2.cell? ⟨bp1, 1, none⟩ = some (.slice T2 k2 r2) := (Y2.out.below BB2.out).c 1 rfl; have f6 : a2.cell? ⟨bp1, 2, none⟩ = some (.bool (nOf (q'))) := (Y2.out.below BB2.out).c 2 rfl; have f7 : a2.cell? ⟨bp1, 3, none⟩ = some (.slice U2 l2 j2) := (Y2.out.below BB2.out).c 3 rfl; have g0 : a2.cell? ⟨w.heap.size + 1 + 1, 0, none⟩ = some (.bool false) := (X3.out.below BB2.out).c 0 rfl; have h0 := (X3.out.below BB2.out).fz 0; have g1 : a2.cell? ⟨w.heap.size + 1 + 1, 1, none⟩ = some (.slice none 0 0) := (X3.out.below BB2.out).c 1 rfl; have h1 := (X3.out.below BB2.out).fz 1; have g2 : a2.cell? ⟨w.heap.size + 1 + 1, 2, none⟩ = some (.bool false) := (X3.out.below BB2.out).c 2 rfl; have h2 := (X3.out.below BB2.out).fz 2; have g3 : a2.cell? ⟨w.heap.size + 1 + 1, 3, none⟩ = some (.slice none 0 0) := (X3.out.below BB2.out).c 3 rfl; have h3 := (X3.out.below BB2.out).fz 3; clear hb) | (go_at_call 33; (with_reducible refine (r3whole_any (p * q') (p' * q) T3 T4 k3 r3 k4 r4 _ R5.out R6.out (by omega) (by omega)).mono ?_); rintro e a3 ⟨T5, k5, r5, rfl, hs, hb⟩; have lw := sum_len (n := 400) (prod_len FA.out.fn FB.out.fd) (prod_len FB.out.fn FA.out.fd); rw [hs.len] at lw; have BB3 := Lib.hid (below_up BB2.out hb); have R5 := Lib.hid (R5.out.below hb); have R6 := Lib.hid (R6.out.below hb); have R7 := Lib.hid hs; clear hs; have f0 : a3.cell? ⟨bp0, 0, none⟩ = some (.bool (nOf (p))) := (Y1.out.below BB3.out).c 0 rfl; have f1 : a3.cell? ⟨bp0, 1, none⟩ = some (.slice T1 k1 r1) := (Y1.out.below BB3.out).c 1 rfl; have f2 : a3.cell? ⟨bp0, 2, none⟩ = some (.bool (nOf (q))) := (Y1.out.below BB3.out).c 2 rfl; have f3 : a3.cell? ⟨bp0, 3, none⟩ = some (.slice U1 l1 j1) := (Y1.out.below BB3.out).c 3 rfl; have f4 : a3.cell? ⟨bp1, 0, none⟩ = some (.bool (nOf (p'))) := (Y2.out.below BB3.out).c 0 rfl; have f5 : a3.cell? ⟨bp1, 1, none⟩ = some (.slice T2 k2 r2) := (Y2.out.below BB3.out).c 1 rfl; have f6 : a3.cell? ⟨bp1, 2, none⟩ = some (.bool (nOf (q'))) := (Y2.out.below BB3.out).c 2 rfl; have f7 : a3.cell? ⟨bp1, 3, none⟩ = some (.slice U2 l2 j2) := (Y2.out.below BB3.out).c 3 rfl; have g0 : a3.cell? ⟨w.heap.size + 1 + 1, 0, none⟩ = some (.bool false) := (X3.out.below BB3.out).c 0 rfl; have h0 := (X3.out.below BB3.out).fz 0; have g1 : a3.cell? ⟨w.heap.size + 1 + 1, 1, none⟩ = some (.slice none 0 0) := (X3.out.below BB3.out).c 1 rfl; have h1 := (X3.out.below BB3.out).fz 1; have g2 : a3.cell? ⟨w.heap.size + 1 + 1, 2, none⟩ = some (.bool false) := (X3.out.below BB3.out).c 2 rfl; have h2 := (X3.out.below BB3.out).fz 2; have g3 : a3.cell? ⟨w.heap.size + 1 + 1, 3, none⟩ = some (.slice none 0 0) := (X3.out.below BB3.out).c 3 rfl; have h3 := (X3.out.below BB3.out).fz 3; clear hb) | (go_at_call 34; (with_reducible refine (r3prod_any q q' U1 U2 l1 j1 l2 j2 _ (R2.out.below BB3.out) (R4.out.below BB3.out) (by omega) (by omega)).mono ?_); rintro e a4 ⟨T6, k6, r6, rfl, hs, hl3, hb⟩; have BB4 := Lib.hid (below_up BB3.out hb); have R5 := Lib.hid (R5.out.below hb); have R6 := Lib.hid (R6.out.below hb); have R7 := Lib.hid (R7.out.below hb); have R8 := Lib.hid hs; clear hs; have f0 : a4.cell? ⟨bp0, 0, none⟩ = some (.bool (nOf (p))) := (Y1.out.below BB4.out).c 0 rfl; have f1 : a4.cell? ⟨bp0, 1, none⟩ = some (.slice T1 k1 r1) := (Y1.out.below BB4.out).c 1 rfl; have f2 : a4.cell? ⟨bp0, 2, none⟩ = some (.bool (nOf (q))) := (Y1.out.below BB4.out).c 2 rfl; have f3 : a4.cell? ⟨bp0, 3, none⟩ = some (.slice U1 l1 j1) := (Y1.out.below BB4.out).c 3 rfl; have f4 : a4.cell? ⟨bp1, 0, none⟩ = some (.bool (nOf (p'))) := (Y2.out.below BB4.out).c 0 rfl; have f5 : a4.cell? ⟨bp1, 1, none⟩ = some (.slice T2 k2 r2) := (Y2.out.below BB4.out).c 1 rfl; have f6 : a4.cell? ⟨bp1, 2, none⟩ = some (.bool (nOf (q'))) := (Y2.out.below BB4.out).c 2 rfl; have f7 : a4.cell? ⟨bp1, 3, none⟩ = some (.slice U2 l2 j2) := (Y2.out.below BB4.out).c 3 rfl; have g0 : a4.cell? ⟨w.heap.size + 1 + 1, 0, none⟩ = some (.bool false) := (X3.out.below BB4.out).c 0 rfl; have h0 := (X3.out.below BB4.out).fz 0; have g1 : a4.cell? ⟨w.heap.size + 1 + 1, 1, none⟩ = some (.slice none 0 0) := (X3.out.below BB4.out).c 1 rfl; have h1 := (X3.out.below BB4.out).fz 1; have g2 : a4.cell? ⟨w.heap.size + 1 + 1, 2, none⟩ = some (.bool false) := (X3.out.below BB4.out).c 2 rfl; have h2 := (X3.out.below BB4.out).fz 2; have g3 : a4.cell? ⟨w.heap.size + 1 + 1, 3, none⟩ = some (.slice none 0 0) := (X3.out.below BB4.out).c 3 rfl; have h3 := (X3.out.below BB4.out).fz 3; clear hb) | (go_at_call 32; (with_reducible refine (r3lowest_any (p * q' + p' * q) (q * q') T5 T6 k5 r5 k6 r6 _ R7.out R8.out (by omega) (by omega)).mono ?_); rintro e a5 ⟨T7, k7, r7, U7, l7, j7, rfl, hs, ht, hb⟩; have BB5 := Lib.hid (below_up BB4.out hb); have R5 := Lib.hid (R5.out.below hb); have R6 := Lib.hid (R6.out.below hb); have R7 := Lib.hid (R7.out.below hb); have R8 := Lib.hid (R8.out.below hb); have R9 := Lib.hid hs; clear hs; have R10 := Lib.hid ht; clear ht; have f0 : a5.cell? ⟨bp0, 0, none⟩ = some (.bool (nOf (p))) := (Y1.out.below BB5.out).c 0 rfl; have f1 : a5.cell? ⟨bp0, 1, none⟩ = some (.slice T1 k1 r1) := (Y1.out.below BB5.out).c 1 rfl; have f2 : a5.cell? ⟨bp0, 2, none⟩ = some (.bool (nOf (q))) := (Y1.out.below BB5.out).c 2 rfl; have f3 : a5.cell? ⟨bp0, 3, none⟩ = some (.slice U1 l1 j1) := (Y1.out.below BB5.out).c 3 rfl; have f4 : a5.cell? ⟨bp1, 0, none⟩ = some (.bool (nOf (p'))) := (Y2.out.below BB5.out).c 0 rfl; have f5 : a5.cell? ⟨bp1, 1, none⟩ = some (.slice T2 k2 r2) := (Y2.out.below BB5.out).c 1 rfl; have f6 : a5.cell? ⟨bp1, 2, none⟩ = some (.bool (nOf (q'))) := (Y2.out.below BB5.out).c 2 rfl; have f7 : a5.cell? ⟨bp1, 3, none⟩ = some (.slice U2 l2 j2) := (Y2.out.below BB5.out).c 3 rfl; have g0 : a5.cell? ⟨w.heap.size + 1 + 1, 0, none⟩ = some (.bool false) := (X3.out.below BB5.out).c 0 rfl; have h0 := (X3.out.below BB5.out).fz 0; have g1 : a5.cell? ⟨w.heap.size + 1 + 1, 1, none⟩ = some (.slice none 0 0) := (X3.out.below BB5.out).c 1 rfl; have h1 := (X3.out.below BB5.out).fz 1; have g2 : a5.cell? ⟨w.heap.size + 1 + 1, 2, none⟩ = some (.bool false) := (X3.out.below BB5.out).c 2 rfl; have h2 := (X3.out.below BB5.out).fz 2; have g3 : a5.cell? ⟨w.heap.size + 1 + 1, 3, none⟩ = some (.slice none 0 0) := (X3.out.below BB5.out).c 3 rfl; have h3 := (X3.out.below BB5.out).fz 3; clear hb))
    clear e0 e1 e2 e3 e4 e5 e6 e7 iq1 ir1 iq2 ir2
    try clear f0 f1 f2 f3 f4 f5 f6 f7
    have BW := Lib.hid (below_on BW.out BB5.out)
    have X3 := Lib.hid (X3.out.below BB5.out)
    have Y1 := Lib.hid (Y1.out.below BB5.out)
    have Y2 := Lib.hid (Y2.out.below BB5.out)
    have R1 := Lib.hid (R1.out.below BB5.out)
    have R2 := Lib.hid (R2.out.below BB5.out)
    have R3 := Lib.hid (R3.out.below BB5.out)
    have R4 := Lib.hid (R4.out.below BB5.out)
    go_wp2_with fail
    refine bodyPost_ret (v := .tuple #[.agg #[.bool (nOf (resN (p * q' + p' * q) (q * q'))), .slice T7 k7 r7, .bool (nOf (resD (p * q' + p' * q) (q * q'))), .slice U7 l7 j7], .bool (resB (p * q' + p' * q) (q * q'))]) (by simp [results, Tryz.results8, go_sem, *]) rfl ⟨T7, k7, r7, U7, l7, j7, ?_, ?_, ?_, below_set4 BW.out (by omega) _ _ _ _⟩
    · rw [HP1.out, HQ1.out, HP2.out, HQ2.out]
    · rw [HP1.out, HQ1.out, HP2.out, HQ2.out]; exact R9.out.bk4 X3.out _ _ _ _
    · rw [HP1.out, HQ1.out, HP2.out, HQ2.out]; exact R10.out.bk4 X3.out _ _ _ _

theorem r3add_neg (s1 t1 : Bool) (A1 B1 : Option Addr) (n1 c1 m1 d1 : Nat) (x1 y1 : List Int) (p q : Int) (A2 B2 : Option Addr) (n2 c2 m2 d2 : Nat) (w : World) (ha : Sl w A1 n1 c1 x1) (hb : Sl w B1 m1 d1 y1) (hc : Sl w A2 n2 c2 (lOf (-p))) (hd : Sl w B2 m2 d2 (lOf q)) (f : Fr p q) :
    Calls Tryz.prog 8 #[.agg #[.bool s1, .slice A1 n1 c1, .bool t1, .slice B1 m1 d1], .agg #[.bool (nOf (-p)), .slice A2 n2 c2, .bool (nOf (q)), .slice B2 m2 d2]] w fun e w' => ∃ T k r U l s, e = .returned (.tuple #[.agg #[.bool (nOf (resN (frN s1 x1 t1 y1 * q - p * frD s1 x1 t1 y1) (frD s1 x1 t1 y1 * q))), .slice T k r, .bool (nOf (resD (frN s1 x1 t1 y1 * q - p * frD s1 x1 t1 y1) (frD s1 x1 t1 y1 * q))), .slice U l s], .bool (resB (frN s1 x1 t1 y1 * q - p * frD s1 x1 t1 y1) (frD s1 x1 t1 y1 * q))]) ∧ Sl w' T k r (lOf (resN (frN s1 x1 t1 y1 * q - p * frD s1 x1 t1 y1) (frD s1 x1 t1 y1 * q))) ∧ Sl w' U l s (lOf (resD (frN s1 x1 t1 y1 * q - p * frD s1 x1 t1 y1) (frD s1 x1 t1 y1 * q))) ∧ Below w.heap.size w w' := by
  have h := r3add_any s1 t1 (nOf (-p)) (nOf q) A1 B1 A2 B2 n1 c1 m1 d1 n2 c2 m2 d2 x1 y1 (lOf (-p)) (lOf q) w ha hb hc hd
  rw [(fr_of f.neg).1, (fr_of f.neg).2, Int.neg_mul, ← Int.sub_eq_add_neg] at h
  exact h

set_option maxRecDepth 100000 in
set_option maxHeartbeats 4000000 in
theorem r3sub_any (s1 t1 s2 t2 : Bool) (A1 B1 A2 B2 : Option Addr) (n1 c1 m1 d1 n2 c2 m2 d2 : Nat) (x1 y1 x2 y2 : List Int) (w : World) (ha : Sl w A1 n1 c1 x1) (hb : Sl w B1 m1 d1 y1) (hc : Sl w A2 n2 c2 x2) (hd : Sl w B2 m2 d2 y2) :
    Calls Tryz.prog 10 #[.agg #[.bool s1, .slice A1 n1 c1, .bool t1, .slice B1 m1 d1], .agg #[.bool s2, .slice A2 n2 c2, .bool t2, .slice B2 m2 d2]] w fun e w' => ∃ T k r U l s, e = .returned (.tuple #[.agg #[.bool (nOf (resN (frN s1 x1 t1 y1 * frD s2 x2 t2 y2 - frN s2 x2 t2 y2 * frD s1 x1 t1 y1) (frD s1 x1 t1 y1 * frD s2 x2 t2 y2))), .slice T k r, .bool (nOf (resD (frN s1 x1 t1 y1 * frD s2 x2 t2 y2 - frN s2 x2 t2 y2 * frD s1 x1 t1 y1) (frD s1 x1 t1 y1 * frD s2 x2 t2 y2))), .slice U l s], .bool (resB (frN s1 x1 t1 y1 * frD s2 x2 t2 y2 - frN s2 x2 t2 y2 * frD s1 x1 t1 y1) (frD s1 x1 t1 y1 * frD s2 x2 t2 y2))]) ∧ Sl w' T k r (lOf (resN (frN s1 x1 t1 y1 * frD s2 x2 t2 y2 - frN s2 x2 t2 y2 * frD s1 x1 t1 y1) (frD s1 x1 t1 y1 * frD s2 x2 t2 y2))) ∧ Sl w' U l s (lOf (resD (frN s1 x1 t1 y1 * frD s2 x2 t2 y2 - frN s2 x2 t2 y2 * frD s1 x1 t1 y1) (frD s1 x1 t1 y1 * frD s2 x2 t2 y2))) ∧ Below w.heap.size w w' := by
  have S1 := Lib.hid ha
  have S2 := Lib.hid hb
  have S3 := Lib.hid hc
  have S4 := Lib.hid hd
  clear ha hb hc hd
  have FB := Lib.hid (fr_ok s2 x2 t2 y2)
  have BW := Lib.hid (Below.refl w.heap.size w)
  go_enter Tryz.func10, Tryz.ntmps10
  go_upto_region 1 with fail
  have S1 := Lib.hid (S1.out.alloc (.cells #[.bool s1, .slice A1 n1 c1, .bool t1, .slice B1 m1 d1] 26))
  have S2 := Lib.hid (S2.out.alloc (.cells #[.bool s1, .slice A1 n1 c1, .bool t1, .slice B1 m1 d1] 26))
  have S3 := Lib.hid (S3.out.alloc (.cells #[.bool s1, .slice A1 n1 c1, .bool t1, .slice B1 m1 d1] 26))
  have S4 := Lib.hid (S4.out.alloc (.cells #[.bool s1, .slice A1 n1 c1, .bool t1, .slice B1 m1 d1] 26))
  have BW := Lib.hid (BW.out.alloc BW.out.size (.cells #[.bool s1, .slice A1 n1 c1, .bool t1, .slice B1 m1 d1] 26))
  have X1 := Lib.hid (Bk.new 26 w #[.bool s1, .slice A1 n1 c1, .bool t1, .slice B1 m1 d1])
  have S1 := Lib.hid (S1.out.alloc (.cells #[.bool s2, .slice A2 n2 c2, .bool t2, .slice B2 m2 d2] 26))
  have S2 := Lib.hid (S2.out.alloc (.cells #[.bool s2, .slice A2 n2 c2, .bool t2, .slice B2 m2 d2] 26))
  have S3 := Lib.hid (S3.out.alloc (.cells #[.bool s2, .slice A2 n2 c2, .bool t2, .slice B2 m2 d2] 26))
  have S4 := Lib.hid (S4.out.alloc (.cells #[.bool s2, .slice A2 n2 c2, .bool t2, .slice B2 m2 d2] 26))
  have BW := Lib.hid (BW.out.alloc BW.out.size (.cells #[.bool s2, .slice A2 n2 c2, .bool t2, .slice B2 m2 d2] 26))
  have X1 := Lib.hid (X1.out.alloc (.cells #[.bool s2, .slice A2 n2 c2, .bool t2, .slice B2 m2 d2] 26))
  have X2 := Lib.hid (Bk.new 26 (w.alloc (.cells #[.bool s1, .slice A1 n1 c1, .bool t1, .slice B1 m1 d1] 26)) #[.bool s2, .slice A2 n2 c2, .bool t2, .slice B2 m2 d2])
  rw [alloc_sz] at X2
  have S1 := Lib.hid (S1.out.alloc (.cells #[.bool false, .slice none 0 0, .bool false, .slice none 0 0] 26))
  have S2 := Lib.hid (S2.out.alloc (.cells #[.bool false, .slice none 0 0, .bool false, .slice none 0 0] 26))
  have S3 := Lib.hid (S3.out.alloc (.cells #[.bool false, .slice none 0 0, .bool false, .slice none 0 0] 26))
  have S4 := Lib.hid (S4.out.alloc (.cells #[.bool false, .slice none 0 0, .bool false, .slice none 0 0] 26))
  have BW := Lib.hid (BW.out.alloc BW.out.size (.cells #[.bool false, .slice none 0 0, .bool false, .slice none 0 0] 26))
  have X1 := Lib.hid (X1.out.alloc (.cells #[.bool false, .slice none 0 0, .bool false, .slice none 0 0] 26))
  have X2 := Lib.hid (X2.out.alloc (.cells #[.bool false, .slice none 0 0, .bool false, .slice none 0 0] 26))
  have X3 := Lib.hid (Bk.new 26 ((w.alloc (.cells #[.bool s1, .slice A1 n1 c1, .bool t1, .slice B1 m1 d1] 26)).alloc (.cells #[.bool s2, .slice A2 n2 c2, .bool t2, .slice B2 m2 d2] 26)) #[.bool false, .slice none 0 0, .bool false, .slice none 0 0])
  rw [alloc_sz, alloc_sz] at X3
  generalize (((w.alloc (.cells #[.bool s1, .slice A1 n1 c1, .bool t1, .slice B1 m1 d1] 26)).alloc (.cells #[.bool s2, .slice A2 n2 c2, .bool t2, .slice B2 m2 d2] 26)).alloc (.cells #[.bool false, .slice none 0 0, .bool false, .slice none 0 0] 26)) = W0 at *
  have e0 : W0.cell? ⟨w.heap.size, 0, none⟩ = some (.bool s1) := X1.out.c 0 rfl
  have e1 : W0.cell? ⟨w.heap.size, 1, none⟩ = some (.slice A1 n1 c1) := X1.out.c 1 rfl
  have e2 : W0.cell? ⟨w.heap.size, 2, none⟩ = some (.bool t1) := X1.out.c 2 rfl
  have e3 : W0.cell? ⟨w.heap.size, 3, none⟩ = some (.slice B1 m1 d1) := X1.out.c 3 rfl
  have e4 : W0.cell? ⟨w.heap.size + 1, 0, none⟩ = some (.bool s2) := X2.out.c 0 rfl
  have e5 : W0.cell? ⟨w.heap.size + 1, 1, none⟩ = some (.slice A2 n2 c2) := X2.out.c 1 rfl
  have e6 : W0.cell? ⟨w.heap.size + 1, 2, none⟩ = some (.bool t2) := X2.out.c 2 rfl
  have e7 : W0.cell? ⟨w.heap.size + 1, 3, none⟩ = some (.slice B2 m2 d2) := X2.out.c 3 rfl
  have iq1 : ¬ w.heap.size + 1 + 1 = w.heap.size := by omega
  have ir1 : ¬ w.heap.size = w.heap.size + 1 + 1 := by omega
  have iq2 : ¬ w.heap.size + 1 + 1 = w.heap.size + 1 := by omega
  have ir2 : ¬ w.heap.size + 1 = w.heap.size + 1 + 1 := by omega
  go_region_held3 (fun w' => w'.cell? ⟨w.heap.size, 0, none⟩ = some (.bool s1) ∧ w'.cell? ⟨w.heap.size, 1, none⟩ = some (.slice A1 n1 c1) ∧ w'.cell? ⟨w.heap.size, 2, none⟩ = some (.bool t1) ∧ w'.cell? ⟨w.heap.size, 3, none⟩ = some (.slice B1 m1 d1) ∧ w'.cell? ⟨w.heap.size + 1, 0, none⟩ = some (.bool s2) ∧ w'.cell? ⟨w.heap.size + 1, 1, none⟩ = some (.slice A2 n2 c2) ∧ w'.cell? ⟨w.heap.size + 1, 2, none⟩ = some (.bool t2) ∧ w'.cell? ⟨w.heap.size + 1, 3, none⟩ = some (.slice B2 m2 d2)) (go_keep)
    (first | (go_at_call 35; (with_reducible refine (r3opp_any s2 t2 A2 B2 n2 c2 m2 d2 x2 y2 _ (by first | exact S3.out | exact S3.out.drew) (by first | exact S4.out | exact S4.out.drew)).mono ?_); rintro e a1 ⟨T1, k1, r1, U1, l1, j1, rfl, hs, ht, hb⟩; have BB1 := Lib.hid (show Below W0.heap.size W0 a1 from (by first | exact hb | exact (Below.refl _ _).drew.trans (hb.mono (Nat.le_refl _)))); have R1 := Lib.hid hs; clear hs; have R2 := Lib.hid ht; clear ht; have f0 : a1.cell? ⟨w.heap.size, 0, none⟩ = some (.bool s1) := (X1.out.below BB1.out).c 0 rfl; have f1 : a1.cell? ⟨w.heap.size, 1, none⟩ = some (.slice A1 n1 c1) := (X1.out.below BB1.out).c 1 rfl; have f2 : a1.cell? ⟨w.heap.size, 2, none⟩ = some (.bool t1) := (X1.out.below BB1.out).c 2 rfl; have f3 : a1.cell? ⟨w.heap.size, 3, none⟩ = some (.slice B1 m1 d1) := (X1.out.below BB1.out).c 3 rfl; have f4 : a1.cell? ⟨w.heap.size + 1, 0, none⟩ = some (.bool s2) := (X2.out.below BB1.out).c 0 rfl; have f5 : a1.cell? ⟨w.heap.size + 1, 1, none⟩ = some (.slice A2 n2 c2) := (X2.out.below BB1.out).c 1 rfl; have f6 : a1.cell? ⟨w.heap.size + 1, 2, none⟩ = some (.bool t2) := (X2.out.below BB1.out).c 2 rfl; have f7 : a1.cell? ⟨w.heap.size + 1, 3, none⟩ = some (.slice B2 m2 d2) := (X2.out.below BB1.out).c 3 rfl; have g0 : a1.cell? ⟨w.heap.size + 1 + 1, 0, none⟩ = some (.bool false) := (X3.out.below BB1.out).c 0 rfl; have h0 := (X3.out.below BB1.out).fz 0; have g1 : a1.cell? ⟨w.heap.size + 1 + 1, 1, none⟩ = some (.slice none 0 0) := (X3.out.below BB1.out).c 1 rfl; have h1 := (X3.out.below BB1.out).fz 1; have g2 : a1.cell? ⟨w.heap.size + 1 + 1, 2, none⟩ = some (.bool false) := (X3.out.below BB1.out).c 2 rfl; have h2 := (X3.out.below BB1.out).fz 2; have g3 : a1.cell? ⟨w.heap.size + 1 + 1, 3, none⟩ = some (.slice none 0 0) := (X3.out.below BB1.out).c 3 rfl; have h3 := (X3.out.below BB1.out).fz 3; clear hb) | (go_at_call 8; (with_reducible refine (r3add_neg s1 t1 A1 B1 n1 c1 m1 d1 x1 y1 (frN s2 x2 t2 y2) (frD s2 x2 t2 y2) T1 U1 k1 r1 l1 j1 _ (S1.out.below BB1.out) (S2.out.below BB1.out) R1.out R2.out FB.out).mono ?_); rintro e a2 ⟨T7, k7, r7, U7, l7, j7, rfl, hs, ht, hb⟩; have BB2 := Lib.hid (below_up BB1.out hb); have R1 := Lib.hid (R1.out.below hb); have R2 := Lib.hid (R2.out.below hb); have R9 := Lib.hid hs; clear hs; have R10 := Lib.hid ht; clear ht; have f0 : a2.cell? ⟨w.heap.size, 0, none⟩ = some (.bool s1) := (X1.out.below BB2.out).c 0 rfl; have f1 : a2.cell? ⟨w.heap.size, 1, none⟩ = some (.slice A1 n1 c1) := (X1.out.below BB2.out).c 1 rfl; have f2 : a2.cell? ⟨w.heap.size, 2, none⟩ = some (.bool t1) := (X1.out.below BB2.out).c 2 rfl; have f3 : a2.cell? ⟨w.heap.size, 3, none⟩ = some (.slice B1 m1 d1) := (X1.out.below BB2.out).c 3 rfl; have f4 : a2.cell? ⟨w.heap.size + 1, 0, none⟩ = some (.bool s2) := (X2.out.below BB2.out).c 0 rfl; have f5 : a2.cell? ⟨w.heap.size + 1, 1, none⟩ = some (.slice A2 n2 c2) := (X2.out.below BB2.out).c 1 rfl; have f6 : a2.cell? ⟨w.heap.size + 1, 2, none⟩ = some (.bool t2) := (X2.out.below BB2.out).c 2 rfl; have f7 : a2.cell? ⟨w.heap.size + 1, 3, none⟩ = some (.slice B2 m2 d2) := (X2.out.below BB2.out).c 3 rfl; have g0 : a2.cell? ⟨w.heap.size + 1 + 1, 0, none⟩ = some (.bool false) := (X3.out.below BB2.out).c 0 rfl; have h0 := (X3.out.below BB2.out).fz 0; have g1 : a2.cell? ⟨w.heap.size + 1 + 1, 1, none⟩ = some (.slice none 0 0) := (X3.out.below BB2.out).c 1 rfl; have h1 := (X3.out.below BB2.out).fz 1; have g2 : a2.cell? ⟨w.heap.size + 1 + 1, 2, none⟩ = some (.bool false) := (X3.out.below BB2.out).c 2 rfl; have h2 := (X3.out.below BB2.out).fz 2; have g3 : a2.cell? ⟨w.heap.size + 1 + 1, 3, none⟩ = some (.slice none 0 0) := (X3.out.below BB2.out).c 3 rfl; have h3 := (X3.out.below BB2.out).fz 3; clear hb))
  clear e0 e1 e2 e3 e4 e5 e6 e7 iq1 ir1 iq2 ir2
  try clear f0 f1 f2 f3 f4 f5 f6 f7
  have S1 := Lib.hid (S1.out.below BB2.out)
  have S2 := Lib.hid (S2.out.below BB2.out)
  have S3 := Lib.hid (S3.out.below BB2.out)
  have S4 := Lib.hid (S4.out.below BB2.out)
  have BW := Lib.hid (below_on BW.out BB2.out)
  have X1 := Lib.hid (X1.out.below BB2.out)
  have X2 := Lib.hid (X2.out.below BB2.out)
  have X3 := Lib.hid (X3.out.below BB2.out)
  go_wp2_with fail
  refine bodyPost_ret (v := .tuple #[.agg #[.bool (nOf (resN (frN s1 x1 t1 y1 * frD s2 x2 t2 y2 - frN s2 x2 t2 y2 * frD s1 x1 t1 y1) (frD s1 x1 t1 y1 * frD s2 x2 t2 y2))), .slice T7 k7 r7, .bool (nOf (resD (frN s1 x1 t1 y1 * frD s2 x2 t2 y2 - frN s2 x2 t2 y2 * frD s1 x1 t1 y1) (frD s1 x1 t1 y1 * frD s2 x2 t2 y2))), .slice U7 l7 j7], .bool (resB (frN s1 x1 t1 y1 * frD s2 x2 t2 y2 - frN s2 x2 t2 y2 * frD s1 x1 t1 y1) (frD s1 x1 t1 y1 * frD s2 x2 t2 y2))]) (by simp [results, Tryz.results10, go_sem, *]) rfl ⟨T7, k7, r7, U7, l7, j7, rfl, R9.out.bk4 X3.out _ _ _ _, R10.out.bk4 X3.out _ _ _ _, below_set4 BW.out (by omega) _ _ _ _⟩
end Go.Proofs.YtfenmogbellhdaaGreatDoor

namespace Go.Proofs.YtfenmogbellhdaaGreatDoor
open Go.RowKit

theorem cmp_diff {a b : Int} : (a + b = 0 → cmpI a (-b) = 0) ∧ (a + b < 0 → cmpI a (-b) = -1) ∧ (0 < a + b → cmpI a (-b) = 1) :=
  ⟨fun h => cmpI_eq (by omega), fun h => cmpI_lt (by omega), fun h => cmpI_gt (by omega)⟩
set_option maxRecDepth 100000 in
set_option maxHeartbeats 4000000 in
theorem r3cmp_any (s1 t1 s2 t2 : Bool) (A1 B1 A2 B2 : Option Addr) (n1 c1 m1 d1 n2 c2 m2 d2 : Nat) (x1 y1 x2 y2 : List Int) (w : World) (ha : Sl w A1 n1 c1 x1) (hb : Sl w B1 m1 d1 y1) (hc : Sl w A2 n2 c2 x2) (hd : Sl w B2 m2 d2 y2) :
    Calls Tryz.prog 13 #[.agg #[.bool s1, .slice A1 n1 c1, .bool t1, .slice B1 m1 d1], .agg #[.bool s2, .slice A2 n2 c2, .bool t2, .slice B2 m2 d2]] w fun e w' => e = .returned (.int .i64 (cmpI (frN s1 x1 t1 y1 * frD s2 x2 t2 y2) (frN s2 x2 t2 y2 * frD s1 x1 t1 y1))) ∧ Below w.heap.size w w' := by
  have S1 := Lib.hid ha
  have S2 := Lib.hid hb
  have S3 := Lib.hid hc
  have S4 := Lib.hid hd
  clear ha hb hc hd
  have BW := Lib.hid (Below.refl w.heap.size w)
  go_enter Tryz.func13, Tryz.ntmps13
  go_upto_region 1 with fail
  have S1 := Lib.hid (S1.out.alloc (.cells #[.bool s1, .slice A1 n1 c1, .bool t1, .slice B1 m1 d1] 26))
  have S2 := Lib.hid (S2.out.alloc (.cells #[.bool s1, .slice A1 n1 c1, .bool t1, .slice B1 m1 d1] 26))
  have S3 := Lib.hid (S3.out.alloc (.cells #[.bool s1, .slice A1 n1 c1, .bool t1, .slice B1 m1 d1] 26))
  have S4 := Lib.hid (S4.out.alloc (.cells #[.bool s1, .slice A1 n1 c1, .bool t1, .slice B1 m1 d1] 26))
  have BW := Lib.hid (BW.out.alloc BW.out.size (.cells #[.bool s1, .slice A1 n1 c1, .bool t1, .slice B1 m1 d1] 26))
  have X1 := Lib.hid (Bk.new 26 w #[.bool s1, .slice A1 n1 c1, .bool t1, .slice B1 m1 d1])
  have S1 := Lib.hid (S1.out.alloc (.cells #[.bool s2, .slice A2 n2 c2, .bool t2, .slice B2 m2 d2] 26))
  have S2 := Lib.hid (S2.out.alloc (.cells #[.bool s2, .slice A2 n2 c2, .bool t2, .slice B2 m2 d2] 26))
  have S3 := Lib.hid (S3.out.alloc (.cells #[.bool s2, .slice A2 n2 c2, .bool t2, .slice B2 m2 d2] 26))
  have S4 := Lib.hid (S4.out.alloc (.cells #[.bool s2, .slice A2 n2 c2, .bool t2, .slice B2 m2 d2] 26))
  have BW := Lib.hid (BW.out.alloc BW.out.size (.cells #[.bool s2, .slice A2 n2 c2, .bool t2, .slice B2 m2 d2] 26))
  have X1 := Lib.hid (X1.out.alloc (.cells #[.bool s2, .slice A2 n2 c2, .bool t2, .slice B2 m2 d2] 26))
  have X2 := Lib.hid (Bk.new 26 (w.alloc (.cells #[.bool s1, .slice A1 n1 c1, .bool t1, .slice B1 m1 d1] 26)) #[.bool s2, .slice A2 n2 c2, .bool t2, .slice B2 m2 d2])
  rw [alloc_sz] at X2
  generalize ((w.alloc (.cells #[.bool s1, .slice A1 n1 c1, .bool t1, .slice B1 m1 d1] 26)).alloc (.cells #[.bool s2, .slice A2 n2 c2, .bool t2, .slice B2 m2 d2] 26)) = W0 at *
  go_cut [5, 6] (fun vp0 vp1 wx => TwoRat W0 (frN s1 x1 t1 y1) (frD s1 x1 t1 y1) (-(frN s2 x2 t2 y2)) (frD s2 x2 t2 y2) vp0 vp1 wx)
  case first =>
    have e0 : W0.cell? ⟨w.heap.size, 0, none⟩ = some (.bool s1) := X1.out.c 0 rfl
    have e1 : W0.cell? ⟨w.heap.size, 1, none⟩ = some (.slice A1 n1 c1) := X1.out.c 1 rfl
    have e2 : W0.cell? ⟨w.heap.size, 2, none⟩ = some (.bool t1) := X1.out.c 2 rfl
    have e3 : W0.cell? ⟨w.heap.size, 3, none⟩ = some (.slice B1 m1 d1) := X1.out.c 3 rfl
    have e4 : W0.cell? ⟨w.heap.size + 1, 0, none⟩ = some (.bool s2) := X2.out.c 0 rfl
    have e5 : W0.cell? ⟨w.heap.size + 1, 1, none⟩ = some (.slice A2 n2 c2) := X2.out.c 1 rfl
    have e6 : W0.cell? ⟨w.heap.size + 1, 2, none⟩ = some (.bool t2) := X2.out.c 2 rfl
    have e7 : W0.cell? ⟨w.heap.size + 1, 3, none⟩ = some (.slice B2 m2 d2) := X2.out.c 3 rfl
    have laX1 := X1.out.lt
    have xa0X1 : ¬ W0.heap.size = w.heap.size := by omega
    have ya0X1 : ¬ w.heap.size = W0.heap.size := by omega
    have xb0X1 : ¬ W0.heap.size + 1 = w.heap.size := by omega
    have yb0X1 : ¬ w.heap.size = W0.heap.size + 1 := by omega
    have laX2 := X2.out.lt
    have xa0X2 : ¬ W0.heap.size = w.heap.size + 1 := by omega
    have ya0X2 : ¬ w.heap.size + 1 = W0.heap.size := by omega
    have xb0X2 : ¬ W0.heap.size + 1 = w.heap.size + 1 := by omega
    have yb0X2 : ¬ w.heap.size + 1 = W0.heap.size + 1 := by omega
    have BB0 := Lib.hid (Below.refl W0.heap.size W0)
    go_region_held3 (fun w' => w'.cell? ⟨w.heap.size, 0, none⟩ = some (.bool s1) ∧ w'.cell? ⟨w.heap.size, 1, none⟩ = some (.slice A1 n1 c1) ∧ w'.cell? ⟨w.heap.size, 2, none⟩ = some (.bool t1) ∧ w'.cell? ⟨w.heap.size, 3, none⟩ = some (.slice B1 m1 d1) ∧ w'.cell? ⟨w.heap.size + 1, 0, none⟩ = some (.bool s2) ∧ w'.cell? ⟨w.heap.size + 1, 1, none⟩ = some (.slice A2 n2 c2) ∧ w'.cell? ⟨w.heap.size + 1, 2, none⟩ = some (.bool t2) ∧ w'.cell? ⟨w.heap.size + 1, 3, none⟩ = some (.slice B2 m2 d2)) (go_keep)
      (first | (go_at_call 31; (with_reducible refine (r3right_any s1 t1 A1 B1 n1 c1 m1 d1 x1 y1 _ (by first | exact S1.out.below BB0.out | exact (S1.out.below BB0.out).drew | exact (S1.out.below BB0.out).alloc _ | exact (S1.out.below BB0.out).drew.alloc _ | exact ((S1.out.below BB0.out).alloc _).drew | exact ((S1.out.below BB0.out).alloc _).alloc _ | exact ((S1.out.below BB0.out).drew.alloc _).alloc _ | exact (((S1.out.below BB0.out).alloc _).alloc _).drew) (by first | exact S2.out.below BB0.out | exact (S2.out.below BB0.out).drew | exact (S2.out.below BB0.out).alloc _ | exact (S2.out.below BB0.out).drew.alloc _ | exact ((S2.out.below BB0.out).alloc _).drew | exact ((S2.out.below BB0.out).alloc _).alloc _ | exact ((S2.out.below BB0.out).drew.alloc _).alloc _ | exact (((S2.out.below BB0.out).alloc _).alloc _).drew)).mono ?_); rintro e p1 ⟨T1, k1, r1, U1, l1, j1, rfl, hs, ht, hb⟩; have BB1 := Lib.hid (show Below W0.heap.size W0 p1 from (by first | exact below_up BB0.out hb | exact below_up BB0.out.drew hb | exact below_up (BB0.out.alloc BB0.out.size _) hb | exact below_up (BB0.out.drew.alloc BB0.out.drew.size _) hb | exact below_up (BB0.out.alloc BB0.out.size _).drew hb | exact below_up ((BB0.out.alloc BB0.out.size _).alloc (BB0.out.alloc BB0.out.size _).size _) hb | exact below_up ((BB0.out.drew.alloc BB0.out.drew.size _).alloc (BB0.out.drew.alloc BB0.out.drew.size _).size _) hb | exact below_up (((BB0.out.alloc BB0.out.size _).alloc (BB0.out.alloc BB0.out.size _).size _).drew) hb)); (first | (have N1a := Lib.hid (show Bk 26 p1 W0.heap.size #[.bool false, .slice none 0 0, .bool false, .slice none 0 0] from Bk.below (Bk.new 26 W0 #[.bool false, .slice none 0 0, .bool false, .slice none 0 0]) hb)) | (have N1a := Lib.hid (show Bk 26 p1 W0.heap.size #[.bool false, .slice none 0 0, .bool false, .slice none 0 0] from Bk.below (Bk.new 26 W0.drew #[.bool false, .slice none 0 0, .bool false, .slice none 0 0]) hb)) | (have N1a := Lib.hid (show Bk 26 p1 W0.heap.size #[.bool false, .slice none 0 0, .bool false, .slice none 0 0] from Bk.below (Bk.new 26 W0 #[.bool false, .slice none 0 0, .bool false, .slice none 0 0]).drew hb)) | (have N1a := Lib.hid (show Bk 26 p1 W0.heap.size #[.bool false, .slice none 0 0, .bool false, .slice none 0 0] from Bk.below ((Bk.new 26 W0 #[.bool false, .slice none 0 0, .bool false, .slice none 0 0]).alloc (.cells #[.bool false, .slice none 0 0, .bool false, .slice none 0 0] 26)) hb)) | (have N1a := Lib.hid (show Bk 26 p1 W0.heap.size #[.bool false, .slice none 0 0, .bool false, .slice none 0 0] from Bk.below ((Bk.new 26 W0.drew #[.bool false, .slice none 0 0, .bool false, .slice none 0 0]).alloc (.cells #[.bool false, .slice none 0 0, .bool false, .slice none 0 0] 26)) hb)) | skip); (first | (have N1b := Lib.hid (Bk.below (Bk.new 26 (W0.alloc (.cells #[.bool false, .slice none 0 0, .bool false, .slice none 0 0] 26)) #[.bool false, .slice none 0 0, .bool false, .slice none 0 0]) hb); rw [alloc_sz] at N1b) | (have N1b := Lib.hid (Bk.below (Bk.new 26 (W0.drew.alloc (.cells #[.bool false, .slice none 0 0, .bool false, .slice none 0 0] 26)) #[.bool false, .slice none 0 0, .bool false, .slice none 0 0]) hb); rw [alloc_sz] at N1b; have N1b := Lib.hid (show Bk 26 p1 (W0.heap.size + 1) #[.bool false, .slice none 0 0, .bool false, .slice none 0 0] from N1b.out)) | skip); (first | (have mN1a0 := N1a.out.c 0 (v := .bool false) rfl; have oN1a0 := N1a.out.fz 0; have mN1a1 := N1a.out.c 1 (v := .slice none 0 0) rfl; have oN1a1 := N1a.out.fz 1; have mN1a2 := N1a.out.c 2 (v := .bool false) rfl; have oN1a2 := N1a.out.fz 2; have mN1a3 := N1a.out.c 3 (v := .slice none 0 0) rfl; have oN1a3 := N1a.out.fz 3; have yN1a := N1a.out.lt; have yaN1a1 : ¬ W0.heap.size = p1.heap.size := (by omega); have ybN1a1 : ¬ p1.heap.size = W0.heap.size := (by omega); have ycN1a1 : ¬ W0.heap.size = p1.heap.size + 1 := (by omega); have ydN1a1 : ¬ p1.heap.size + 1 = W0.heap.size := (by omega)) | skip); (first | (have mN1b0 := N1b.out.c 0 (v := .bool false) rfl; have oN1b0 := N1b.out.fz 0; have mN1b1 := N1b.out.c 1 (v := .slice none 0 0) rfl; have oN1b1 := N1b.out.fz 1; have mN1b2 := N1b.out.c 2 (v := .bool false) rfl; have oN1b2 := N1b.out.fz 2; have mN1b3 := N1b.out.c 3 (v := .slice none 0 0) rfl; have oN1b3 := N1b.out.fz 3; have yN1b := N1b.out.lt; have yaN1b1 : ¬ W0.heap.size + 1 = p1.heap.size := (by omega); have ybN1b1 : ¬ p1.heap.size = W0.heap.size + 1 := (by omega); have ycN1b1 : ¬ W0.heap.size + 1 = p1.heap.size + 1 := (by omega); have ydN1b1 : ¬ p1.heap.size + 1 = W0.heap.size + 1 := (by omega)) | skip); have R1 := Lib.hid hs; clear hs; have R2 := Lib.hid ht; clear ht; have f0 : p1.cell? ⟨w.heap.size, 0, none⟩ = some (.bool s1) := (X1.out.below BB1.out).c 0 rfl; have f1 : p1.cell? ⟨w.heap.size, 1, none⟩ = some (.slice A1 n1 c1) := (X1.out.below BB1.out).c 1 rfl; have f2 : p1.cell? ⟨w.heap.size, 2, none⟩ = some (.bool t1) := (X1.out.below BB1.out).c 2 rfl; have f3 : p1.cell? ⟨w.heap.size, 3, none⟩ = some (.slice B1 m1 d1) := (X1.out.below BB1.out).c 3 rfl; have laX1 := (X1.out.below BB1.out).lt; have xa1X1 : ¬ p1.heap.size = w.heap.size := (by omega); have ya1X1 : ¬ w.heap.size = p1.heap.size := (by omega); have xb1X1 : ¬ p1.heap.size + 1 = w.heap.size := (by omega); have yb1X1 : ¬ w.heap.size = p1.heap.size + 1 := (by omega); have f4 : p1.cell? ⟨w.heap.size + 1, 0, none⟩ = some (.bool s2) := (X2.out.below BB1.out).c 0 rfl; have f5 : p1.cell? ⟨w.heap.size + 1, 1, none⟩ = some (.slice A2 n2 c2) := (X2.out.below BB1.out).c 1 rfl; have f6 : p1.cell? ⟨w.heap.size + 1, 2, none⟩ = some (.bool t2) := (X2.out.below BB1.out).c 2 rfl; have f7 : p1.cell? ⟨w.heap.size + 1, 3, none⟩ = some (.slice B2 m2 d2) := (X2.out.below BB1.out).c 3 rfl; have laX2 := (X2.out.below BB1.out).lt; have xa1X2 : ¬ p1.heap.size = w.heap.size + 1 := (by omega); have ya1X2 : ¬ w.heap.size + 1 = p1.heap.size := (by omega); have xb1X2 : ¬ p1.heap.size + 1 = w.heap.size + 1 := (by omega); have yb1X2 : ¬ w.heap.size + 1 = p1.heap.size + 1 := (by omega); clear hb) | (go_at_call 35; (with_reducible refine (r3opp_any s2 t2 A2 B2 n2 c2 m2 d2 x2 y2 _ (by first | exact S3.out.below BB1.out | exact (S3.out.below BB1.out).drew | exact (S3.out.below BB1.out).alloc _ | exact (S3.out.below BB1.out).drew.alloc _ | exact ((S3.out.below BB1.out).alloc _).drew | exact ((S3.out.below BB1.out).alloc _).alloc _ | exact ((S3.out.below BB1.out).drew.alloc _).alloc _ | exact (((S3.out.below BB1.out).alloc _).alloc _).drew) (by first | exact S4.out.below BB1.out | exact (S4.out.below BB1.out).drew | exact (S4.out.below BB1.out).alloc _ | exact (S4.out.below BB1.out).drew.alloc _ | exact ((S4.out.below BB1.out).alloc _).drew | exact ((S4.out.below BB1.out).alloc _).alloc _ | exact ((S4.out.below BB1.out).drew.alloc _).alloc _ | exact (((S4.out.below BB1.out).alloc _).alloc _).drew)).mono ?_); rintro e p2 ⟨T2, k2, r2, U2, l2, j2, rfl, hs, ht, hb⟩; have BB2 := Lib.hid (show Below W0.heap.size W0 p2 from (by first | exact below_up BB1.out hb | exact below_up BB1.out.drew hb | exact below_up (BB1.out.alloc BB1.out.size _) hb | exact below_up (BB1.out.drew.alloc BB1.out.drew.size _) hb | exact below_up (BB1.out.alloc BB1.out.size _).drew hb | exact below_up ((BB1.out.alloc BB1.out.size _).alloc (BB1.out.alloc BB1.out.size _).size _) hb | exact below_up ((BB1.out.drew.alloc BB1.out.drew.size _).alloc (BB1.out.drew.alloc BB1.out.drew.size _).size _) hb | exact below_up (((BB1.out.alloc BB1.out.size _).alloc (BB1.out.alloc BB1.out.size _).size _).drew) hb)); (first | (have N1a := Lib.hid (N1a.out.below hb)) | (have N1a := Lib.hid (N1a.out.drew.below hb)) | (have N1a := Lib.hid ((N1a.out.alloc _).below hb)) | (have N1a := Lib.hid (((N1a.out.alloc _).drew).below hb)) | (have N1a := Lib.hid ((N1a.out.drew.alloc _).below hb)) | (have N1a := Lib.hid (((N1a.out.alloc _).alloc _).below hb)) | (have N1a := Lib.hid (((N1a.out.drew.alloc _).alloc _).below hb)) | skip); (first | (have N1b := Lib.hid (N1b.out.below hb)) | (have N1b := Lib.hid (N1b.out.drew.below hb)) | (have N1b := Lib.hid ((N1b.out.alloc _).below hb)) | (have N1b := Lib.hid (((N1b.out.alloc _).drew).below hb)) | (have N1b := Lib.hid ((N1b.out.drew.alloc _).below hb)) | (have N1b := Lib.hid (((N1b.out.alloc _).alloc _).below hb)) | (have N1b := Lib.hid (((N1b.out.drew.alloc _).alloc _).below hb)) | skip); (first | (have N2a := Lib.hid (show Bk 26 p2 p1.heap.size #[.bool false, .slice none 0 0, .bool false, .slice none 0 0] from Bk.below (Bk.new 26 p1 #[.bool false, .slice none 0 0, .bool false, .slice none 0 0]) hb)) | (have N2a := Lib.hid (show Bk 26 p2 p1.heap.size #[.bool false, .slice none 0 0, .bool false, .slice none 0 0] from Bk.below (Bk.new 26 p1.drew #[.bool false, .slice none 0 0, .bool false, .slice none 0 0]) hb)) | (have N2a := Lib.hid (show Bk 26 p2 p1.heap.size #[.bool false, .slice none 0 0, .bool false, .slice none 0 0] from Bk.below (Bk.new 26 p1 #[.bool false, .slice none 0 0, .bool false, .slice none 0 0]).drew hb)) | (have N2a := Lib.hid (show Bk 26 p2 p1.heap.size #[.bool false, .slice none 0 0, .bool false, .slice none 0 0] from Bk.below ((Bk.new 26 p1 #[.bool false, .slice none 0 0, .bool false, .slice none 0 0]).alloc (.cells #[.bool false, .slice none 0 0, .bool false, .slice none 0 0] 26)) hb)) | (have N2a := Lib.hid (show Bk 26 p2 p1.heap.size #[.bool false, .slice none 0 0, .bool false, .slice none 0 0] from Bk.below ((Bk.new 26 p1.drew #[.bool false, .slice none 0 0, .bool false, .slice none 0 0]).alloc (.cells #[.bool false, .slice none 0 0, .bool false, .slice none 0 0] 26)) hb)) | skip); (first | (have N2b := Lib.hid (Bk.below (Bk.new 26 (p1.alloc (.cells #[.bool false, .slice none 0 0, .bool false, .slice none 0 0] 26)) #[.bool false, .slice none 0 0, .bool false, .slice none 0 0]) hb); rw [alloc_sz] at N2b) | (have N2b := Lib.hid (Bk.below (Bk.new 26 (p1.drew.alloc (.cells #[.bool false, .slice none 0 0, .bool false, .slice none 0 0] 26)) #[.bool false, .slice none 0 0, .bool false, .slice none 0 0]) hb); rw [alloc_sz] at N2b; have N2b := Lib.hid (show Bk 26 p2 (p1.heap.size + 1) #[.bool false, .slice none 0 0, .bool false, .slice none 0 0] from N2b.out)) | skip); (first | (have mN1a0 := N1a.out.c 0 (v := .bool false) rfl; have oN1a0 := N1a.out.fz 0; have mN1a1 := N1a.out.c 1 (v := .slice none 0 0) rfl; have oN1a1 := N1a.out.fz 1; have mN1a2 := N1a.out.c 2 (v := .bool false) rfl; have oN1a2 := N1a.out.fz 2; have mN1a3 := N1a.out.c 3 (v := .slice none 0 0) rfl; have oN1a3 := N1a.out.fz 3; have yN1a := N1a.out.lt; have yaN1a2 : ¬ W0.heap.size = p2.heap.size := (by omega); have ybN1a2 : ¬ p2.heap.size = W0.heap.size := (by omega); have ycN1a2 : ¬ W0.heap.size = p2.heap.size + 1 := (by omega); have ydN1a2 : ¬ p2.heap.size + 1 = W0.heap.size := (by omega)) | skip); (first | (have mN1b0 := N1b.out.c 0 (v := .bool false) rfl; have oN1b0 := N1b.out.fz 0; have mN1b1 := N1b.out.c 1 (v := .slice none 0 0) rfl; have oN1b1 := N1b.out.fz 1; have mN1b2 := N1b.out.c 2 (v := .bool false) rfl; have oN1b2 := N1b.out.fz 2; have mN1b3 := N1b.out.c 3 (v := .slice none 0 0) rfl; have oN1b3 := N1b.out.fz 3; have yN1b := N1b.out.lt; have yaN1b2 : ¬ W0.heap.size + 1 = p2.heap.size := (by omega); have ybN1b2 : ¬ p2.heap.size = W0.heap.size + 1 := (by omega); have ycN1b2 : ¬ W0.heap.size + 1 = p2.heap.size + 1 := (by omega); have ydN1b2 : ¬ p2.heap.size + 1 = W0.heap.size + 1 := (by omega)) | skip); (first | (have mN2a0 := N2a.out.c 0 (v := .bool false) rfl; have oN2a0 := N2a.out.fz 0; have mN2a1 := N2a.out.c 1 (v := .slice none 0 0) rfl; have oN2a1 := N2a.out.fz 1; have mN2a2 := N2a.out.c 2 (v := .bool false) rfl; have oN2a2 := N2a.out.fz 2; have mN2a3 := N2a.out.c 3 (v := .slice none 0 0) rfl; have oN2a3 := N2a.out.fz 3; have yN2a := N2a.out.lt; have yaN2a2 : ¬ p1.heap.size = p2.heap.size := (by omega); have ybN2a2 : ¬ p2.heap.size = p1.heap.size := (by omega); have ycN2a2 : ¬ p1.heap.size = p2.heap.size + 1 := (by omega); have ydN2a2 : ¬ p2.heap.size + 1 = p1.heap.size := (by omega)) | skip); (first | (have mN2b0 := N2b.out.c 0 (v := .bool false) rfl; have oN2b0 := N2b.out.fz 0; have mN2b1 := N2b.out.c 1 (v := .slice none 0 0) rfl; have oN2b1 := N2b.out.fz 1; have mN2b2 := N2b.out.c 2 (v := .bool false) rfl; have oN2b2 := N2b.out.fz 2; have mN2b3 := N2b.out.c 3 (v := .slice none 0 0) rfl; have oN2b3 := N2b.out.fz 3; have yN2b := N2b.out.lt; have yaN2b2 : ¬ p1.heap.size + 1 = p2.heap.size := (by omega); have ybN2b2 : ¬ p2.heap.size = p1.heap.size + 1 := (by omega); have ycN2b2 : ¬ p1.heap.size + 1 = p2.heap.size + 1 := (by omega); have ydN2b2 : ¬ p2.heap.size + 1 = p1.heap.size + 1 := (by omega)) | skip); have R1 := Lib.hid (by first | exact R1.out.below hb | exact R1.out.drew.below hb | exact (R1.out.alloc _).below hb | exact (R1.out.drew.alloc _).below hb | exact ((R1.out.alloc _).drew).below hb | exact ((R1.out.alloc _).alloc _).below hb | exact ((R1.out.drew.alloc _).alloc _).below hb); have R2 := Lib.hid (by first | exact R2.out.below hb | exact R2.out.drew.below hb | exact (R2.out.alloc _).below hb | exact (R2.out.drew.alloc _).below hb | exact ((R2.out.alloc _).drew).below hb | exact ((R2.out.alloc _).alloc _).below hb | exact ((R2.out.drew.alloc _).alloc _).below hb); have R3 := Lib.hid hs; clear hs; have R4 := Lib.hid ht; clear ht; have f0 : p2.cell? ⟨w.heap.size, 0, none⟩ = some (.bool s1) := (X1.out.below BB2.out).c 0 rfl; have f1 : p2.cell? ⟨w.heap.size, 1, none⟩ = some (.slice A1 n1 c1) := (X1.out.below BB2.out).c 1 rfl; have f2 : p2.cell? ⟨w.heap.size, 2, none⟩ = some (.bool t1) := (X1.out.below BB2.out).c 2 rfl; have f3 : p2.cell? ⟨w.heap.size, 3, none⟩ = some (.slice B1 m1 d1) := (X1.out.below BB2.out).c 3 rfl; have laX1 := (X1.out.below BB2.out).lt; have xa2X1 : ¬ p2.heap.size = w.heap.size := (by omega); have ya2X1 : ¬ w.heap.size = p2.heap.size := (by omega); have xb2X1 : ¬ p2.heap.size + 1 = w.heap.size := (by omega); have yb2X1 : ¬ w.heap.size = p2.heap.size + 1 := (by omega); have f4 : p2.cell? ⟨w.heap.size + 1, 0, none⟩ = some (.bool s2) := (X2.out.below BB2.out).c 0 rfl; have f5 : p2.cell? ⟨w.heap.size + 1, 1, none⟩ = some (.slice A2 n2 c2) := (X2.out.below BB2.out).c 1 rfl; have f6 : p2.cell? ⟨w.heap.size + 1, 2, none⟩ = some (.bool t2) := (X2.out.below BB2.out).c 2 rfl; have f7 : p2.cell? ⟨w.heap.size + 1, 3, none⟩ = some (.slice B2 m2 d2) := (X2.out.below BB2.out).c 3 rfl; have laX2 := (X2.out.below BB2.out).lt; have xa2X2 : ¬ p2.heap.size = w.heap.size + 1 := (by omega); have ya2X2 : ¬ w.heap.size + 1 = p2.heap.size := (by omega); have xb2X2 : ¬ p2.heap.size + 1 = w.heap.size + 1 := (by omega); have yb2X2 : ¬ w.heap.size + 1 = p2.heap.size + 1 := (by omega); clear hb))
    all_goals
      go_wp2_with fail
      go_meet
      have sz1 := BB1.out.size
      have sz2 := BB2.out.size
      first
        | (with_reducible exact tworat_aa BB2.out R1.out R2.out R3.out R4.out)
        | (with_reducible exact tworat_aa' BB2.out R1.out R2.out R3.out R4.out)
        | (with_reducible exact tworat_sa BB2.out R1.out R2.out R3.out R4.out N1a.out (by first | exact Nat.le_refl _ | exact BB1.out.size | exact BB2.out.size | omega))
        | (with_reducible exact tworat_sa' BB2.out R1.out R2.out R3.out R4.out N1a.out (by first | exact Nat.le_refl _ | exact BB1.out.size | exact BB2.out.size | omega))
        | (with_reducible exact tworat_sa BB2.out R1.out R2.out R3.out R4.out N1b.out (by first | exact Nat.le_refl _ | exact BB1.out.size | exact BB2.out.size | omega))
        | (with_reducible exact tworat_sa' BB2.out R1.out R2.out R3.out R4.out N1b.out (by first | exact Nat.le_refl _ | exact BB1.out.size | exact BB2.out.size | omega))
        | (with_reducible exact tworat_sa BB2.out R1.out R2.out R3.out R4.out N2a.out (by first | exact Nat.le_refl _ | exact BB1.out.size | exact BB2.out.size | omega))
        | (with_reducible exact tworat_sa' BB2.out R1.out R2.out R3.out R4.out N2a.out (by first | exact Nat.le_refl _ | exact BB1.out.size | exact BB2.out.size | omega))
        | (with_reducible exact tworat_sa BB2.out R1.out R2.out R3.out R4.out N2b.out (by first | exact Nat.le_refl _ | exact BB1.out.size | exact BB2.out.size | omega))
        | (with_reducible exact tworat_sa' BB2.out R1.out R2.out R3.out R4.out N2b.out (by first | exact Nat.le_refl _ | exact BB1.out.size | exact BB2.out.size | omega))
        | (with_reducible exact tworat_ss BB2.out R1.out R2.out R3.out R4.out N1a.out N1b.out (by first | exact Nat.le_refl _ | exact BB1.out.size | exact BB2.out.size | omega) (by first | exact Nat.le_refl _ | exact BB1.out.size | exact BB2.out.size | omega) (by omega))
        | (with_reducible exact tworat_ss BB2.out R1.out R2.out R3.out R4.out N1a.out N2a.out (by first | exact Nat.le_refl _ | exact BB1.out.size | exact BB2.out.size | omega) (by first | exact Nat.le_refl _ | exact BB1.out.size | exact BB2.out.size | omega) (by omega))
        | (with_reducible exact tworat_ss BB2.out R1.out R2.out R3.out R4.out N1a.out N2b.out (by first | exact Nat.le_refl _ | exact BB1.out.size | exact BB2.out.size | omega) (by first | exact Nat.le_refl _ | exact BB1.out.size | exact BB2.out.size | omega) (by omega))
        | (with_reducible exact tworat_ss BB2.out R1.out R2.out R3.out R4.out N1b.out N1a.out (by first | exact Nat.le_refl _ | exact BB1.out.size | exact BB2.out.size | omega) (by first | exact Nat.le_refl _ | exact BB1.out.size | exact BB2.out.size | omega) (by omega))
        | (with_reducible exact tworat_ss BB2.out R1.out R2.out R3.out R4.out N1b.out N2a.out (by first | exact Nat.le_refl _ | exact BB1.out.size | exact BB2.out.size | omega) (by first | exact Nat.le_refl _ | exact BB1.out.size | exact BB2.out.size | omega) (by omega))
        | (with_reducible exact tworat_ss BB2.out R1.out R2.out R3.out R4.out N1b.out N2b.out (by first | exact Nat.le_refl _ | exact BB1.out.size | exact BB2.out.size | omega) (by first | exact Nat.le_refl _ | exact BB1.out.size | exact BB2.out.size | omega) (by omega))
        | (with_reducible exact tworat_ss BB2.out R1.out R2.out R3.out R4.out N2a.out N1a.out (by first | exact Nat.le_refl _ | exact BB1.out.size | exact BB2.out.size | omega) (by first | exact Nat.le_refl _ | exact BB1.out.size | exact BB2.out.size | omega) (by omega))
        | (with_reducible exact tworat_ss BB2.out R1.out R2.out R3.out R4.out N2a.out N1b.out (by first | exact Nat.le_refl _ | exact BB1.out.size | exact BB2.out.size | omega) (by first | exact Nat.le_refl _ | exact BB1.out.size | exact BB2.out.size | omega) (by omega))
        | (with_reducible exact tworat_ss BB2.out R1.out R2.out R3.out R4.out N2a.out N2b.out (by first | exact Nat.le_refl _ | exact BB1.out.size | exact BB2.out.size | omega) (by first | exact Nat.le_refl _ | exact BB1.out.size | exact BB2.out.size | omega) (by omega))
        | (with_reducible exact tworat_ss BB2.out R1.out R2.out R3.out R4.out N2b.out N1a.out (by first | exact Nat.le_refl _ | exact BB1.out.size | exact BB2.out.size | omega) (by first | exact Nat.le_refl _ | exact BB1.out.size | exact BB2.out.size | omega) (by omega))
        | (with_reducible exact tworat_ss BB2.out R1.out R2.out R3.out R4.out N2b.out N1b.out (by first | exact Nat.le_refl _ | exact BB1.out.size | exact BB2.out.size | omega) (by first | exact Nat.le_refl _ | exact BB1.out.size | exact BB2.out.size | omega) (by omega))
        | (with_reducible exact tworat_ss BB2.out R1.out R2.out R3.out R4.out N2b.out N2a.out (by first | exact Nat.le_refl _ | exact BB1.out.size | exact BB2.out.size | omega) (by first | exact Nat.le_refl _ | exact BB1.out.size | exact BB2.out.size | omega) (by omega))
  case rest =>
    obtain ⟨bp0, bp1, T1, k1, r1, U1, l1, j1, T2, k2, r2, U2, l2, j2, rfl, rfl, hg1, hg2, hne, hx0, hx1, hs, ht, hu, hv, hb⟩ := hcut
    have S1 := Lib.hid (S1.out.below hb)
    have S2 := Lib.hid (S2.out.below hb)
    have S3 := Lib.hid (S3.out.below hb)
    have S4 := Lib.hid (S4.out.below hb)
    have BW := Lib.hid (below_on BW.out hb)
    have X1 := Lib.hid (X1.out.below hb)
    have X2 := Lib.hid (X2.out.below hb)
    clear hb
    have Y1 := Lib.hid hx0
    clear hx0
    have Y2 := Lib.hid hx1
    clear hx1
    have R1 := Lib.hid hs
    clear hs
    have R2 := Lib.hid ht
    clear ht
    have R3 := Lib.hid hu
    clear hu
    have R4 := Lib.hid hv
    clear hv
    have FA := Lib.hid (fr_ok s1 x1 t1 y1)
    have FB := Lib.hid (fr_ok s2 x2 t2 y2)
    clear hne
    generalize wc = W1 at *
    clear S1 S2 S3 S4 X1 X2
    generalize hP1 : frN s1 x1 t1 y1 = p at *
    generalize hQ1 : frD s1 x1 t1 y1 = q at *
    generalize hP2 : frN s2 x2 t2 y2 = p' at *
    generalize hQ2 : frD s2 x2 t2 y2 = q' at *
    have HP1 := Lib.hid hP1
    have HQ1 := Lib.hid hQ1
    have HP2 := Lib.hid hP2
    have HQ2 := Lib.hid hQ2
    clear hP1 hQ1 hP2 hQ2
    have b1 := R1.out.fit FA.out.fn
    have b2 := R2.out.fit FA.out.fd
    have b3 := R3.out.fit (by rw [fitB_neg]; exact FB.out.fn)
    have b4 := R4.out.fit FB.out.fd
    go_upto_region 2 with fail
    go_cut [7] (fun vv0 wx => ∃ (bv0 : Nat) (T5 : Option Addr) (k5 r5 : Nat), vv0 = .pointer (some ⟨bv0, 0, none⟩) ∧ W1.heap.size ≤ bv0 ∧ Bk 24 wx bv0 #[.bool (nOf (p * q' + -p' * q)), .slice T5 k5 r5] ∧ Sl wx T5 k5 r5 (lOf (p * q' + -p' * q)) ∧ Below W1.heap.size W1 wx)
    case first =>
      have e0 : W1.cell? ⟨bp0, 0, none⟩ = some (.bool (nOf (p))) := Y1.out.c 0 rfl
      have e1 : W1.cell? ⟨bp0, 1, none⟩ = some (.slice T1 k1 r1) := Y1.out.c 1 rfl
      have e2 : W1.cell? ⟨bp0, 2, none⟩ = some (.bool (nOf (q))) := Y1.out.c 2 rfl
      have e3 : W1.cell? ⟨bp0, 3, none⟩ = some (.slice U1 l1 j1) := Y1.out.c 3 rfl
      have e4 : W1.cell? ⟨bp1, 0, none⟩ = some (.bool (nOf (-p'))) := Y2.out.c 0 rfl
      have e5 : W1.cell? ⟨bp1, 1, none⟩ = some (.slice T2 k2 r2) := Y2.out.c 1 rfl
      have e6 : W1.cell? ⟨bp1, 2, none⟩ = some (.bool (nOf (q'))) := Y2.out.c 2 rfl
      have e7 : W1.cell? ⟨bp1, 3, none⟩ = some (.slice U2 l2 j2) := Y2.out.c 3 rfl
      have laY1 := Y1.out.lt
      have xa0Y1 : ¬ W1.heap.size = bp0 := by omega
      have ya0Y1 : ¬ bp0 = W1.heap.size := by omega
      have laY2 := Y2.out.lt
      have xa0Y2 : ¬ W1.heap.size = bp1 := by omega
      have ya0Y2 : ¬ bp1 = W1.heap.size := by omega
      have BB0 := Lib.hid (Below.refl W1.heap.size W1)
      go_region_held3 (fun w' => w'.cell? ⟨bp0, 0, none⟩ = some (.bool (nOf (p))) ∧ w'.cell? ⟨bp0, 1, none⟩ = some (.slice T1 k1 r1) ∧ w'.cell? ⟨bp0, 2, none⟩ = some (.bool (nOf (q))) ∧ w'.cell? ⟨bp0, 3, none⟩ = some (.slice U1 l1 j1) ∧ w'.cell? ⟨bp1, 0, none⟩ = some (.bool (nOf (-p'))) ∧ w'.cell? ⟨bp1, 1, none⟩ = some (.slice T2 k2 r2) ∧ w'.cell? ⟨bp1, 2, none⟩ = some (.bool (nOf (q'))) ∧ w'.cell? ⟨bp1, 3, none⟩ = some (.slice U2 l2 j2)) (go_keep)
        (first | (go_at_call 34; (with_reducible refine (r3prod_any p q' T1 U2 k1 r1 l2 j2 _ (by first | exact R1.out.below BB0.out | exact (R1.out.below BB0.out).drew | exact (R1.out.below BB0.out).alloc _ | exact (R1.out.below BB0.out).drew.alloc _ | exact ((R1.out.below BB0.out).alloc _).drew) (by first | exact R4.out.below BB0.out | exact (R4.out.below BB0.out).drew | exact (R4.out.below BB0.out).alloc _ | exact (R4.out.below BB0.out).drew.alloc _ | exact ((R4.out.below BB0.out).alloc _).drew) (by omega) (by omega)).mono ?_); rintro e v1 ⟨T3, k3, r3, rfl, hs, hl1, hb⟩; have BB1 := Lib.hid (show Below W1.heap.size W1 v1 from (by first | exact below_up BB0.out hb | exact below_up BB0.out.drew hb | exact below_up (BB0.out.alloc BB0.out.size _) hb | exact below_up (BB0.out.drew.alloc BB0.out.drew.size _) hb | exact below_up (BB0.out.alloc BB0.out.size _).drew hb)); (first | (have N1a := Lib.hid (show Bk 24 v1 W1.heap.size #[.bool false, .slice none 0 0] from Bk.below (Bk.new 24 W1 #[.bool false, .slice none 0 0]) hb)) | (have N1a := Lib.hid (show Bk 24 v1 W1.heap.size #[.bool false, .slice none 0 0] from Bk.below (Bk.new 24 W1.drew #[.bool false, .slice none 0 0]) hb)) | (have N1a := Lib.hid (show Bk 24 v1 W1.heap.size #[.bool false, .slice none 0 0] from Bk.below (Bk.new 24 W1 #[.bool false, .slice none 0 0]).drew hb)) | skip); (first | (have mN1a0 := N1a.out.c 0 (v := .bool false) rfl; have oN1a0 := N1a.out.fz 0; have mN1a1 := N1a.out.c 1 (v := .slice none 0 0) rfl; have oN1a1 := N1a.out.fz 1; have yN1a := N1a.out.lt; have yaN1a1 : ¬ W1.heap.size = v1.heap.size := (by omega); have ybN1a1 : ¬ v1.heap.size = W1.heap.size := (by omega); have ycN1a1 : ¬ W1.heap.size = v1.heap.size + 1 := (by omega); have ydN1a1 : ¬ v1.heap.size + 1 = W1.heap.size := (by omega)) | skip); have R5 := Lib.hid hs; clear hs; have f0 : v1.cell? ⟨bp0, 0, none⟩ = some (.bool (nOf (p))) := (Y1.out.below BB1.out).c 0 rfl; have f1 : v1.cell? ⟨bp0, 1, none⟩ = some (.slice T1 k1 r1) := (Y1.out.below BB1.out).c 1 rfl; have f2 : v1.cell? ⟨bp0, 2, none⟩ = some (.bool (nOf (q))) := (Y1.out.below BB1.out).c 2 rfl; have f3 : v1.cell? ⟨bp0, 3, none⟩ = some (.slice U1 l1 j1) := (Y1.out.below BB1.out).c 3 rfl; have laY1 := (Y1.out.below BB1.out).lt; have xa1Y1 : ¬ v1.heap.size = bp0 := (by omega); have ya1Y1 : ¬ bp0 = v1.heap.size := (by omega); have f4 : v1.cell? ⟨bp1, 0, none⟩ = some (.bool (nOf (-p'))) := (Y2.out.below BB1.out).c 0 rfl; have f5 : v1.cell? ⟨bp1, 1, none⟩ = some (.slice T2 k2 r2) := (Y2.out.below BB1.out).c 1 rfl; have f6 : v1.cell? ⟨bp1, 2, none⟩ = some (.bool (nOf (q'))) := (Y2.out.below BB1.out).c 2 rfl; have f7 : v1.cell? ⟨bp1, 3, none⟩ = some (.slice U2 l2 j2) := (Y2.out.below BB1.out).c 3 rfl; have laY2 := (Y2.out.below BB1.out).lt; have xa1Y2 : ¬ v1.heap.size = bp1 := (by omega); have ya1Y2 : ¬ bp1 = v1.heap.size := (by omega); clear hb) | (go_at_call 34; (with_reducible refine (r3prod_any (-p') q T2 U1 k2 r2 l1 j1 _ (by first | exact R3.out.below BB1.out | exact (R3.out.below BB1.out).drew | exact (R3.out.below BB1.out).alloc _ | exact (R3.out.below BB1.out).drew.alloc _ | exact ((R3.out.below BB1.out).alloc _).drew) (by first | exact R2.out.below BB1.out | exact (R2.out.below BB1.out).drew | exact (R2.out.below BB1.out).alloc _ | exact (R2.out.below BB1.out).drew.alloc _ | exact ((R2.out.below BB1.out).alloc _).drew) (by omega) (by omega)).mono ?_); rintro e v2 ⟨T4, k4, r4, rfl, hs, hl2, hb⟩; have BB2 := Lib.hid (show Below W1.heap.size W1 v2 from (by first | exact below_up BB1.out hb | exact below_up BB1.out.drew hb | exact below_up (BB1.out.alloc BB1.out.size _) hb | exact below_up (BB1.out.drew.alloc BB1.out.drew.size _) hb | exact below_up (BB1.out.alloc BB1.out.size _).drew hb)); (first | (have N1a := Lib.hid (N1a.out.below hb)) | (have N1a := Lib.hid (N1a.out.drew.below hb)) | (have N1a := Lib.hid ((N1a.out.alloc _).below hb)) | (have N1a := Lib.hid (((N1a.out.alloc _).drew).below hb)) | (have N1a := Lib.hid ((N1a.out.drew.alloc _).below hb)) | (have N1a := Lib.hid (((N1a.out.alloc _).alloc _).below hb)) | (have N1a := Lib.hid (((N1a.out.drew.alloc _).alloc _).below hb)) | skip); (first | (have N2a := Lib.hid (show Bk 24 v2 v1.heap.size #[.bool false, .slice none 0 0] from Bk.below (Bk.new 24 v1 #[.bool false, .slice none 0 0]) hb)) | (have N2a := Lib.hid (show Bk 24 v2 v1.heap.size #[.bool false, .slice none 0 0] from Bk.below (Bk.new 24 v1.drew #[.bool false, .slice none 0 0]) hb)) | (have N2a := Lib.hid (show Bk 24 v2 v1.heap.size #[.bool false, .slice none 0 0] from Bk.below (Bk.new 24 v1 #[.bool false, .slice none 0 0]).drew hb)) | skip); (first | (have mN1a0 := N1a.out.c 0 (v := .bool false) rfl; have oN1a0 := N1a.out.fz 0; have mN1a1 := N1a.out.c 1 (v := .slice none 0 0) rfl; have oN1a1 := N1a.out.fz 1; have yN1a := N1a.out.lt; have yaN1a2 : ¬ W1.heap.size = v2.heap.size := (by omega); have ybN1a2 : ¬ v2.heap.size = W1.heap.size := (by omega); have ycN1a2 : ¬ W1.heap.size = v2.heap.size + 1 := (by omega); have ydN1a2 : ¬ v2.heap.size + 1 = W1.heap.size := (by omega)) | skip); (first | (have mN2a0 := N2a.out.c 0 (v := .bool false) rfl; have oN2a0 := N2a.out.fz 0; have mN2a1 := N2a.out.c 1 (v := .slice none 0 0) rfl; have oN2a1 := N2a.out.fz 1; have yN2a := N2a.out.lt; have yaN2a2 : ¬ v1.heap.size = v2.heap.size := (by omega); have ybN2a2 : ¬ v2.heap.size = v1.heap.size := (by omega); have ycN2a2 : ¬ v1.heap.size = v2.heap.size + 1 := (by omega); have ydN2a2 : ¬ v2.heap.size + 1 = v1.heap.size := (by omega)) | skip); have R5 := Lib.hid (by first | exact R5.out.below hb | exact R5.out.drew.below hb | exact (R5.out.alloc _).below hb | exact (R5.out.drew.alloc _).below hb | exact ((R5.out.alloc _).drew).below hb | exact ((R5.out.alloc _).alloc _).below hb | exact ((R5.out.drew.alloc _).alloc _).below hb); have R6 := Lib.hid hs; clear hs; have f0 : v2.cell? ⟨bp0, 0, none⟩ = some (.bool (nOf (p))) := (Y1.out.below BB2.out).c 0 rfl; have f1 : v2.cell? ⟨bp0, 1, none⟩ = some (.slice T1 k1 r1) := (Y1.out.below BB2.out).c 1 rfl; have f2 : v2.cell? ⟨bp0, 2, none⟩ = some (.bool (nOf (q))) := (Y1.out.below BB2.out).c 2 rfl; have f3 : v2.cell? ⟨bp0, 3, none⟩ = some (.slice U1 l1 j1) := (Y1.out.below BB2.out).c 3 rfl; have laY1 := (Y1.out.below BB2.out).lt; have xa2Y1 : ¬ v2.heap.size = bp0 := (by omega); have ya2Y1 : ¬ bp0 = v2.heap.size := (by omega); have f4 : v2.cell? ⟨bp1, 0, none⟩ = some (.bool (nOf (-p'))) := (Y2.out.below BB2.out).c 0 rfl; have f5 : v2.cell? ⟨bp1, 1, none⟩ = some (.slice T2 k2 r2) := (Y2.out.below BB2.out).c 1 rfl; have f6 : v2.cell? ⟨bp1, 2, none⟩ = some (.bool (nOf (q'))) := (Y2.out.below BB2.out).c 2 rfl; have f7 : v2.cell? ⟨bp1, 3, none⟩ = some (.slice U2 l2 j2) := (Y2.out.below BB2.out).c 3 rfl; have laY2 := (Y2.out.below BB2.out).lt; have xa2Y2 : ¬ v2.heap.size = bp1 := (by omega); have ya2Y2 : ¬ bp1 = v2.heap.size := (by omega); clear hb) | (go_at_call 33; (with_reducible refine (r3whole_any (p * q') (-p' * q) T3 T4 k3 r3 k4 r4 _ (by first | exact R5.out | exact (R5.out).drew | exact (R5.out).alloc _ | exact (R5.out).drew.alloc _ | exact ((R5.out).alloc _).drew) (by first | exact R6.out | exact (R6.out).drew | exact (R6.out).alloc _ | exact (R6.out).drew.alloc _ | exact ((R6.out).alloc _).drew) (by omega) (by omega)).mono ?_); rintro e v3 ⟨T5, k5, r5, rfl, hs, hb⟩; have BB3 := Lib.hid (show Below W1.heap.size W1 v3 from (by first | exact below_up BB2.out hb | exact below_up BB2.out.drew hb | exact below_up (BB2.out.alloc BB2.out.size _) hb | exact below_up (BB2.out.drew.alloc BB2.out.drew.size _) hb | exact below_up (BB2.out.alloc BB2.out.size _).drew hb)); (first | (have N1a := Lib.hid (N1a.out.below hb)) | (have N1a := Lib.hid (N1a.out.drew.below hb)) | (have N1a := Lib.hid ((N1a.out.alloc _).below hb)) | (have N1a := Lib.hid (((N1a.out.alloc _).drew).below hb)) | (have N1a := Lib.hid ((N1a.out.drew.alloc _).below hb)) | (have N1a := Lib.hid (((N1a.out.alloc _).alloc _).below hb)) | (have N1a := Lib.hid (((N1a.out.drew.alloc _).alloc _).below hb)) | skip); (first | (have N2a := Lib.hid (N2a.out.below hb)) | (have N2a := Lib.hid (N2a.out.drew.below hb)) | (have N2a := Lib.hid ((N2a.out.alloc _).below hb)) | (have N2a := Lib.hid (((N2a.out.alloc _).drew).below hb)) | (have N2a := Lib.hid ((N2a.out.drew.alloc _).below hb)) | (have N2a := Lib.hid (((N2a.out.alloc _).alloc _).below hb)) | (have N2a := Lib.hid (((N2a.out.drew.alloc _).alloc _).below hb)) | skip); (first | (have N3a := Lib.hid (show Bk 24 v3 v2.heap.size #[.bool false, .slice none 0 0] from Bk.below (Bk.new 24 v2 #[.bool false, .slice none 0 0]) hb)) | (have N3a := Lib.hid (show Bk 24 v3 v2.heap.size #[.bool false, .slice none 0 0] from Bk.below (Bk.new 24 v2.drew #[.bool false, .slice none 0 0]) hb)) | (have N3a := Lib.hid (show Bk 24 v3 v2.heap.size #[.bool false, .slice none 0 0] from Bk.below (Bk.new 24 v2 #[.bool false, .slice none 0 0]).drew hb)) | skip); (first | (have mN1a0 := N1a.out.c 0 (v := .bool false) rfl; have oN1a0 := N1a.out.fz 0; have mN1a1 := N1a.out.c 1 (v := .slice none 0 0) rfl; have oN1a1 := N1a.out.fz 1; have yN1a := N1a.out.lt; have yaN1a3 : ¬ W1.heap.size = v3.heap.size := (by omega); have ybN1a3 : ¬ v3.heap.size = W1.heap.size := (by omega); have ycN1a3 : ¬ W1.heap.size = v3.heap.size + 1 := (by omega); have ydN1a3 : ¬ v3.heap.size + 1 = W1.heap.size := (by omega)) | skip); (first | (have mN2a0 := N2a.out.c 0 (v := .bool false) rfl; have oN2a0 := N2a.out.fz 0; have mN2a1 := N2a.out.c 1 (v := .slice none 0 0) rfl; have oN2a1 := N2a.out.fz 1; have yN2a := N2a.out.lt; have yaN2a3 : ¬ v1.heap.size = v3.heap.size := (by omega); have ybN2a3 : ¬ v3.heap.size = v1.heap.size := (by omega); have ycN2a3 : ¬ v1.heap.size = v3.heap.size + 1 := (by omega); have ydN2a3 : ¬ v3.heap.size + 1 = v1.heap.size := (by omega)) | skip); (first | (have mN3a0 := N3a.out.c 0 (v := .bool false) rfl; have oN3a0 := N3a.out.fz 0; have mN3a1 := N3a.out.c 1 (v := .slice none 0 0) rfl; have oN3a1 := N3a.out.fz 1; have yN3a := N3a.out.lt; have yaN3a3 : ¬ v2.heap.size = v3.heap.size := (by omega); have ybN3a3 : ¬ v3.heap.size = v2.heap.size := (by omega); have ycN3a3 : ¬ v2.heap.size = v3.heap.size + 1 := (by omega); have ydN3a3 : ¬ v3.heap.size + 1 = v2.heap.size := (by omega)) | skip); have R5 := Lib.hid (by first | exact R5.out.below hb | exact R5.out.drew.below hb | exact (R5.out.alloc _).below hb | exact (R5.out.drew.alloc _).below hb | exact ((R5.out.alloc _).drew).below hb | exact ((R5.out.alloc _).alloc _).below hb | exact ((R5.out.drew.alloc _).alloc _).below hb); have R6 := Lib.hid (by first | exact R6.out.below hb | exact R6.out.drew.below hb | exact (R6.out.alloc _).below hb | exact (R6.out.drew.alloc _).below hb | exact ((R6.out.alloc _).drew).below hb | exact ((R6.out.alloc _).alloc _).below hb | exact ((R6.out.drew.alloc _).alloc _).below hb); have R7 := Lib.hid hs; clear hs; have f0 : v3.cell? ⟨bp0, 0, none⟩ = some (.bool (nOf (p))) := (Y1.out.below BB3.out).c 0 rfl; have f1 : v3.cell? ⟨bp0, 1, none⟩ = some (.slice T1 k1 r1) := (Y1.out.below BB3.out).c 1 rfl; have f2 : v3.cell? ⟨bp0, 2, none⟩ = some (.bool (nOf (q))) := (Y1.out.below BB3.out).c 2 rfl; have f3 : v3.cell? ⟨bp0, 3, none⟩ = some (.slice U1 l1 j1) := (Y1.out.below BB3.out).c 3 rfl; have laY1 := (Y1.out.below BB3.out).lt; have xa3Y1 : ¬ v3.heap.size = bp0 := (by omega); have ya3Y1 : ¬ bp0 = v3.heap.size := (by omega); have f4 : v3.cell? ⟨bp1, 0, none⟩ = some (.bool (nOf (-p'))) := (Y2.out.below BB3.out).c 0 rfl; have f5 : v3.cell? ⟨bp1, 1, none⟩ = some (.slice T2 k2 r2) := (Y2.out.below BB3.out).c 1 rfl; have f6 : v3.cell? ⟨bp1, 2, none⟩ = some (.bool (nOf (q'))) := (Y2.out.below BB3.out).c 2 rfl; have f7 : v3.cell? ⟨bp1, 3, none⟩ = some (.slice U2 l2 j2) := (Y2.out.below BB3.out).c 3 rfl; have laY2 := (Y2.out.below BB3.out).lt; have xa3Y2 : ¬ v3.heap.size = bp1 := (by omega); have ya3Y2 : ¬ bp1 = v3.heap.size := (by omega); clear hb))
      all_goals (go_wp2_with fail; go_meet; (first | exact ⟨_, T5, k5, r5, rfl, (by first | exact Nat.le_refl _ | exact BB1.out.size | exact BB2.out.size | exact BB3.out.size), N1a.out.set2 _ _, R7.out.bk2 N1a.out _ _, below_set2 BB3.out (by first | exact Nat.le_refl _ | exact BB1.out.size | exact BB2.out.size | exact BB3.out.size) _ _⟩ | exact ⟨_, T5, k5, r5, rfl, (by first | exact Nat.le_refl _ | exact BB1.out.size | exact BB2.out.size | exact BB3.out.size), N2a.out.set2 _ _, R7.out.bk2 N2a.out _ _, below_set2 BB3.out (by first | exact Nat.le_refl _ | exact BB1.out.size | exact BB2.out.size | exact BB3.out.size) _ _⟩ | exact ⟨_, T5, k5, r5, rfl, (by first | exact Nat.le_refl _ | exact BB1.out.size | exact BB2.out.size | exact BB3.out.size), N3a.out.set2 _ _, R7.out.bk2 N3a.out _ _, below_set2 BB3.out (by first | exact Nat.le_refl _ | exact BB1.out.size | exact BB2.out.size | exact BB3.out.size) _ _⟩ | exact ⟨_, T5, k5, r5, rfl, (by first | exact Nat.le_refl _ | exact BB1.out.size | exact BB2.out.size | exact BB3.out.size), Bk.new _ _ _, R7.out.alloc _, BB3.out.alloc BB3.out.size _⟩))
    case rest =>
      obtain ⟨bv0, T5, k5, r5, rfl, hge, hx0, hs, hb⟩ := hcut
      have BW := Lib.hid (below_on BW.out hb)
      have Y1 := Lib.hid (Y1.out.below hb)
      have Y2 := Lib.hid (Y2.out.below hb)
      have R1 := Lib.hid (R1.out.below hb)
      have R2 := Lib.hid (R2.out.below hb)
      have R3 := Lib.hid (R3.out.below hb)
      have R4 := Lib.hid (R4.out.below hb)
      clear hb
      have Y3 := Lib.hid hx0
      clear hx0
      have R7 := Lib.hid hs
      clear hs
      generalize wc = W7 at *
      have CD := Lib.hid (cmp_diff (a := p * q') (b := -p' * q))
      rw [show -(-p' * q) = p' * q by rw [Int.neg_mul, Int.neg_neg]] at CD
      generalize hz : p * q' + -p' * q = z at *
      have HZ := Lib.hid hz
      clear hz
      rcases Int.lt_trichotomy z 0 with hz | hz | hz
      · have hk : k5 ≠ 0 := fun h => by
          have := lOf_nil.1 (List.eq_nil_of_length_eq_zero (by rw [R7.out.len]; exact h))
          omega
        have hk1 : ((k5 : Int) == 0) = false := by simp [hk]
        have HZZ := Lib.hid hz
        rw [show nOf z = true from decide_eq_true hz] at Y3
        clear hz hk
        have e0 : W7.cell? ⟨bv0, 0, none⟩ = some (.bool true) := Y3.out.c 0 rfl
        have e1 : W7.cell? ⟨bv0, 1, none⟩ = some (.slice T5 k5 r5) := Y3.out.c 1 rfl
        go_wp2_with fail
        go_ret
        exact ⟨ret_int (by rw [HP1.out, HQ1.out, HP2.out, HQ2.out]; exact (CD.out.2.1 HZZ.out).symm), BW.out⟩
      · have hk : k5 = 0 := by have := R7.out.len; rw [hz, lOf_zero] at this; simpa using this.symm
        have hk1 : ((k5 : Int) == 0) = true := by simp [hk]
        have HZZ := Lib.hid hz
        rw [show nOf z = false from decide_eq_false (by omega)] at Y3
        clear hz hk
        have e0 : W7.cell? ⟨bv0, 0, none⟩ = some (.bool false) := Y3.out.c 0 rfl
        have e1 : W7.cell? ⟨bv0, 1, none⟩ = some (.slice T5 k5 r5) := Y3.out.c 1 rfl
        go_wp2_with fail
        go_ret
        exact ⟨ret_int (by rw [HP1.out, HQ1.out, HP2.out, HQ2.out]; exact (CD.out.1 HZZ.out).symm), BW.out⟩
      · have hk : k5 ≠ 0 := fun h => by
          have := lOf_nil.1 (List.eq_nil_of_length_eq_zero (by rw [R7.out.len]; exact h))
          omega
        have hk1 : ((k5 : Int) == 0) = false := by simp [hk]
        have HZZ := Lib.hid hz
        rw [show nOf z = false from decide_eq_false (by omega)] at Y3
        clear hz hk
        have e0 : W7.cell? ⟨bv0, 0, none⟩ = some (.bool false) := Y3.out.c 0 rfl
        have e1 : W7.cell? ⟨bv0, 1, none⟩ = some (.slice T5 k5 r5) := Y3.out.c 1 rfl
        go_wp2_with fail
        go_ret
        exact ⟨ret_int (by rw [HP1.out, HQ1.out, HP2.out, HQ2.out]; exact (CD.out.2.2 HZZ.out).symm), BW.out⟩
end Go.Proofs.YtfenmogbellhdaaGreatDoor

namespace Go.Proofs.YtfenmogbellhdaaGreatDoor
open Go.RowKit
theorem cut_dig (W : World) (x : Nat) (h : x ≤ 9) : (Instr.slice 9 (.string ⟨#[48, 49, 50, 51, 52, 53, 54, 55, 56, 57]⟩) (some (.int .i64 (x : Int))) (some (.int .i64 ((x : Int) + 1))) none).run Tryz.prog W = .ok (.string ⟨#[UInt8.ofNat (48 + x)]⟩) W := by
  rcases (by omega : x = 0 ∨ x = 1 ∨ x = 2 ∨ x = 3 ∨ x = 4 ∨ x = 5 ∨ x = 6 ∨ x = 7 ∨ x = 8 ∨ x = 9) with rfl | rfl | rfl | rfl | rfl | rfl | rfl | rfl | rfl | rfl <;> kernel_rfl
set_option maxHeartbeats 2000000 in
theorem four_any (n : Nat) (w : World) (h1 : n < 10000) :
    Calls Tryz.prog 73 #[.int .i64 (n : Int)] w fun e w' => e = .returned (.string ⟨(pad4 n).toArray⟩) ∧ ∃ q, w' = w.drewN q := by
  obtain ⟨a, ha⟩ : ∃ a : Nat, a = n / 1000 := ⟨_, rfl⟩
  obtain ⟨b, hb⟩ : ∃ b : Nat, b = n / 100 % 10 := ⟨_, rfl⟩
  obtain ⟨c, hc⟩ : ∃ c : Nat, c = n / 10 % 10 := ⟨_, rfl⟩
  obtain ⟨d, hd⟩ : ∃ d : Nat, d = n % 10 := ⟨_, rfl⟩
  have HP : Hid (pad4 n = [UInt8.ofNat (48 + a), UInt8.ofNat (48 + b), UInt8.ofNat (48 + c), UInt8.ofNat (48 + d)]) := by
    show pad4 n = _
    rw [ha, hb, hc, hd]; rfl
  have q1 : ((n : Int)).tdiv 1000 = (a : Int) := by rw [ha]; rfl
  have q4 : ((n : Int)).tmod 10 = (d : Int) := by rw [hd]; rfl
  obtain ⟨m, hm⟩ : ∃ m : Nat, m = n / 100 := ⟨_, rfl⟩
  obtain ⟨k, hk⟩ : ∃ k : Nat, k = n / 10 := ⟨_, rfl⟩
  have u1 : (n : Int) / 100 = (m : Int) := by omega
  have u2 : (n : Int) / 10 = (k : Int) := by omega
  have u3 : ((n : Int)).tdiv 100 = (m : Int) := by rw [hm]; rfl
  have u4 : ((n : Int)).tdiv 10 = (k : Int) := by rw [hk]; rfl
  have vm : IntKind.i64.wrap (m : Int) = (m : Int) := IntWalk.i64_in _ (by omega)
  have vk : IntKind.i64.wrap (k : Int) = (k : Int) := IntWalk.i64_in _ (by omega)
  have q2 : ((m : Int)).tmod 10 = (b : Int) := by rw [hb, hm]; rfl
  have q3 : ((k : Int)).tmod 10 = (c : Int) := by rw [hc, hk]; rfl
  have w1 : IntKind.i64.wrap ((a : Int) + 1) = (a : Int) + 1 := IntWalk.i64_in _ (by omega)
  have w2 : IntKind.i64.wrap ((b : Int) + 1) = (b : Int) + 1 := IntWalk.i64_in _ (by omega)
  have w3 : IntKind.i64.wrap ((c : Int) + 1) = (c : Int) + 1 := IntWalk.i64_in _ (by omega)
  have w4 : IntKind.i64.wrap ((d : Int) + 1) = (d : Int) + 1 := IntWalk.i64_in _ (by omega)
  have a1 : a ≤ 9 := by omega
  have b1 : b ≤ 9 := by omega
  have c1 : c ≤ 9 := by omega
  have d1 : d ≤ 9 := by omega
  have pa1 : (0 : Int) ≤ (a : Int) := by omega
  have pa2 : (a : Int) + 1 ≤ 10 := by omega
  have pa3 : (a : Int) ≤ (a : Int) + 1 := by omega
  have pa4 : ((a : Int) + 1).toNat = a + 1 := by omega
  have pb1 : (0 : Int) ≤ (b : Int) := by omega
  have pb2 : (b : Int) + 1 ≤ 10 := by omega
  have pb3 : (b : Int) ≤ (b : Int) + 1 := by omega
  have pb4 : ((b : Int) + 1).toNat = b + 1 := by omega
  have pc1 : (0 : Int) ≤ (c : Int) := by omega
  have pc2 : (c : Int) + 1 ≤ 10 := by omega
  have pc3 : (c : Int) ≤ (c : Int) + 1 := by omega
  have pc4 : ((c : Int) + 1).toNat = c + 1 := by omega
  have pd1 : (0 : Int) ≤ (d : Int) := by omega
  have pd2 : (d : Int) + 1 ≤ 10 := by omega
  have pd3 : (d : Int) ≤ (d : Int) + 1 := by omega
  have pd4 : ((d : Int) + 1).toNat = d + 1 := by omega
  have ra := fun W => cut_dig W a a1
  have rb := fun W => cut_dig W b b1
  have rc := fun W => cut_dig W c c1
  have rd := fun W => cut_dig W d d1
  have va : IntKind.i64.wrap (a : Int) = (a : Int) := IntWalk.i64_in _ (by omega)
  have vb : IntKind.i64.wrap (b : Int) = (b : Int) := IntWalk.i64_in _ (by omega)
  have vc : IntKind.i64.wrap (c : Int) = (c : Int) := IntWalk.i64_in _ (by omega)
  have vd : IntKind.i64.wrap (d : Int) = (d : Int) := IntWalk.i64_in _ (by omega)
  clear ha hb hc hd hm hk
  go_enter Tryz.func73, Tryz.ntmps73
  go_wp2_with fail
  go_quiet (fail)
  have E : (({ data := #[48 + UInt8.ofNat a] } : ByteArray) ++ { data := #[48 + UInt8.ofNat b] } ++ { data := #[48 + UInt8.ofNat c] } ++ { data := #[48 + UInt8.ofNat d] }) = ⟨(pad4 n).toArray⟩ := by
    rw [HP.out]
    apply ByteArray.ext
    simp [ByteArray.data_append, UInt8.ofNat_add]
  have EH := Lib.hid E
  clear E
  go_wp2_with fail
  go_ret
  exact ⟨congrArg (fun s => Ending.returned (Value.string s)) (by have E := EH.out; apply ByteArray.ext; have E2 := congrArg ByteArray.data E; simpa using E2), _, rfl⟩
end Go.Proofs.YtfenmogbellhdaaGreatDoor

namespace Go.Proofs.YtfenmogbellhdaaGreatDoor
open Go.RowKit

theorem dec_top (u : Nat) (h : u ≠ 0) : ∃ c cs, Lib.decDigits u = c :: cs ∧ c ≠ 48 := by
  induction u using Nat.strongRecOn with
  | _ u ih =>
    by_cases h1 : u < 10
    · refine ⟨UInt8.ofNat (48 + u), [], dec_small h1, fun e => ?_⟩
      have := congrArg UInt8.toNat e
      rw [UInt8.toNat_ofNat'] at this
      have h48 : (48 : UInt8).toNat = 48 := rfl
      omega
    · obtain ⟨c, cs, e, hc⟩ := ih (u / 10) (by omega) (by omega)
      exact ⟨c, cs ++ [UInt8.ofNat (48 + u % 10)], by rw [dec_big (by omega), e]; rfl, hc⟩
theorem txt_step {xs : List Int} {k m : Nat} {u : Nat} (hd : dOk xs) (ht : topOk xs) (hk : k < xs.length) (hx : xs.getD k 0 = (u : Int)) (hm : m ≤ 3) (h0 : k + 1 = xs.length → m = 0) :
    ∃ m', m' ≤ 3 ∧ List.replicate m 48 ++ dig0 (val (xs.drop (k + 1))).toNat ++ pad4 u = List.replicate m' 48 ++ dig0 (val (xs.drop k)).toNat := by
  have bx := dOk_getD hd k
  rw [hx] at bx
  have hp := pad_dec (d := u) (by omega)
  have hi : Lib.itoa (u : Int) = Lib.decDigits u := by rw [itoa_form, if_neg (by omega)]; rfl
  by_cases h : k + 1 = xs.length
  · have hpos : 0 < (u : Int) := by
      have : xs.getLast? = some (u : Int) := by
        rw [List.getLast?_eq_getElem?, show xs.length - 1 = k by omega]
        have : xs[k]? = some (xs.getD k 0) := by simp [List.getD, hk]
        rw [this, hx]
      unfold topOk at ht
      rw [this] at ht
      have : (u : Int) ≠ 0 := by simpa using ht
      omega
    obtain ⟨e1, e2⟩ := acc_first h hx hpos
    rw [h0 h, e1, e2, hi]
    refine ⟨4 - (Lib.decDigits u).length, ?_, ?_⟩
    · have := List.length_pos_iff.2 (dec_ne u); omega
    · rw [hp]; rfl
  · obtain ⟨e1, e2⟩ := acc_step hd ht (k := k) (by omega) hx
    rw [hi] at e1 e2
    refine ⟨m, hm, ?_⟩
    rw [e1, ← hp, List.append_assoc]
    congr 2
    rw [show ([48, 48, 48, 48] : List UInt8) = List.replicate 4 48 from rfl, List.drop_replicate]
theorem app_list (x y : ByteArray) : (x ++ y).data.toList = x.data.toList ++ y.data.toList := by simp [ByteArray.data_append]
theorem app_list' (x y : ByteArray) : ({ data := x.data ++ y.data } : ByteArray).data.toList = x.data.toList ++ y.data.toList := by simp
theorem first_byte {x : ByteArray} {c : UInt8} {cs : List UInt8} (h : x.data.toList = c :: cs) (hl : 0 < x.size) : x[0] = c := by
  have : x.data.toList[0]? = some c := by rw [h]; rfl
  have h2 : x.data.toList[0]? = some x[0] := by
    rw [List.getElem?_eq_getElem (by rw [h]; simp)]; rfl
  rw [h2] at this; injection this
theorem rest_list (x : ByteArray) : (x.extract 1 x.size).data.toList = x.data.toList.drop 1 := by
  rw [chunk_list, List.take_of_length_le (by have : x.size = x.data.toList.length := Lib.size_eq x; omega)]
theorem itoa_pos' {z : Int} {x : ByteArray} (h : nOf z = false) (h0 : z ≠ 0) (hx : x.data.toList = dig0 z.natAbs) : x = ⟨(Lib.itoa z).toArray⟩ := by
  rw [bytes_eq, hx, dig0_pos (by omega), itoa_form, if_neg (of_decide_eq_false h)]
theorem itoa_neg' {z : Int} {x y : ByteArray} (h : nOf z = true) (hx : x.data.toList = dig0 z.natAbs) (hy : y.data.toList = 45 :: x.data.toList) : y = ⟨(Lib.itoa z).toArray⟩ := by
  have h' : z < 0 := of_decide_eq_true h
  rw [bytes_eq, hy, hx, dig0_pos (by omega), itoa_form, if_pos h']
set_option maxRecDepth 100000 in
set_option maxHeartbeats 4000000 in
theorem r2text_any (na : Bool) (A : Option Addr) (n c : Nat) (xs : List Int) (w : World) (ha : Sl w A n c xs) :
    Calls Tryz.prog 43 #[.agg #[.bool na, .slice A n c]] w fun e w' => e = .returned (.string ⟨(Lib.itoa (zOf na xs)).toArray⟩) ∧ Below w.heap.size w w' := by
  have S1 := Lib.hid ha
  have FA := Lib.hid (fit_zOf na xs)
  clear ha
  have BW := Lib.hid (Below.refl w.heap.size w)
  go_enter Tryz.func43, Tryz.ntmps43
  go_upto_region 1 with fail
  have S1 := Lib.hid (S1.out.alloc (.cells #[.bool na, .slice A n c] 24))
  have BW := Lib.hid (BW.out.alloc BW.out.size (.cells #[.bool na, .slice A n c] 24))
  have X1 := Lib.hid (Bk.new 24 w #[.bool na, .slice A n c])
  generalize (w.alloc (.cells #[.bool na, .slice A n c] 24)) = W0 at *
  have e0 : W0.cell? ⟨w.heap.size, 0, none⟩ = some (.bool na) := X1.out.c 0 rfl
  have e1 : W0.cell? ⟨w.heap.size, 1, none⟩ = some (.slice A n c) := X1.out.c 1 rfl
  go_wp2_with fail
  ((with_reducible refine (rdigits_any na A n c xs _ S1.out).mono ?_); rintro e w1 ⟨T, k, r, rfl, hs, hb⟩)
  clear e0 e1
  have S1 := Lib.hid (S1.out.below hb)
  have BW := Lib.hid (below_on BW.out hb)
  have X1 := Lib.hid (X1.out.below hb)
  clear hb
  have S2 := Lib.hid hs
  clear hs
  have SX := Lib.hid S1.out
  have kl := S2.out.fit FA.out
  have KL := Lib.hid S2.out.len
  have kt := S2.out.top
  have kc := S2.out.cap
  go_wp2_with fail
  go_loopw [4, 5] (fun sv iv wr => ∃ (j m : Nat) (x : ByteArray), j ≤ k ∧ iv = .int .i64 ((j : Int) - 1) ∧ sv = .string x ∧ Below w1.heap.size w1 wr ∧ m ≤ 3 ∧ (j = k → m = 0) ∧ x.data.toList = List.replicate m 48 ++ dig0 (val ((lOf (zOf na xs)).drop j)).toNat) (fun _ iv _ => (intOf iv + 1).toNat)
  case atStart => exact ⟨k, 0, ByteArray.empty, Nat.le_refl _, rfl, rfl, Below.refl _ _, by omega, fun _ => rfl, by rw [List.drop_of_length_le (by rw [KL.out]; exact Nat.le_refl _)]; rfl⟩
  case round =>
    obtain ⟨j, m, x, hj, rfl, rfl, hbw, hm, hm0, hx⟩ := hrel
    have BB := Lib.hid hbw
    have HX := Lib.hid hx
    have HM0 := Lib.hid hm0
    have hxs : x.size ≤ 1003 := by
      have h1 : x.size = x.data.toList.length := Lib.size_eq x
      have h2 := drop_digs (lOf_ok (zOf na xs)) (by rw [KL.out]; exact kl) j
      rw [h1, hx, List.length_append, List.length_replicate]; omega
    clear hx hm0
    have S2 := Lib.hid (S2.out.below hbw)
    have X1 := Lib.hid (X1.out.below hbw)
    have SX := Lib.hid (SX.out.below hbw)
    have BW := Lib.hid (below_on BW.out hbw)
    clear hbw
    by_cases h0 : 0 < j
    · obtain ⟨i, rfl⟩ : ∃ i, j = i + 1 := ⟨j - 1, by omega⟩
      obtain ⟨g, o, v, rfl, hg, hv, hve⟩ := S2.out.at_ (show i < k by omega)
      have dv := dOk_getD (lOf_ok (zOf na xs)) i
      rw [hve.out] at dv
      obtain ⟨u, rfl⟩ := Int.eq_ofNat_of_zero_le dv.1
      obtain ⟨v0, v1⟩ := dv
      have p1 : (i : Int) < (k : Int) := by omega
      have p3 : (0 : Int) ≤ (i : Int) := by omega
      rw [show ((i + 1 : Nat) : Int) - 1 = (i : Int) from by omega]
      have HST := Lib.hid (txt_step (lOf_ok (zOf na xs)) (lOf_top (zOf na xs)) (k := i) (by rw [KL.out]; omega) hve.out hm (by rw [KL.out]; exact HM0.out))
      go_wp2_with fail
      ((refine (four_any u _ (by omega)).mono ?_); rintro e w3 ⟨rfl, q1, rfl⟩)
      obtain ⟨fb, hfb⟩ : ∃ fb : ByteArray, (⟨(pad4 u).toArray⟩ : ByteArray) = fb := ⟨_, rfl⟩
      have HFB : Hid (fb.data.toList = pad4 u) := by show fb.data.toList = _; rw [← hfb]
      have hfs : fb.size ≤ 4 := by
        have h1 : fb.size = fb.data.toList.length := Lib.size_eq fb
        rw [h1, HFB.out]; exact Nat.le_refl 4
      rw [hfb]
      clear hfb
      go_wp2_with fail
      go_roundw
      case rel =>
        obtain ⟨m', hm', he⟩ := HST.out
        exact ⟨i, m', _, by omega, rfl, rfl, below_drewN BB.out q1, hm', fun e => by omega, by rw [← he, ← HX.out, ← HFB.out]; first | exact app_list _ _ | exact app_list' _ _⟩
      case measure => simp [intOf] <;> omega
    · obtain rfl : j = 0 := by omega
      rw [List.drop_zero, val_lOf, Int.toNat_natCast] at HX
      have HZ : Hid ((zOf na xs = 0 → m = 0)) := fun h => by
        refine HM0.out ?_
        have := KL.out
        rw [h, lOf_zero] at this
        simpa using this
      generalize hze : zOf na xs = z at *
      have HZE := Lib.hid hze
      clear hze
      clear hj
      go_wp2_with fail
      go_loop [4] (fun sv => ∃ (m : Nat) (x : ByteArray), sv = .string x ∧ m ≤ 3 ∧ (z = 0 → m = 0) ∧ x.size ≤ 1003 ∧ x.data.toList = List.replicate m 48 ++ dig0 z.natAbs) (fun sv => match sv with | .string x => x.size | _ => 0)
      case atStart => exact ⟨m, x, rfl, by assumption, HZ.out, by assumption, HX.out⟩
      case round =>
        obtain ⟨m, x, rfl, hm, hz, hs, hx⟩ := hrel
        have HX := Lib.hid hx
        have HZ := Lib.hid hz
        have hsz : x.size = m + (dig0 z.natAbs).length := by
          have h1 : x.size = x.data.toList.length := Lib.size_eq x
          rw [h1, hx, List.length_append, List.length_replicate]
        clear hx hz
        rcases Nat.eq_zero_or_pos m with h0 | h0
        · subst h0
          have HX : Hid (x.data.toList = dig0 z.natAbs) := HX.out
          by_cases hz0 : z = 0
          · subst hz0
            obtain rfl : x = ByteArray.empty := by rw [bytes_eq, HX.out]; rfl
            clear hs hsz
            go_wp2_with fail
            go_ret
            exact ⟨ret_str (by rw [HZE.out, bytes_eq, itoa_form, if_neg (by omega)]; exact (dec_small (u := 0) (by omega)).symm), BW.out⟩
          · obtain ⟨c0, cs, hc, hc48⟩ := dec_top z.natAbs (by omega)
            have HC : Hid (x.data.toList = c0 :: cs) := by show x.data.toList = _; rw [HX.out, dig0_pos (by omega), hc]
            have hp : 0 < x.size := by rw [hsz, dig0_pos (by omega), hc]; simp
            have HSZ := Lib.hid hsz
            have HZ0 := Lib.hid hz0
            have hie : x.toList.isEmpty = false := by rw [ByteArray.toList_eq, HC.out]; rfl
            clear hsz hc hz0
            by_cases h1 : 1 < x.size
            · have hx0 := first_byte HC.out hp
              have hcb : ((c0.toNat : Int) == 48) = false := by
                simp only [beq_eq_false_iff_ne]
                intro e
                exact hc48 (UInt8.toNat_inj.1 (by have h48 : (48 : UInt8).toNat = 48 := rfl; omega))
              clear hc48
              have e0 : wr.cell? ⟨w.heap.size, 0, none⟩ = some (.bool na) := X1.out.c 0 rfl
              have e1 : wr.cell? ⟨w.heap.size, 1, none⟩ = some (.slice A n c) := X1.out.c 1 rfl
              go_wp2_with fail
              ((with_reducible refine (rnegative_any na A n c xs _ SX.out).mono ?_); rintro e w4 ⟨rfl, hb⟩)
              rw [HZE.out]
              have BW := Lib.hid (below_on BW.out hb)
              clear hb e0 e1
              rcases Bool.eq_false_or_eq_true (nOf z) with hn | hn
              · have HNN := Lib.hid hn
                rw [hn]
                clear hn
                go_wp2_with fail
                go_ret
                exact ⟨ret_str (by rw [HZE.out]; exact itoa_neg' HNN.out HX.out (by first | exact app_list _ _ | exact app_list' _ _ | simp)), BW.out⟩
              · have HNN := Lib.hid hn
                rw [hn]
                clear hn
                go_wp2_with fail
                go_ret
                exact ⟨ret_str (by rw [HZE.out]; exact itoa_pos' HNN.out HZ0.out HX.out), BW.out⟩
            · clear hc48
              have e0 : wr.cell? ⟨w.heap.size, 0, none⟩ = some (.bool na) := X1.out.c 0 rfl
              have e1 : wr.cell? ⟨w.heap.size, 1, none⟩ = some (.slice A n c) := X1.out.c 1 rfl
              go_wp2_with fail
              ((with_reducible refine (rnegative_any na A n c xs _ SX.out).mono ?_); rintro e w4 ⟨rfl, hb⟩)
              rw [HZE.out]
              have BW := Lib.hid (below_on BW.out hb)
              clear hb e0 e1
              rcases Bool.eq_false_or_eq_true (nOf z) with hn | hn
              · have HNN := Lib.hid hn
                rw [hn]
                clear hn
                go_wp2_with fail
                go_ret
                exact ⟨ret_str (by rw [HZE.out]; exact itoa_neg' HNN.out HX.out (by first | exact app_list _ _ | exact app_list' _ _ | simp)), BW.out⟩
              · have HNN := Lib.hid hn
                rw [hn]
                clear hn
                go_wp2_with fail
                go_ret
                exact ⟨ret_str (by rw [HZE.out]; exact itoa_pos' HNN.out HZ0.out HX.out), BW.out⟩
        · have HC : Hid (x.data.toList = 48 :: (List.replicate (m - 1) 48 ++ dig0 z.natAbs)) := by
            show x.data.toList = _
            rw [HX.out, show m = (m - 1) + 1 by omega, List.replicate_succ]; simp
          have hp : 0 < x.size := by omega
          have h1 : 1 < x.size := by
            have : z ≠ 0 := fun e => by have := HZ.out e; omega
            have : dig0 z.natAbs ≠ [] := by rw [dig0_pos (by omega)]; exact dec_ne _
            have := List.length_pos_iff.2 this
            omega
          have hx0 := first_byte HC.out hp
          have HSZ := Lib.hid hsz
          clear hsz
          have HTL : Hid (List.take (x.size - 1) x.data.toList.tail = List.replicate (m - 1) 48 ++ dig0 z.natAbs) := by
            show _ = _
            rw [HC.out, List.tail_cons, List.take_of_length_le (by rw [List.length_append, List.length_replicate]; have := HSZ.out; omega)]
          go_wp2_with fail
          exact ⟨⟨m - 1, by omega, fun e => by have := HZ.out e; omega, by omega, HTL.out⟩, by omega⟩
  
end Go.Proofs.YtfenmogbellhdaaGreatDoor

namespace Go.Proofs.YtfenmogbellhdaaGreatDoor
open Go.RowKit

theorem r2text_z (z : Int) (l : List UInt8) (A : Option Addr) (n c : Nat) (w : World) (ha : Sl w A n c (lOf z)) (h : fitB z = true) (hl : Lib.itoa z = l) :
    Calls Tryz.prog 43 #[.agg #[.bool (nOf z), .slice A n c]] w fun e w' => e = .returned (.string ⟨l.toArray⟩) ∧ Below w.heap.size w w' := by
  have h1 := r2text_any (nOf z) A n c (lOf z) w ha
  rw [zOf_lOf h, hl] at h1
  exact h1
set_option maxHeartbeats 2000000 in
theorem r3text_any (na nb : Bool) (A B : Option Addr) (n c m d : Nat) (xs ys : List Int) (w : World) (ha : Sl w A n c xs) (hb : Sl w B m d ys) :
    Calls Tryz.prog 20 #[.agg #[.bool na, .slice A n c, .bool nb, .slice B m d]] w fun e w' => e = .returned (.string ⟨(rtext (frN na xs nb ys) (frD na xs nb ys)).toArray⟩) ∧ Below w.heap.size w w' := by
  have S1 := Lib.hid ha
  have S2 := Lib.hid hb
  clear ha hb
  have FA := Lib.hid (fr_ok na xs nb ys)
  have BW := Lib.hid (Below.refl w.heap.size w)
  go_enter Tryz.func20, Tryz.ntmps20
  go_upto_region 1 with fail
  have S1 := Lib.hid (S1.out.alloc (.cells #[.bool na, .slice A n c, .bool nb, .slice B m d] 26))
  have S2 := Lib.hid (S2.out.alloc (.cells #[.bool na, .slice A n c, .bool nb, .slice B m d] 26))
  have BW := Lib.hid (BW.out.alloc BW.out.size (.cells #[.bool na, .slice A n c, .bool nb, .slice B m d] 26))
  have X1 := Lib.hid (Bk.new 26 w #[.bool na, .slice A n c, .bool nb, .slice B m d])
  generalize (w.alloc (.cells #[.bool na, .slice A n c, .bool nb, .slice B m d] 26)) = W0 at *
  have e0 : W0.cell? ⟨w.heap.size, 0, none⟩ = some (.bool na) := X1.out.c 0 rfl
  have e1 : W0.cell? ⟨w.heap.size, 1, none⟩ = some (.slice A n c) := X1.out.c 1 rfl
  have e2 : W0.cell? ⟨w.heap.size, 2, none⟩ = some (.bool nb) := X1.out.c 2 rfl
  have e3 : W0.cell? ⟨w.heap.size, 3, none⟩ = some (.slice B m d) := X1.out.c 3 rfl
  go_wp2_with fail
  ((with_reducible refine (r3right_any na nb A B n c m d xs ys _ S1.out S2.out).mono ?_); rintro e w1 ⟨T1, k1, r1, U1, l1, j1, rfl, hs, ht, hb⟩)
  clear e0 e1 e2 e3
  have S1 := Lib.hid (S1.out.below hb)
  have S2 := Lib.hid (S2.out.below hb)
  have BW := Lib.hid (below_on BW.out hb)
  have X1 := Lib.hid (X1.out.below hb)
  clear hb
  have S3 := Lib.hid hs
  have S4 := Lib.hid ht
  clear hs ht
  have e0 : w1.cell? ⟨w.heap.size, 0, none⟩ = some (.bool na) := X1.out.c 0 rfl
  have e1 : w1.cell? ⟨w.heap.size, 1, none⟩ = some (.slice A n c) := X1.out.c 1 rfl
  have e2 : w1.cell? ⟨w.heap.size, 2, none⟩ = some (.bool nb) := X1.out.c 2 rfl
  have e3 : w1.cell? ⟨w.heap.size, 3, none⟩ = some (.slice B m d) := X1.out.c 3 rfl
  go_upto_region 2 with fail
  clear e0 e1 e2 e3
  have ln1 := X1.out.lt
  have S1 := Lib.hid (S1.out.alloc (.cells #[.bool (nOf (frN na xs nb ys)), .slice T1 k1 r1, .bool (nOf (frD na xs nb ys)), .slice U1 l1 j1] 26))
  have S2 := Lib.hid (S2.out.alloc (.cells #[.bool (nOf (frN na xs nb ys)), .slice T1 k1 r1, .bool (nOf (frD na xs nb ys)), .slice U1 l1 j1] 26))
  have BW := Lib.hid (BW.out.alloc BW.out.size (.cells #[.bool (nOf (frN na xs nb ys)), .slice T1 k1 r1, .bool (nOf (frD na xs nb ys)), .slice U1 l1 j1] 26))
  have X1 := Lib.hid (X1.out.alloc (.cells #[.bool (nOf (frN na xs nb ys)), .slice T1 k1 r1, .bool (nOf (frD na xs nb ys)), .slice U1 l1 j1] 26))
  have S3 := Lib.hid (S3.out.alloc (.cells #[.bool (nOf (frN na xs nb ys)), .slice T1 k1 r1, .bool (nOf (frD na xs nb ys)), .slice U1 l1 j1] 26))
  have S4 := Lib.hid (S4.out.alloc (.cells #[.bool (nOf (frN na xs nb ys)), .slice T1 k1 r1, .bool (nOf (frD na xs nb ys)), .slice U1 l1 j1] 26))
  have X3 := Lib.hid (Bk.new 26 w1 #[.bool (nOf (frN na xs nb ys)), .slice T1 k1 r1, .bool (nOf (frD na xs nb ys)), .slice U1 l1 j1])
  generalize (w1.alloc (.cells #[.bool (nOf (frN na xs nb ys)), .slice T1 k1 r1, .bool (nOf (frD na xs nb ys)), .slice U1 l1 j1] 26)) = W1 at *
  clear X1 S1 S2
  generalize hP1 : frN na xs nb ys = p at *
  generalize hQ1 : frD na xs nb ys = q at *
  have HP1 := Lib.hid hP1
  have HQ1 := Lib.hid hQ1
  clear hP1 hQ1
  by_cases h1 : q = 1
  · have hl : l1 = 1 := by rw [← S4.out.len, h1, lOf_one]; rfl
    have hk1 : ((l1 : Int) == 1) = true := by simp [hl]
    have hk2 : (0 : Int) < (l1 : Int) := by omega
    obtain ⟨g0, o0, v, rfl, hg0, hx, hxe⟩ := S4.out.at_ (show 0 < l1 by omega)
    have hx0 : W1.cell? ⟨g0, o0, none⟩ = some (.int .i64 v) := hx
    clear hx
    obtain rfl : v = 1 := by
      have := hxe.out
      rw [h1, lOf_one] at this
      simpa [List.getD] using this.symm
    have H1 := Lib.hid h1
    clear h1 hl
    have e0 : W1.cell? ⟨w1.heap.size, 0, none⟩ = some (.bool (nOf (p))) := X3.out.c 0 rfl
    have e1 : W1.cell? ⟨w1.heap.size, 1, none⟩ = some (.slice T1 k1 r1) := X3.out.c 1 rfl
    have e2 : W1.cell? ⟨w1.heap.size, 2, none⟩ = some (.bool (nOf (q))) := X3.out.c 2 rfl
    have e3 : W1.cell? ⟨w1.heap.size, 3, none⟩ = some (.slice (some ⟨g0, o0, none⟩) l1 j1) := X3.out.c 3 rfl
    go_upto_region 3 with fail
    clear e0 e1 e2 e3
    clear hx0 hk1 hk2
    have e0 : W1.cell? ⟨w1.heap.size, 0, none⟩ = some (.bool (nOf (p))) := X3.out.c 0 rfl
    have e1 : W1.cell? ⟨w1.heap.size, 1, none⟩ = some (.slice T1 k1 r1) := X3.out.c 1 rfl
    have e2 : W1.cell? ⟨w1.heap.size, 2, none⟩ = some (.bool (nOf (q))) := X3.out.c 2 rfl
    have e3 : W1.cell? ⟨w1.heap.size, 3, none⟩ = some (.slice (some ⟨g0, o0, none⟩) l1 j1) := X3.out.c 3 rfl
    go_wp2_with fail
    ((with_reducible refine (r2text_z p (Lib.itoa p) T1 k1 r1 _ S3.out FA.out.fn rfl).mono ?_); rintro e w3 ⟨rfl, hb⟩)
    clear e0 e1 e2 e3
    have BW := Lib.hid (below_on BW.out hb)
    have S3 := Lib.hid (S3.out.below hb)
    have S4 := Lib.hid (S4.out.below hb)
    have X3 := Lib.hid (X3.out.below hb)
    clear hb
    go_wp2_with fail
    go_ret
    exact ⟨ret_str (by rw [HP1.out, HQ1.out]; unfold rtext; rw [if_pos H1.out]), BW.out⟩
  · by_cases hl : l1 = 1
    · have hk1 : ((l1 : Int) == 1) = true := by simp [hl]
      have hk2 : (0 : Int) < (l1 : Int) := by omega
      obtain ⟨g0, o0, v, rfl, hg0, hx, hxe⟩ := S4.out.at_ (show 0 < l1 by omega)
      have hx0 : W1.cell? ⟨g0, o0, none⟩ = some (.int .i64 v) := hx
      clear hx
      have hv1 : (v == 1) = false := by
        simp only [beq_eq_false_iff_ne]
        intro e
        have hL := S4.out.len
        rw [hl] at hL
        obtain ⟨y, hy⟩ := List.length_eq_one_iff.1 hL
        have h2 := hxe.out
        rw [hy] at h2
        simp [List.getD] at h2
        have h3 := congrArg val hy
        rw [val_lOf, val_one, h2, e] at h3
        have := FA.out.pos
        omega
      have H1 := Lib.hid h1
      clear h1 hl
      have e0 : W1.cell? ⟨w1.heap.size, 0, none⟩ = some (.bool (nOf (p))) := X3.out.c 0 rfl
      have e1 : W1.cell? ⟨w1.heap.size, 1, none⟩ = some (.slice T1 k1 r1) := X3.out.c 1 rfl
      have e2 : W1.cell? ⟨w1.heap.size, 2, none⟩ = some (.bool (nOf (q))) := X3.out.c 2 rfl
      have e3 : W1.cell? ⟨w1.heap.size, 3, none⟩ = some (.slice (some ⟨g0, o0, none⟩) l1 j1) := X3.out.c 3 rfl
      go_upto_region 4 with fail
      clear e0 e1 e2 e3
      have tl1 := itoa_fit FA.out.fn
      have tl2 := itoa_fit FA.out.fd
      have HT1 : Hid (∃ l, Lib.itoa p = l) := ⟨_, rfl⟩
      have HT2 : Hid (∃ l, Lib.itoa q = l) := ⟨_, rfl⟩
      obtain ⟨lp, hlp⟩ := HT1.out
      obtain ⟨lq, hlq⟩ := HT2.out
      rw [hlp] at tl1
      rw [hlq] at tl2
      have LP := Lib.hid hlp
      have LQ := Lib.hid hlq
      clear hlp hlq HT1 HT2
      have ra1 : ∀ W : World, (Op.stringOp .add ⟨lp.toArray⟩ ⟨#[47]⟩).run Tryz.prog W = .ok (.string ⟨(lp ++ [47]).toArray⟩) W := fun W => run_string_add_lists W lp [47] (by omega) (by decide)
      have ra2 : ∀ W : World, (Op.stringOp .add ⟨(lp ++ [47]).toArray⟩ ⟨lq.toArray⟩).run Tryz.prog W = .ok (.string ⟨(lp ++ [47] ++ lq).toArray⟩) W := fun W => run_string_add_lists W (lp ++ [47]) lq (by rw [List.length_append]; simp; omega) (by omega)
      clear tl1 tl2
      have e0 : W1.cell? ⟨w1.heap.size, 0, none⟩ = some (.bool (nOf (p))) := X3.out.c 0 rfl
      have e1 : W1.cell? ⟨w1.heap.size, 1, none⟩ = some (.slice T1 k1 r1) := X3.out.c 1 rfl
      have e2 : W1.cell? ⟨w1.heap.size, 2, none⟩ = some (.bool (nOf (q))) := X3.out.c 2 rfl
      have e3 : W1.cell? ⟨w1.heap.size, 3, none⟩ = some (.slice (some ⟨g0, o0, none⟩) l1 j1) := X3.out.c 3 rfl
      go_region_held3 (fun w' => w'.cell? ⟨w1.heap.size, 0, none⟩ = some (.bool (nOf (p))) ∧ w'.cell? ⟨w1.heap.size, 1, none⟩ = some (.slice T1 k1 r1) ∧ w'.cell? ⟨w1.heap.size, 2, none⟩ = some (.bool (nOf (q))) ∧ w'.cell? ⟨w1.heap.size, 3, none⟩ = some (.slice (some ⟨g0, o0, none⟩) l1 j1)) (go_keep)
        (first | (go_at_call 43; (with_reducible refine (r2text_z p lp T1 k1 r1 _ (by first | exact S3.out | exact S3.out.drew) FA.out.fn LP.out).mono ?_); rintro e b1 ⟨rfl, hb⟩; have BB1 := Lib.hid (show Below W1.heap.size W1 b1 from (by first | exact hb | exact (Below.refl _ _).drew.trans (hb.mono (Nat.le_refl _)))); have f0 : b1.cell? ⟨w1.heap.size, 0, none⟩ = some (.bool (nOf (p))) := (X3.out.below BB1.out).c 0 rfl; have f1 : b1.cell? ⟨w1.heap.size, 1, none⟩ = some (.slice T1 k1 r1) := (X3.out.below BB1.out).c 1 rfl; have f2 : b1.cell? ⟨w1.heap.size, 2, none⟩ = some (.bool (nOf (q))) := (X3.out.below BB1.out).c 2 rfl; have f3 : b1.cell? ⟨w1.heap.size, 3, none⟩ = some (.slice (some ⟨g0, o0, none⟩) l1 j1) := (X3.out.below BB1.out).c 3 rfl; clear hb) | (go_at_call 43; (with_reducible refine (r2text_z q lq (some ⟨g0, o0, none⟩) l1 j1 _ (S4.out.below BB1.out) FA.out.fd LQ.out).mono ?_); rintro e b2 ⟨rfl, hb⟩; have BB2 := Lib.hid (below_up BB1.out hb); have f0 : b2.cell? ⟨w1.heap.size, 0, none⟩ = some (.bool (nOf (p))) := (X3.out.below BB2.out).c 0 rfl; have f1 : b2.cell? ⟨w1.heap.size, 1, none⟩ = some (.slice T1 k1 r1) := (X3.out.below BB2.out).c 1 rfl; have f2 : b2.cell? ⟨w1.heap.size, 2, none⟩ = some (.bool (nOf (q))) := (X3.out.below BB2.out).c 2 rfl; have f3 : b2.cell? ⟨w1.heap.size, 3, none⟩ = some (.slice (some ⟨g0, o0, none⟩) l1 j1) := (X3.out.below BB2.out).c 3 rfl; clear hb))
      clear e0 e1 e2 e3
      try clear f0 f1 f2 f3
      have BW := Lib.hid (below_on BW.out BB2.out)
      have S3 := Lib.hid (S3.out.below BB2.out)
      have S4 := Lib.hid (S4.out.below BB2.out)
      have X3 := Lib.hid (X3.out.below BB2.out)
      go_wp2_with fail
      go_ret
      exact ⟨ret_str (by rw [bytes_eq, HP1.out, HQ1.out]; simp [rtext, if_neg H1.out, LP.out, LQ.out]), BW.out⟩
    · have hk1 : ((l1 : Int) == 1) = false := by simp only [beq_eq_false_iff_ne]; omega
      have H1 := Lib.hid h1
      clear h1 hl
      have e0 : W1.cell? ⟨w1.heap.size, 0, none⟩ = some (.bool (nOf (p))) := X3.out.c 0 rfl
      have e1 : W1.cell? ⟨w1.heap.size, 1, none⟩ = some (.slice T1 k1 r1) := X3.out.c 1 rfl
      have e2 : W1.cell? ⟨w1.heap.size, 2, none⟩ = some (.bool (nOf (q))) := X3.out.c 2 rfl
      have e3 : W1.cell? ⟨w1.heap.size, 3, none⟩ = some (.slice U1 l1 j1) := X3.out.c 3 rfl
      go_upto_region 4 with fail
      clear e0 e1 e2 e3
      have tl1 := itoa_fit FA.out.fn
      have tl2 := itoa_fit FA.out.fd
      have HT1 : Hid (∃ l, Lib.itoa p = l) := ⟨_, rfl⟩
      have HT2 : Hid (∃ l, Lib.itoa q = l) := ⟨_, rfl⟩
      obtain ⟨lp, hlp⟩ := HT1.out
      obtain ⟨lq, hlq⟩ := HT2.out
      rw [hlp] at tl1
      rw [hlq] at tl2
      have LP := Lib.hid hlp
      have LQ := Lib.hid hlq
      clear hlp hlq HT1 HT2
      have ra1 : ∀ W : World, (Op.stringOp .add ⟨lp.toArray⟩ ⟨#[47]⟩).run Tryz.prog W = .ok (.string ⟨(lp ++ [47]).toArray⟩) W := fun W => run_string_add_lists W lp [47] (by omega) (by decide)
      have ra2 : ∀ W : World, (Op.stringOp .add ⟨(lp ++ [47]).toArray⟩ ⟨lq.toArray⟩).run Tryz.prog W = .ok (.string ⟨(lp ++ [47] ++ lq).toArray⟩) W := fun W => run_string_add_lists W (lp ++ [47]) lq (by rw [List.length_append]; simp; omega) (by omega)
      clear tl1 tl2
      have e0 : W1.cell? ⟨w1.heap.size, 0, none⟩ = some (.bool (nOf (p))) := X3.out.c 0 rfl
      have e1 : W1.cell? ⟨w1.heap.size, 1, none⟩ = some (.slice T1 k1 r1) := X3.out.c 1 rfl
      have e2 : W1.cell? ⟨w1.heap.size, 2, none⟩ = some (.bool (nOf (q))) := X3.out.c 2 rfl
      have e3 : W1.cell? ⟨w1.heap.size, 3, none⟩ = some (.slice U1 l1 j1) := X3.out.c 3 rfl
      go_region_held3 (fun w' => w'.cell? ⟨w1.heap.size, 0, none⟩ = some (.bool (nOf (p))) ∧ w'.cell? ⟨w1.heap.size, 1, none⟩ = some (.slice T1 k1 r1) ∧ w'.cell? ⟨w1.heap.size, 2, none⟩ = some (.bool (nOf (q))) ∧ w'.cell? ⟨w1.heap.size, 3, none⟩ = some (.slice U1 l1 j1)) (go_keep)
        (first | (go_at_call 43; (with_reducible refine (r2text_z p lp T1 k1 r1 _ (by first | exact S3.out | exact S3.out.drew) FA.out.fn LP.out).mono ?_); rintro e b1 ⟨rfl, hb⟩; have BB1 := Lib.hid (show Below W1.heap.size W1 b1 from (by first | exact hb | exact (Below.refl _ _).drew.trans (hb.mono (Nat.le_refl _)))); have f0 : b1.cell? ⟨w1.heap.size, 0, none⟩ = some (.bool (nOf (p))) := (X3.out.below BB1.out).c 0 rfl; have f1 : b1.cell? ⟨w1.heap.size, 1, none⟩ = some (.slice T1 k1 r1) := (X3.out.below BB1.out).c 1 rfl; have f2 : b1.cell? ⟨w1.heap.size, 2, none⟩ = some (.bool (nOf (q))) := (X3.out.below BB1.out).c 2 rfl; have f3 : b1.cell? ⟨w1.heap.size, 3, none⟩ = some (.slice U1 l1 j1) := (X3.out.below BB1.out).c 3 rfl; clear hb) | (go_at_call 43; (with_reducible refine (r2text_z q lq U1 l1 j1 _ (S4.out.below BB1.out) FA.out.fd LQ.out).mono ?_); rintro e b2 ⟨rfl, hb⟩; have BB2 := Lib.hid (below_up BB1.out hb); have f0 : b2.cell? ⟨w1.heap.size, 0, none⟩ = some (.bool (nOf (p))) := (X3.out.below BB2.out).c 0 rfl; have f1 : b2.cell? ⟨w1.heap.size, 1, none⟩ = some (.slice T1 k1 r1) := (X3.out.below BB2.out).c 1 rfl; have f2 : b2.cell? ⟨w1.heap.size, 2, none⟩ = some (.bool (nOf (q))) := (X3.out.below BB2.out).c 2 rfl; have f3 : b2.cell? ⟨w1.heap.size, 3, none⟩ = some (.slice U1 l1 j1) := (X3.out.below BB2.out).c 3 rfl; clear hb))
      clear e0 e1 e2 e3
      try clear f0 f1 f2 f3
      have BW := Lib.hid (below_on BW.out BB2.out)
      have S3 := Lib.hid (S3.out.below BB2.out)
      have S4 := Lib.hid (S4.out.below BB2.out)
      have X3 := Lib.hid (X3.out.below BB2.out)
      go_wp2_with fail
      go_ret
      exact ⟨ret_str (by rw [bytes_eq, HP1.out, HQ1.out]; simp [rtext, if_neg H1.out, LP.out, LQ.out]), BW.out⟩
end Go.Proofs.YtfenmogbellhdaaGreatDoor
