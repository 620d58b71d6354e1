/-
  Contracts of the reference's plus and minus.
-/
import Derived.Test.YtfkfbomllkpjjaaDoorBigR2
import Derived.BigQuiet
import Derived.Deep.QuietTactic
namespace Go.Proofs.YtfkfbomllkpjjaaDoor
open Go.RowKit

def plusP (a b : List Int) (k : Nat) (c : Int) : Int := a.getD k 0 + b.getD k 0 + c
/-- After k digits of a sum. -/
structure PlusAt (a b : List Int) (k : Nat) (l : List Int) (c : Int) : Prop where
  len : l.length = k
  ok : dOk l
  lo : 0 ≤ c
  hi : c ≤ 1
  eq : val l + pw k * c = val (a.take k) + val (b.take k)
theorem PlusAt.start (a b : List Int) : PlusAt a b 0 [] 0 := ⟨rfl, dOk_nil, by omega, by omega, by simp [val]⟩
theorem PlusAt.bd {a b l : List Int} {k : Nat} {c : Int} (h : PlusAt a b k l c) (da : dOk a) (db : dOk b) : 0 ≤ plusP a b k c ∧ plusP a b k c ≤ 19999 := by
  have := dOk_getD da k
  have := dOk_getD db k
  have := h.lo
  have := h.hi
  unfold plusP
  omega
theorem PlusAt.step {a b l : List Int} {k : Nat} {c : Int} (h : PlusAt a b k l c) (da : dOk a) (db : dOk b) : PlusAt a b (k + 1) (l ++ [plusP a b k c % 10000]) (plusP a b k c / 10000) := by
  have hp := h.bd da db
  refine ⟨by rw [List.length_append, h.len]; rfl, dOk_snoc h.ok (by omega) (by omega), by omega, by omega, ?_⟩
  rw [val_snoc, h.len, val_take_succ, val_take_succ, pw_succ]
  have e := h.eq
  have e2 : pw k * (plusP a b k c % 10000) + 10000 * pw k * (plusP a b k c / 10000) = pw k * plusP a b k c := by
    have : plusP a b k c = plusP a b k c % 10000 + 10000 * (plusP a b k c / 10000) := by omega
    conv => rhs; rw [this, Int.mul_add]
    rw [← Int.mul_assoc, Int.mul_comm (pw k) 10000]
  have e3 : pw k * plusP a b k c = pw k * a.getD k 0 + pw k * b.getD k 0 + pw k * c := by unfold plusP; rw [Int.mul_add, Int.mul_add]
  omega
theorem PlusAt.done {a b l : List Int} {k : Nat} (h : PlusAt a b k l 0) (ha : a.length ≤ k) (hb : b.length ≤ k) : val l = val a + val b := by
  have := h.eq
  rw [List.take_of_length_le ha, List.take_of_length_le hb] at this
  omega

set_option maxHeartbeats 2000000 in
theorem plus_any (A B : Option Addr) (n cn m cm : Nat) (a b : List Int) (w : World) (ha : Sl w A n cn a) (hb : Sl w B m cm b) (da : dOk a) (db : dOk b) (n1 : n ≤ 1000) (m1 : m ≤ 1000) :
    Calls Tryd.prog 52 #[.slice A n cn, .slice B m cm] w fun e w' => ∃ R k r, e = .returned (.slice R k r) ∧ Sl w' R k r (digs (val a + val b).toNat) ∧ Below w.heap.size w w' := by
  obtain ⟨i0, hi, hz0, hz1, hz2⟩ := info_parts int_info
  have la := Lib.hid ha.len
  have lb := Lib.hid hb.len
  have ht := ha.top
  have ht2 := hb.top
  have hq := ha.cap
  have hq2 := hb.cap
  go_enter Tryd.func52, Tryd.ntmps52
  go_wp2_with fail
  go_loopw [5, 6, 7] (fun ov cv iv wr => ∃ (k : Nat) (c : Int) (l : List Int), k ≤ max n m + 1 ∧ iv = .int .i64 (k : Int) ∧ cv = .int .i64 c ∧ PlusAt a b k l c ∧ wr.ownsRow w.heap.size 3 1 ov l.length (ints l) ∧ Below w.heap.size w wr ∧ (max n m < k → c = 0)) (fun _ _ iv _ => max n m + 2 - (intOf iv).toNat)
  case atStart => exact ⟨0, 0, [], by omega, rfl, rfl, PlusAt.start a b, own_nil _ _, Below.refl _ _, fun h => rfl⟩
  case round =>
    obtain ⟨k, c, l, hk, rfl, rfl, hp, hown, hbw, hcz⟩ := hrel
    have HP := Lib.hid hp
    have HO := Lib.hid hown
    have HB := Lib.hid hbw
    have HCZ := Lib.hid hcz
    clear hp hbw hcz
    have hl0 := HP.out.lo
    have hl1 := HP.out.hi
    by_cases h1 : k < n
    · have g1 : (k : Int) < (n : Int) := by omega
      have hkm : k ≤ max n m := by omega
      clear hown
      have HST := Lib.hid (HP.out.step da db)
      have pb := HP.out.bd da db
      obtain ⟨pb0, pb1⟩ := pb
      have HPL : Hid (a.getD k 0 + b.getD k 0 + c = plusP a b k c) := rfl
      have da1 := dOk_getD da k
      have db1 := dOk_getD db k
      obtain ⟨x0, x1⟩ := da1
      obtain ⟨y0, y1⟩ := db1
      have hc0 := HP.out.lo
      have hc1 := HP.out.hi
      have hll := HP.out.len
      have HLL := Lib.hid hll
      have hlk : l.length ≤ 2000 := by omega
      clear hll
      generalize hx : a.getD k 0 = x at *
      generalize hy : b.getD k 0 = y at *
      have HX := Lib.hid hx
      have HY := Lib.hid hy
      clear hx hy
      generalize plusP a b k c = p at *
      have pe0 : 0 ≤ x + y + c := by omega
      have pe1 : x + y + c ≤ 19999 := by omega
      go_wp2_with fail
      (refine (digit_any _ _ _ a k _ _ (ha.below HB.out) rfl).mono ?_; rintro e w3 ⟨rfl, rfl⟩)
      rw [HX.out]
      go_wp2_with fail
      (refine (digit_any _ _ _ b k _ _ (hb.below HB.out) rfl).mono ?_; rintro e w3 ⟨rfl, rfl⟩)
      rw [HY.out]
      go_wp2_with (at_builtin; refine wpList_append_own_at _ rfl _ _ 22 rfl w.heap.size 3 i0 (.int .i64 0) 1 8 Tryd.underlying22 hi hz0 hz1 hz2 rfl (by decide) _ _ _ rfl (HO.out.alloc _) ⟨wr.heap.size, 0, none⟩ 1 1 [.int .i64 ((x + y + c) % 10000)] rfl rfl ?c1 ?c2 ?c3 ?c4 ?c5 ?_)
      try (case c1 => exact one_cell wr _)
      case c2 => first | exact ints_one [_] | rfl
      case c3 => unfold maxLen; omega
      case c4 => omega
      case c5 => first | (rw [alloc_sz]; have := HB.out.size; omega) | (have := HB.out.size; omega)
      intro v' w' hown' hg hnn hat
      have HO' : Hid (w'.ownsRow w.heap.size 3 1 v' (l ++ [(x + y + c) % 10000]).length (ints (l ++ [(x + y + c) % 10000]))) := by
        rw [List.length_append, ints_app]
        exact hown'
      have HB' : Hid (Below w.heap.size w w') := (HB.out.alloc HB.out.size _).grown hg (by rw [alloc_sz]; have := HB.out.size; omega) (fun k hk => own_row_ge HO.out (k := k) hk)
      clear hown' hg hnn hat
      go_wp2_with fail
      go_roundw
      case rel => exact ⟨k + 1, _, _, by omega, by go_num, rfl, by have := HST.out; rw [← HPL.out] at this; exact this, HO'.out, HB'.out, by
        intro hk
        have : k = max n m := by omega
        have e1 : x = 0 := by rw [← HX.out]; simp [List.getD, show a.length ≤ k by rw [la.out]; omega]
        have e2 : y = 0 := by rw [← HY.out]; simp [List.getD, show b.length ≤ k by rw [lb.out]; omega]
        omega⟩
      case measure => simp [intOf] <;> omega
    · by_cases h2 : k < m
      · have g1 : decide ((k : Int) < (n : Int)) = false := decide_eq_false (by omega)
        have g2 : (k : Int) < (m : Int) := by omega
        have hkm : k ≤ max n m := by omega
        clear hown
        have HST := Lib.hid (HP.out.step da db)
        have pb := HP.out.bd da db
        obtain ⟨pb0, pb1⟩ := pb
        have HPL : Hid (a.getD k 0 + b.getD k 0 + c = plusP a b k c) := rfl
        have da1 := dOk_getD da k
        have db1 := dOk_getD db k
        obtain ⟨x0, x1⟩ := da1
        obtain ⟨y0, y1⟩ := db1
        have hc0 := HP.out.lo
        have hc1 := HP.out.hi
        have hll := HP.out.len
        have HLL := Lib.hid hll
        have hlk : l.length ≤ 2000 := by omega
        clear hll
        generalize hx : a.getD k 0 = x at *
        generalize hy : b.getD k 0 = y at *
        have HX := Lib.hid hx
        have HY := Lib.hid hy
        clear hx hy
        generalize plusP a b k c = p at *
        have pe0 : 0 ≤ x + y + c := by omega
        have pe1 : x + y + c ≤ 19999 := by omega
        go_wp2_with fail
        (refine (digit_any _ _ _ a k _ _ (ha.below HB.out) rfl).mono ?_; rintro e w3 ⟨rfl, rfl⟩)
        rw [HX.out]
        go_wp2_with fail
        (refine (digit_any _ _ _ b k _ _ (hb.below HB.out) rfl).mono ?_; rintro e w3 ⟨rfl, rfl⟩)
        rw [HY.out]
        go_wp2_with (at_builtin; refine wpList_append_own_at _ rfl _ _ 22 rfl w.heap.size 3 i0 (.int .i64 0) 1 8 Tryd.underlying22 hi hz0 hz1 hz2 rfl (by decide) _ _ _ rfl (HO.out.alloc _) ⟨wr.heap.size, 0, none⟩ 1 1 [.int .i64 ((x + y + c) % 10000)] rfl rfl ?c1 ?c2 ?c3 ?c4 ?c5 ?_)
        try (case c1 => exact one_cell wr _)
        case c2 => first | exact ints_one [_] | rfl
        case c3 => unfold maxLen; omega
        case c4 => omega
        case c5 => first | (rw [alloc_sz]; have := HB.out.size; omega) | (have := HB.out.size; omega)
        intro v' w' hown' hg hnn hat
        have HO' : Hid (w'.ownsRow w.heap.size 3 1 v' (l ++ [(x + y + c) % 10000]).length (ints (l ++ [(x + y + c) % 10000]))) := by
          rw [List.length_append, ints_app]
          exact hown'
        have HB' : Hid (Below w.heap.size w w') := (HB.out.alloc HB.out.size _).grown hg (by rw [alloc_sz]; have := HB.out.size; omega) (fun k hk => own_row_ge HO.out (k := k) hk)
        clear hown' hg hnn hat
        go_wp2_with fail
        go_roundw
        case rel => exact ⟨k + 1, _, _, by omega, by go_num, rfl, by have := HST.out; rw [← HPL.out] at this; exact this, HO'.out, HB'.out, by
          intro hk
          have : k = max n m := by omega
          have e1 : x = 0 := by rw [← HX.out]; simp [List.getD, show a.length ≤ k by rw [la.out]; omega]
          have e2 : y = 0 := by rw [← HY.out]; simp [List.getD, show b.length ≤ k by rw [lb.out]; omega]
          omega⟩
        case measure => simp [intOf] <;> omega
      · by_cases h3 : 0 < c
        · have g1 : decide ((k : Int) < (n : Int)) = false := decide_eq_false (by omega)
          have g2 : decide ((k : Int) < (m : Int)) = false := decide_eq_false (by omega)
          have hkm : k ≤ max n m := by
            refine Nat.not_lt.1 fun h => ?_
            have := HCZ.out h
            omega
          clear hown
          have HST := Lib.hid (HP.out.step da db)
          have pb := HP.out.bd da db
          obtain ⟨pb0, pb1⟩ := pb
          have HPL : Hid (a.getD k 0 + b.getD k 0 + c = plusP a b k c) := rfl
          have da1 := dOk_getD da k
          have db1 := dOk_getD db k
          obtain ⟨x0, x1⟩ := da1
          obtain ⟨y0, y1⟩ := db1
          have hc0 := HP.out.lo
          have hc1 := HP.out.hi
          have hll := HP.out.len
          have HLL := Lib.hid hll
          have hlk : l.length ≤ 2000 := by omega
          clear hll
          generalize hx : a.getD k 0 = x at *
          generalize hy : b.getD k 0 = y at *
          have HX := Lib.hid hx
          have HY := Lib.hid hy
          clear hx hy
          generalize plusP a b k c = p at *
          have pe0 : 0 ≤ x + y + c := by omega
          have pe1 : x + y + c ≤ 19999 := by omega
          go_wp2_with fail
          (refine (digit_any _ _ _ a k _ _ (ha.below HB.out) rfl).mono ?_; rintro e w3 ⟨rfl, rfl⟩)
          rw [HX.out]
          go_wp2_with fail
          (refine (digit_any _ _ _ b k _ _ (hb.below HB.out) rfl).mono ?_; rintro e w3 ⟨rfl, rfl⟩)
          rw [HY.out]
          go_wp2_with (at_builtin; refine wpList_append_own_at _ rfl _ _ 22 rfl w.heap.size 3 i0 (.int .i64 0) 1 8 Tryd.underlying22 hi hz0 hz1 hz2 rfl (by decide) _ _ _ rfl (HO.out.alloc _) ⟨wr.heap.size, 0, none⟩ 1 1 [.int .i64 ((x + y + c) % 10000)] rfl rfl ?c1 ?c2 ?c3 ?c4 ?c5 ?_)
          try (case c1 => exact one_cell wr _)
          case c2 => first | exact ints_one [_] | rfl
          case c3 => unfold maxLen; omega
          case c4 => omega
          case c5 => first | (rw [alloc_sz]; have := HB.out.size; omega) | (have := HB.out.size; omega)
          intro v' w' hown' hg hnn hat
          have HO' : Hid (w'.ownsRow w.heap.size 3 1 v' (l ++ [(x + y + c) % 10000]).length (ints (l ++ [(x + y + c) % 10000]))) := by
            rw [List.length_append, ints_app]
            exact hown'
          have HB' : Hid (Below w.heap.size w w') := (HB.out.alloc HB.out.size _).grown hg (by rw [alloc_sz]; have := HB.out.size; omega) (fun k hk => own_row_ge HO.out (k := k) hk)
          clear hown' hg hnn hat
          go_wp2_with fail
          go_roundw
          case rel => exact ⟨k + 1, _, _, by omega, by go_num, rfl, by have := HST.out; rw [← HPL.out] at this; exact this, HO'.out, HB'.out, by
            intro hk
            have : k = max n m := by omega
            have e1 : x = 0 := by rw [← HX.out]; simp [List.getD, show a.length ≤ k by rw [la.out]; omega]
            have e2 : y = 0 := by rw [← HY.out]; simp [List.getD, show b.length ≤ k by rw [lb.out]; omega]
            omega⟩
          case measure => simp [intOf] <;> omega
        · obtain rfl : c = 0 := by omega
          have g1 : decide ((k : Int) < (n : Int)) = false := decide_eq_false (by omega)
          have g2 : decide ((k : Int) < (m : Int)) = false := decide_eq_false (by omega)
          obtain ⟨A', c', rfl, hs⟩ := sl_of_own hown
          have HS := Lib.hid hs
          have HV := Lib.hid (HP.out.done (by rw [la.out]; omega) (by rw [lb.out]; omega))
          have hlk : l.length ≤ 2000 := by have := HP.out.len; omega
          clear hown hs HO
          go_wp2_with fail
          (refine (rtrim_any A' l.length c' l _ HS.out (by omega) HP.out.ok).mono ?_; rintro e w3 ⟨R, q, r, rfl, hR, hb3⟩)
          rw [HV.out] at hR
          have HR := Lib.hid hR
          have HB3 := Lib.hid (below_on HB.out hb3)
          clear hR hb3
          go_wp2_with fail
          go_ret
          exact ⟨_, _, _, rfl, HR.out, HB3.out⟩

/-- After k digits of a difference. -/
structure MinAt (a b : List Int) (k : Nat) (l : List Int) (c : Int) : Prop where
  len : l.length = k
  ok : dOk l
  lo : 0 ≤ c
  hi : c ≤ 1
  eq : val l - pw k * c = val (a.take k) - val (b.take k)
theorem MinAt.start (a b : List Int) : MinAt a b 0 [] 0 := ⟨rfl, dOk_nil, by omega, by omega, by simp [val]⟩
theorem MinAt.step {a b l : List Int} {k : Nat} {c d c' : Int} (h : MinAt a b k l c) (h0 : 0 ≤ d) (h1 : d < 10000) (c0 : 0 ≤ c') (c1 : c' ≤ 1) (he : d = a.getD k 0 - b.getD k 0 - c + 10000 * c') : MinAt a b (k + 1) (l ++ [d]) c' := by
  refine ⟨by rw [List.length_append, h.len]; rfl, dOk_snoc h.ok h0 h1, c0, c1, ?_⟩
  rw [val_snoc, h.len, val_take_succ, val_take_succ, pw_succ, he, Int.mul_add, Int.mul_sub, Int.mul_sub, Int.mul_assoc]
  have e := h.eq
  have : pw k * (10000 * c') = 10000 * (pw k * c') := by rw [Int.mul_left_comm]
  omega
theorem MinAt.done {a b l : List Int} {c : Int} (h : MinAt a b a.length l c) (_da : dOk a) (db : dOk b) (hl : b.length ≤ a.length) (hle : val b ≤ val a) : val l = val a - val b := by
  have e := h.eq
  rw [List.take_of_length_le (Nat.le_refl _), List.take_of_length_le hl] at e
  have b1 := val_bd h.ok
  rw [h.len] at b1
  have b2 := val_bd db
  have b3 := val_bd _da
  have := win_eq (x := val l) (c := -c) (m := pw a.length) (v := val a - val b) (by rw [Int.mul_neg]; omega) b1.1 b1.2 (by omega) (by omega)
  exact this.1

set_option maxHeartbeats 2000000 in
theorem minus_any (A B : Option Addr) (n cn m cm : Nat) (a b : List Int) (w : World) (ha : Sl w A n cn a) (hb : Sl w B m cm b) (da : dOk a) (db : dOk b) (n1 : n ≤ 1000) (hmn : m ≤ n) (hle : val b ≤ val a) :
    Calls Tryd.prog 53 #[.slice A n cn, .slice B m cm] w fun e w' => ∃ R k r, e = .returned (.slice R k r) ∧ Sl w' R k r (digs (val a - val b).toNat) ∧ Below w.heap.size w w' := by
  obtain ⟨i0, hi, hz0, hz1, hz2⟩ := info_parts int_info
  have la := Lib.hid ha.len
  have lb := Lib.hid hb.len
  have ht := ha.top
  have ht2 := hb.top
  have hq := ha.cap
  have hq2 := hb.cap
  go_enter Tryd.func53, Tryd.ntmps53
  go_wp2_with fail
  go_loopw [5, 6, 7] (fun ov cv iv wr => ∃ (k : Nat) (c : Int) (l : List Int), k ≤ n ∧ iv = .int .i64 (k : Int) ∧ cv = .int .i64 c ∧ MinAt a b k l c ∧ wr.ownsRow w.heap.size 3 1 ov l.length (ints l) ∧ Below w.heap.size w wr) (fun _ _ iv _ => n - (intOf iv).toNat)
  case atStart => exact ⟨0, 0, [], by omega, rfl, rfl, MinAt.start a b, own_nil _ _, Below.refl _ _⟩
  case round =>
    obtain ⟨k, c, l, hk, rfl, rfl, hp, hown, hbw⟩ := hrel
    have HP := Lib.hid hp
    have HO := Lib.hid hown
    have HB := Lib.hid hbw
    clear hp hbw
    have hl0 := HP.out.lo
    have hl1 := HP.out.hi
    have hll : l.length ≤ 2000 := by have := HP.out.len; omega
    by_cases h1 : k < n
    · obtain ⟨g, o, x, rfl, hg', hx, hxe⟩ := (ha.below HB.out).at_ h1
      have g1 : (k : Int) < (n : Int) := by omega
      have g2 : (0 : Int) ≤ (k : Int) := by omega
      have dx := dOk_getD da k
      rw [hxe.out] at dx
      obtain ⟨x0, x1⟩ := dx
      have dy := dOk_getD db k
      obtain ⟨y, hy⟩ : ∃ y, b.getD k 0 = y := ⟨_, rfl⟩
      rw [hy] at dy
      have HY := Lib.hid hy
      obtain ⟨y0, y1⟩ := dy
      clear hy hown
      have HST := Lib.hid (fun d c' h0 h1 c0 c1 he => HP.out.step (d := d) (c' := c') h0 h1 c0 c1 he)
      rw [hxe.out, HY.out] at HST
      have q0 : IntKind.i64.wrap (x - y) = x - y := IntWalk.i64_in _ (by omega)
      have q1 : IntKind.i64.wrap (x - y - c) = x - y - c := IntWalk.i64_in _ (by omega)
      have DG : Hid (∀ q, Calls Tryd.prog 69 #[.slice B m cm, .int .i64 (k : Int)] (wr.drewN q) fun e w' => e = .returned (.int .i64 y) ∧ wr.drewN q = w') := fun q => by
        have := digit_any B m cm b k (k : Int) (wr.drewN q) ((hb.below HB.out).drewN q) rfl
        rwa [HY.out] at this
      have Q0 := Lib.hid q0
      have Q1 := Lib.hid q1
      go_wp2_with fail
      go_quiet ((go_at_call 69; exact quiet_left (DG.out _)))
      have HO := Lib.hid (show (wr.drewN nq).ownsRow _ _ _ _ _ _ from HO.out)
      have HB := Lib.hid (below_drewN HB.out nq)
      clear q0 q1 DG Q0 Q1
      generalize wr.drewN nq = wr at *
      by_cases hneg : x - y - c < 0
      · have h' : decide (x - y - c < 0) = true := decide_eq_true hneg
        go_wp2_with (at_builtin; refine wpList_append_own_at _ rfl _ _ 22 rfl w.heap.size 3 i0 (.int .i64 0) 1 8 Tryd.underlying22 hi hz0 hz1 hz2 rfl (by decide) _ _ _ rfl (HO.out.alloc _) ⟨wr.heap.size, 0, none⟩ 1 1 [.int .i64 (x - y - c + 10000)] rfl rfl ?c1 ?c2 ?c3 ?c4 ?c5 ?_)
        try (case c1 => exact one_cell wr _)
        case c2 => first | exact ints_one [_] | rfl
        case c3 => unfold maxLen; omega
        case c4 => omega
        case c5 => first | (rw [alloc_sz]; have := HB.out.size; omega) | (have := HB.out.size; omega)
        intro v' w' hown' hg hnn hat
        have HO' : Hid (w'.ownsRow w.heap.size 3 1 v' (l ++ [x - y - c + 10000]).length (ints (l ++ [x - y - c + 10000]))) := by
          rw [List.length_append, ints_app]
          exact hown'
        have HB' : Hid (Below w.heap.size w w') := (HB.out.alloc HB.out.size _).grown hg (by rw [alloc_sz]; have := HB.out.size; omega) (fun k hk => own_row_ge HO.out (k := k) hk)
        clear hown' hg hnn hat
        go_wp2_with fail
        go_roundw
        case rel => exact ⟨k + 1, 1, _, by omega, by go_num, rfl, HST.out _ 1 (by omega) (by omega) (by omega) (by omega) (by omega), HO'.out, HB'.out⟩
        case measure => simp [intOf] <;> omega
      · have h' : decide (x - y - c < 0) = false := decide_eq_false hneg
        go_wp2_with (at_builtin; refine wpList_append_own_at _ rfl _ _ 22 rfl w.heap.size 3 i0 (.int .i64 0) 1 8 Tryd.underlying22 hi hz0 hz1 hz2 rfl (by decide) _ _ _ rfl (HO.out.alloc _) ⟨wr.heap.size, 0, none⟩ 1 1 [.int .i64 (x - y - c)] rfl rfl ?c1 ?c2 ?c3 ?c4 ?c5 ?_)
        try (case c1 => exact one_cell wr _)
        case c2 => first | exact ints_one [_] | rfl
        case c3 => unfold maxLen; omega
        case c4 => omega
        case c5 => first | (rw [alloc_sz]; have := HB.out.size; omega) | (have := HB.out.size; omega)
        intro v' w' hown' hg hnn hat
        have HO' : Hid (w'.ownsRow w.heap.size 3 1 v' (l ++ [x - y - c]).length (ints (l ++ [x - y - c]))) := by
          rw [List.length_append, ints_app]
          exact hown'
        have HB' : Hid (Below w.heap.size w w') := (HB.out.alloc HB.out.size _).grown hg (by rw [alloc_sz]; have := HB.out.size; omega) (fun k hk => own_row_ge HO.out (k := k) hk)
        clear hown' hg hnn hat
        go_wp2_with fail
        go_roundw
        case rel => exact ⟨k + 1, 0, _, by omega, by go_num, rfl, HST.out _ 0 (by omega) (by omega) (by omega) (by omega) (by omega), HO'.out, HB'.out⟩
        case measure => simp [intOf] <;> omega
    · obtain rfl : k = n := by omega
      obtain ⟨A', c', rfl, hs⟩ := sl_of_own hown
      have HS := Lib.hid hs
      have HV := Lib.hid (MinAt.done (show MinAt a b a.length l c by rw [la.out]; exact HP.out) da db (by rw [la.out, lb.out]; omega) hle)
      clear hown hs HO
      go_wp2_with fail
      (refine (rtrim_any A' l.length c' l _ HS.out (by omega) HP.out.ok).mono ?_; rintro e w3 ⟨R, q, r, rfl, hR, hb3⟩)
      rw [HV.out] at hR
      have HR := Lib.hid hR
      have HB3 := Lib.hid (below_on HB.out hb3)
      clear hR hb3
      go_wp2_with fail
      go_ret
      exact ⟨_, _, _, rfl, HR.out, HB3.out⟩
end Go.Proofs.YtfkfbomllkpjjaaDoor
