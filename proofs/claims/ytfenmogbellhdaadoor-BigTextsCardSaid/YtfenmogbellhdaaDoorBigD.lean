/-
  Contracts of the program's compare, Valid, sound, signed and limited.
-/
import Derived.Test.YtfenmogbellhdaaDoorBigC
import Derived.Test.YtfenmogbellhdaaDoorShelf
namespace Go.Proofs.YtfenmogbellhdaaDoor
open Go.RowKit

/-! ### compare -/
theorem compareInt_eq (x y : Int) : Lib.compareInt x y = cmpI x y := by
  unfold Lib.compareInt cmpI
  by_cases h1 : x < y
  · simp [h1]
  · by_cases h2 : y < x
    · simp [h1, h2]
    · simp [h1, h2]
theorem cmp_any (x y : Int) (w : World) : Calls Tryd.prog 189 #[.int .i64 x, .int .i64 y] w fun e w' => e = .returned (.int .i64 (cmpI x y)) ∧ w = w' :=
  (Tryd.cmp_Compare_int x y w).mono fun e w' ⟨he, hw⟩ => ⟨by rw [he, compareInt_eq], hw.symm⟩
theorem cmpI_nat {n m : Nat} (h : n ≠ m) {a b : List Int} (ha : dOk a) (hb : dOk b) (ta : topOk a) (tb : topOk b) (la : a.length = n) (lb : b.length = m) : cmpI (n : Int) (m : Int) = cmpI (val a) (val b) := by
  rcases Nat.lt_or_gt_of_ne h with h | h
  · rw [cmpI_lt (by omega), cmpI_lt (val_lt_len ha hb tb (by omega))]
  · rw [cmpI_gt (by omega), cmpI_gt (val_lt_len hb ha ta (by omega))]
theorem cmpI_at {a b : List Int} {k : Nat} {x y : Int} (ha : dOk a) (hb : dOk b) (hl : a.length = b.length) (hk : k < a.length) (hd : a.drop (k + 1) = b.drop (k + 1)) (hx : a.getD k 0 = x) (hy : b.getD k 0 = y) (h : x ≠ y) : cmpI x y = cmpI (val a) (val b) := by
  have e1 : a[k] = x := by simpa [List.getD, hk] using hx
  have e2 : b[k]'(by omega) = y := by simpa [List.getD, show k < b.length by omega] using hy
  rcases Int.lt_or_gt_of_ne h with h | h
  · rw [cmpI_lt h, cmpI_lt (val_lt_at ha hb hl hk hd (by omega))]
  · rw [cmpI_gt h, cmpI_gt (val_lt_at hb ha hl.symm (by omega) hd.symm (by omega))]
theorem drop_eq_step {a b : List Int} {k : Nat} (hl : a.length = b.length) (hk : k < a.length) (hd : a.drop (k + 1) = b.drop (k + 1)) (h : a.getD k 0 = b.getD k 0) : a.drop k = b.drop k := by
  rw [List.drop_eq_getElem_cons hk, List.drop_eq_getElem_cons (show k < b.length by omega), hd]
  congr 1
  simpa [List.getD, hk, show k < b.length by omega] using h

set_option maxHeartbeats 400000 in
theorem compare_any (A B : Option Addr) (n c m d : Nat) (a b : List Int) (w : World) (ha : Sl w A n c a) (hb : Sl w B m d b) (da : dOk a) (db : dOk b) (ta : topOk a) (tb : topOk b) :
    Calls Tryd.prog 166 #[.slice A n c, .slice B m d] w fun e w' => e = .returned (.int .i64 (cmpI (val a) (val b))) ∧ ∃ q, w' = w.drewN q := by
  have la := Lib.hid ha.len
  have lb := Lib.hid hb.len
  have hc := ha.cap
  have hd := hb.cap
  have ht := ha.top
  have ht2 := hb.top
  by_cases hne : n = m
  · have HNE := Lib.hid hne
    have q1 : ((n : Int) != (m : Int)) = false := by simp [hne]
    clear hne
    go_enter Tryd.func166, Tryd.ntmps166
    go_wp2_with fail
    go_loopw [5] (fun i wr => ∃ (j q : Nat), j ≤ n ∧ i = .int .i64 ((j : Int) - 1) ∧ wr = w.drewN q ∧ a.drop j = b.drop j) (fun i _ => (intOf i + 1).toNat)
    case atStart => exact ⟨n, 0, Nat.le_refl _, rfl, rfl, by rw [List.drop_of_length_le (by rw [la.out]; exact Nat.le_refl _), List.drop_of_length_le (by rw [lb.out, HNE.out]; exact Nat.le_refl _)]⟩
    case round =>
      obtain ⟨j, q, hj, rfl, rfl, hdr⟩ := hrel
      have HD := Lib.hid hdr
      clear hdr
      by_cases h0 : 0 < j
      · obtain ⟨i, rfl⟩ : ∃ i, j = i + 1 := ⟨j - 1, by omega⟩
        have him : i < m := by have := HNE.out; omega
        obtain ⟨g, o, x, rfl, hg, hx, hxe⟩ := ha.at_ (show i < n by omega)
        obtain ⟨g', o', y, rfl, hg', hy, hye⟩ := hb.at_ him
        have p1 : (i : Int) < (n : Int) := by omega
        have p2 : (i : Int) < (m : Int) := by omega
        have p3 : (0 : Int) ≤ (i : Int) := by omega
        cases hxy : (x != y) with
        | true =>
          have HE := Lib.hid (cmpI_at da db (by rw [la.out, lb.out]; exact HNE.out) (by rw [la.out]; omega) HD.out hxe.out hye.out (by simpa using hxy))
          rw [show ((i + 1 : Nat) : Int) - 1 = (i : Int) from by omega]
          go_wp2_with fail
          go_quiet (fail)
          go_wp2_with fail
          go_quiet (first | (go_at_call 189; exact quiet_left (cmp_any _ _ _)) | (go_at_call 189; exact quiet_more (cmp_any _ _ _)))
          go_wp2_with fail
          go_ret
          exact ⟨ret_int HE.out, _, by rw [World.drewN_drewN, World.drewN_drewN]⟩
        | false =>
          have HS := Lib.hid (drop_eq_step (by rw [la.out, lb.out]; exact HNE.out) (by rw [la.out]; omega) HD.out (by rw [hxe.out, hye.out]; simpa using hxy))
          rw [show ((i + 1 : Nat) : Int) - 1 = (i : Int) from by omega]
          go_wp2_with fail
          go_quiet (fail)
          go_wp2_with fail
          go_roundw
          case rel => exact ⟨i, _, by omega, rfl, rfl, HS.out⟩
          case measure => simp [intOf] <;> omega
      · obtain rfl : j = 0 := by omega
        have HE : Hid (0 = cmpI (val a) (val b)) := by
          have := HD.out
          rw [List.drop_zero, List.drop_zero] at this
          exact (cmpI_eq (by rw [this])).symm
        go_wp2_with fail
        go_ret
        exact ⟨ret_int HE.out, _, rfl⟩
  · have q1 : ((n : Int) != (m : Int)) = true := by simp; omega
    have HE := Lib.hid (cmpI_nat hne da db ta tb la.out lb.out)
    clear hne
    go_enter Tryd.func166, Tryd.ntmps166
    go_wp2_with fail
    (refine (cmp_any _ _ _).mono ?_; rintro e w1 ⟨rfl, rfl⟩)
    go_wp2_with fail
    go_ret
    exact ⟨ret_int HE.out, 0, rfl⟩

/-! ### Valid -/
theorem validB_nil (neg : Bool) : validB neg [] = !neg := by cases neg <;> rfl
theorem validB_long {neg : Bool} {l : List Int} (h : 200 < l.length) : validB neg l = false := by unfold validB; simp; omega
theorem validB_top {neg : Bool} {l : List Int} (h0 : 0 < l.length) (h : l.getD (l.length - 1) 0 = 0) : validB neg l = false := by
  unfold validB
  have : l.getLast? = some 0 := by
    rw [List.getLast?_eq_getElem?]
    simp [List.getD, show l.length - 1 < l.length by omega] at h ⊢
    exact h
  simp [this]
  intro _
  cases l with
  | nil => simp at h0
  | cons d l => simp
theorem validB_bad {neg : Bool} {l : List Int} {k : Nat} (_hk : k < l.length) (h : l.getD k 0 < 0 ∨ 10000 ≤ l.getD k 0) : validB neg l = false := by
  cases hv : validB neg l with
  | false => rfl
  | true =>
    have := (dOk_getD (validB_iff.1 hv).2.2.2 k)
    omega
theorem validB_good {neg : Bool} {l : List Int} (h0 : 0 < l.length) (h1 : l.length ≤ 200) (ht : l.getD (l.length - 1) 0 ≠ 0) (hd : dOk l) : validB neg l = true := by
  rw [validB_iff]
  refine ⟨h1, fun e => by rw [e] at h0; simp at h0, ?_, hd⟩
  unfold topOk
  rw [List.getLast?_eq_getElem?]
  simp [List.getD, show l.length - 1 < l.length by omega] at ht ⊢
  exact ht
theorem dOk_take_succ {l : List Int} {k : Nat} {x : Int} (hk : k < l.length) (h : dOk (l.take k)) (hx : l.getD k 0 = x) (h0 : 0 ≤ x) (h1 : x < 10000) : dOk (l.take (k + 1)) := by
  rw [take_succ_at l hk]
  have : l[k] = x := by simpa [List.getD, hk] using hx
  rw [this]
  exact dOk_snoc h h0 h1

set_option maxHeartbeats 400000 in
theorem valid_any (neg : Bool) (A : Option Addr) (n c : Nat) (xs : List Int) (w : World) (hs : Sl w A n c xs) :
    Calls Tryd.prog 120 #[.agg #[.bool neg, .slice A n c]] w fun e w' => e = .returned (.bool (validB neg xs)) ∧ Below w.heap.size w w' := by
  have hl := Lib.hid hs.len
  have hc := hs.cap
  have ht := hs.top
  rcases Nat.eq_zero_or_pos n with h0 | h0
  · subst h0
    have HV : Hid ((!neg) = validB neg xs) := by
      rw [List.eq_nil_of_length_eq_zero hl.out, validB_nil]; rfl
    go_enter Tryd.func120, Tryd.ntmps120
    go_wp2_with fail
    go_ret
    exact ⟨ret_bool HV.out, (Below.refl _ _).alloc (Nat.le_refl _) _⟩
  · have z0 : ((n : Int) == 0) = false := by simp; omega
    by_cases h1 : 200 < n
    · have HV : Hid (false = validB neg xs) := (validB_long (by rw [hl.out]; exact h1)).symm
      have h1' : decide ((200 : Int) < (n : Int)) = true := decide_eq_true (by omega)
      go_enter Tryd.func120, Tryd.ntmps120
      go_wp2_with fail
      go_ret
      exact ⟨ret_bool HV.out, (Below.refl _ _).alloc (Nat.le_refl _) _⟩
    · have h1' : decide ((200 : Int) < (n : Int)) = false := decide_eq_false (by omega)
      obtain ⟨g, o, rfl, hg, hcs⟩ := hs.cells h0
      have hg' : ∀ k x, w.cell? ⟨g, o + k, none⟩ = some x → (w.alloc (.cells #[.bool neg, .slice (some ⟨g, o, none⟩) n c] 35)).cell? ⟨g, o + k, none⟩ = some x := fun k x hx => (World.cell?_alloc_lt w _ ⟨g, o + k, none⟩ hg).trans hx
      have HG := Lib.hid hg'
      have HC := Lib.hid hcs
      clear hg' hcs
      obtain ⟨x, hx⟩ : ∃ x, xs.getD (n - 1) 0 = x := ⟨_, rfl⟩
      have cx := HG.out (n - 1) _ (HC.out (n - 1) (by omega))
      rw [hx] at cx
      have HX := Lib.hid hx
      clear hx
      have p1 : (n : Int) - 1 < (n : Int) := by omega
      have p2 : (0 : Int) ≤ (n : Int) - 1 := by omega
      cases hxz : (x == 0) with
      | true =>
        have HV : Hid (false = validB neg xs) := (validB_top (by rw [hl.out]; exact h0) (by rw [hl.out, HX.out]; simpa using hxz)).symm
        go_enter Tryd.func120, Tryd.ntmps120
        go_wp2_with fail
        go_ret
        exact ⟨ret_bool HV.out, (Below.refl _ _).alloc (Nat.le_refl _) _⟩
      | false =>
        have HT : Hid (xs.getD (xs.length - 1) 0 ≠ 0) := by
          show _ ≠ _
          rw [hl.out, HX.out]; simpa using hxz
        go_enter Tryd.func120, Tryd.ntmps120
        go_wp2_with fail
        clear cx
        go_loop [28] (fun i => ∃ k : Nat, k ≤ n ∧ i = .int .i64 (k : Int) ∧ dOk (xs.take k)) (fun i => n - (intOf i).toNat)
        case atStart => exact ⟨0, Nat.zero_le _, rfl, by rw [List.take_zero]; exact dOk_nil⟩
        case round =>
          obtain ⟨k, hk, rfl, hd⟩ := hrel
          have HD := Lib.hid hd
          clear hd
          by_cases hlt : k < n
          · obtain ⟨y, hy⟩ : ∃ y, xs.getD k 0 = y := ⟨_, rfl⟩
            have cy := HG.out k _ (HC.out k hlt)
            rw [hy] at cy
            have HY := Lib.hid hy
            clear hy
            by_cases y0 : y < 0
            · have HV : Hid (false = validB neg xs) := (validB_bad (k := k) (by rw [hl.out]; exact hlt) (by rw [HY.out]; exact .inl y0)).symm
              go_wp2_with fail
              go_ret
              exact ⟨ret_bool HV.out, (Below.refl _ _).alloc (Nat.le_refl _) _⟩
            · by_cases y1 : 10000 ≤ y
              · have HV : Hid (false = validB neg xs) := (validB_bad (k := k) (by rw [hl.out]; exact hlt) (by rw [HY.out]; exact .inr y1)).symm
                have y0' : decide (y < 0) = false := decide_eq_false y0
                go_wp2_with fail
                go_ret
                exact ⟨ret_bool HV.out, (Below.refl _ _).alloc (Nat.le_refl _) _⟩
              · have HN := Lib.hid (dOk_take_succ (by rw [hl.out]; exact hlt) HD.out HY.out (by omega) (by omega))
                have y0' : decide (y < 0) = false := decide_eq_false y0
                go_wp2_with fail
                go_round
                case rel => exact ⟨k + 1, by omega, by go_num, HN.out⟩
                case measure => simp [intOf] <;> omega
          · obtain rfl : k = n := by omega
            have HV : Hid (true = validB neg xs) := by
              refine (validB_good (by rw [hl.out]; exact h0) (by rw [hl.out]; omega) HT.out ?_).symm
              have := HD.out
              rwa [List.take_of_length_le (by rw [hl.out]; exact Nat.le_refl _)] at this
            go_wp2_with fail
            go_ret
            exact ⟨ret_bool HV.out, (Below.refl _ _).alloc (Nat.le_refl _) _⟩
end Go.Proofs.YtfenmogbellhdaaDoor
