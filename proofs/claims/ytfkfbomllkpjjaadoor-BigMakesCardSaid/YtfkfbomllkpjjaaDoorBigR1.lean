/-
  Contracts of the reference's Valid, digits, negative, trim, number, digit, order.
-/
import Derived.Test.YtfkfbomllkpjjaaDoorBigG
import Derived.Test.YtfkfbomllkpjjaaDoorBigJ
namespace Go.Proofs.YtfkfbomllkpjjaaDoor
open Go.RowKit

set_option maxHeartbeats 400000 in
theorem rvalid_any (neg : Bool) (A : Option Addr) (n c : Nat) (xs : List Int) (w : World) (hs : Sl w A n c xs) :
    Calls Tryd.prog 19 #[.agg #[.bool neg, .slice A n c]] w fun e w' => e = .returned (.bool (validB neg xs)) ∧ Below w.heap.size w w' := by
  have hl := Lib.hid hs.len
  have hc := hs.cap
  have ht := hs.top
  rcases Nat.eq_zero_or_pos n with h0 | h0
  · subst h0
    have HV : Hid ((!neg) = validB neg xs) := by
      show (!neg) = validB neg xs
      rw [List.eq_nil_of_length_eq_zero hl.out, validB_nil]
    cases neg with
    | true =>
      go_enter Tryd.func19, Tryd.ntmps19
      go_wp2_with fail
      go_ret
      exact ⟨ret_bool HV.out, (Below.refl _ _).alloc (Nat.le_refl _) _⟩
    | false =>
      go_enter Tryd.func19, Tryd.ntmps19
      go_wp2_with fail
      go_loop [4] (fun i => i = .int .i64 0) (fun _ => 0)
      case atStart => rfl
      case round =>
        obtain rfl := hrel
        go_wp2_with fail
        go_ret
        exact ⟨ret_bool HV.out, (Below.refl _ _).alloc (Nat.le_refl _) _⟩
  · have z0 : ((n : Int) == 0) = false := by simp; omega
    by_cases h1 : 200 < n
    · have HV : Hid (false = validB neg xs) := (validB_long (by rw [hl.out]; exact h1)).symm
      have h1' : decide ((200 : Int) < (n : Int)) = true := decide_eq_true (by omega)
      go_enter Tryd.func19, Tryd.ntmps19
      go_wp2_with fail
      go_ret
      exact ⟨ret_bool HV.out, (Below.refl _ _).alloc (Nat.le_refl _) _⟩
    · have h1' : decide ((200 : Int) < (n : Int)) = false := decide_eq_false (by omega)
      obtain ⟨g, o, rfl, hg, hcs⟩ := hs.cells h0
      have hg' : ∀ k x, w.cell? ⟨g, o + k, none⟩ = some x → (w.alloc (.cells #[.bool neg, .slice (some ⟨g, o, none⟩) n c] 24)).cell? ⟨g, o + k, none⟩ = some x := fun k x hx => (World.cell?_alloc_lt w _ ⟨g, o + k, none⟩ hg).trans hx
      have HG := Lib.hid hg'
      have HC := Lib.hid hcs
      clear hg' hcs
      obtain ⟨x, hx⟩ : ∃ x, xs.getD (n - 1) 0 = x := ⟨_, rfl⟩
      have cx := HG.out (n - 1) _ (HC.out (n - 1) (by omega))
      rw [hx] at cx
      have HX := Lib.hid hx
      clear hx
      have p1 : (n : Int) - 1 < (n : Int) := by omega
      have p2 : (0 : Int) ≤ (n : Int) - 1 := by omega
      cases hxz : (x == 0) with
      | true =>
        have HV : Hid (false = validB neg xs) := (validB_top (by rw [hl.out]; exact h0) (by rw [hl.out, HX.out]; simpa using hxz)).symm
        go_enter Tryd.func19, Tryd.ntmps19
        go_wp2_with fail
        go_ret
        exact ⟨ret_bool HV.out, (Below.refl _ _).alloc (Nat.le_refl _) _⟩
      | false =>
        have HT : Hid (xs.getD (xs.length - 1) 0 ≠ 0) := by
          show _ ≠ _
          rw [hl.out, HX.out]; simpa using hxz
        go_enter Tryd.func19, Tryd.ntmps19
        go_wp2_with fail
        clear cx
        go_loop [4] (fun i => ∃ k : Nat, k ≤ n ∧ i = .int .i64 (k : Int) ∧ dOk (xs.take k)) (fun i => n - (intOf i).toNat)
        case atStart => exact ⟨0, Nat.zero_le _, rfl, by rw [List.take_zero]; exact dOk_nil⟩
        case round =>
          obtain ⟨k, hk, rfl, hd⟩ := hrel
          have HD := Lib.hid hd
          clear hd
          by_cases hlt : k < n
          · obtain ⟨y, hy⟩ : ∃ y, xs.getD k 0 = y := ⟨_, rfl⟩
            have cy := HG.out k _ (HC.out k hlt)
            rw [hy] at cy
            have HY := Lib.hid hy
            clear hy
            by_cases y0 : y < 0
            · have HV : Hid (false = validB neg xs) := (validB_bad (k := k) (by rw [hl.out]; exact hlt) (by rw [HY.out]; exact .inl y0)).symm
              go_wp2_with fail
              go_ret
              exact ⟨ret_bool HV.out, (Below.refl _ _).alloc (Nat.le_refl _) _⟩
            · by_cases y1 : 10000 ≤ y
              · have HV : Hid (false = validB neg xs) := (validB_bad (k := k) (by rw [hl.out]; exact hlt) (by rw [HY.out]; exact .inr y1)).symm
                have y0' : decide (y < 0) = false := decide_eq_false y0
                go_wp2_with fail
                go_ret
                exact ⟨ret_bool HV.out, (Below.refl _ _).alloc (Nat.le_refl _) _⟩
              · have HN := Lib.hid (dOk_take_succ (by rw [hl.out]; exact hlt) HD.out HY.out (by omega) (by omega))
                have y0' : decide (y < 0) = false := decide_eq_false y0
                go_wp2_with fail
                go_round
                case rel => exact ⟨k + 1, by omega, by go_num, HN.out⟩
                case measure => simp [intOf] <;> omega
          · obtain rfl : k = n := by omega
            have HV : Hid (true = validB neg xs) := by
              refine (validB_good (by rw [hl.out]; exact h0) (by rw [hl.out]; omega) HT.out ?_).symm
              have := HD.out
              rwa [List.take_of_length_le (by rw [hl.out]; exact Nat.le_refl _)] at this
            go_wp2_with fail
            go_ret
            exact ⟨ret_bool HV.out, (Below.refl _ _).alloc (Nat.le_refl _) _⟩

theorem rdigits_any (neg : Bool) (A : Option Addr) (n c : Nat) (xs : List Int) (w : World) (hs : Sl w A n c xs) :
    Calls Tryd.prog 41 #[.agg #[.bool neg, .slice A n c]] w fun e w' => ∃ B m d, e = .returned (.slice B m d) ∧ Sl w' B m d (lOf (zOf neg xs)) ∧ Below w.heap.size w w' := by
  have HS := Lib.hid hs
  clear hs
  cases hv : validB neg xs with
  | true =>
    have HV := Lib.hid hv
    have H2 := Lib.hid (zOf_valid hv).2
    clear hv
    go_enter Tryd.func41, Tryd.ntmps41
    go_wp2_with fail
    (refine (rvalid_any neg A n c xs _ (HS.out.alloc _)).mono ?_; rintro e w1 ⟨rfl, hb⟩)
    rw [HV.out]
    have X1 := Lib.hid ((Bx.new w (.bool neg) (.slice A n c)).below hb)
    have HB := Lib.hid (below_box1 hb)
    have c1 := X1.out.c0
    have c2 := X1.out.c1
    clear hb
    go_wp2_with fail
    go_ret
    exact ⟨A, n, c, rfl, by rw [← H2.out]; exact HS.out.below HB.out, HB.out⟩
  | false =>
    have HV := Lib.hid hv
    have H0 := Lib.hid (zOf_invalid hv)
    clear hv
    go_enter Tryd.func41, Tryd.ntmps41
    go_wp2_with fail
    (refine (rvalid_any neg A n c xs _ (HS.out.alloc _)).mono ?_; rintro e w1 ⟨rfl, hb⟩)
    rw [HV.out]
    have HB := Lib.hid (below_box1 hb)
    clear hb
    go_wp2_with fail
    go_ret
    exact ⟨none, 0, 0, rfl, by rw [H0.out, lOf_zero]; exact Sl.nil _, HB.out⟩

theorem rnegative_any (neg : Bool) (A : Option Addr) (n c : Nat) (xs : List Int) (w : World) (hs : Sl w A n c xs) :
    Calls Tryd.prog 43 #[.agg #[.bool neg, .slice A n c]] w fun e w' => e = .returned (.bool (nOf (zOf neg xs))) ∧ Below w.heap.size w w' := by
  have HS := Lib.hid hs
  clear hs
  cases hv : validB neg xs with
  | true =>
    have HV := Lib.hid hv
    have H1 := Lib.hid (zOf_valid hv).1
    clear hv
    go_enter Tryd.func43, Tryd.ntmps43
    go_wp2_with fail
    (refine (rvalid_any neg A n c xs _ (HS.out.alloc _)).mono ?_; rintro e w1 ⟨rfl, hb⟩)
    rw [HV.out]
    have X1 := Lib.hid ((Bx.new w (.bool neg) (.slice A n c)).below hb)
    have HB := Lib.hid (below_box1 hb)
    have c1 := X1.out.c0
    have c2 := X1.out.c1
    clear hb
    go_wp2_with fail
    go_ret
    exact ⟨ret_bool H1.out, HB.out⟩
  | false =>
    have HV := Lib.hid hv
    have H0 := Lib.hid (zOf_invalid hv)
    clear hv
    go_enter Tryd.func43, Tryd.ntmps43
    go_wp2_with fail
    (refine (rvalid_any neg A n c xs _ (HS.out.alloc _)).mono ?_; rintro e w1 ⟨rfl, hb⟩)
    rw [HV.out]
    have HB := Lib.hid (below_box1 hb)
    clear hb
    go_wp2_with fail
    go_ret
    exact ⟨ret_bool (by rw [H0.out, nOf_zero]), HB.out⟩

theorem digit_any (A : Option Addr) (n c : Nat) (xs : List Int) (k : Nat) (ki : Int) (w : World) (hs : Sl w A n c xs) (hk : ki = k) :
    Calls Tryd.prog 69 #[.slice A n c, .int .i64 ki] w fun e w' => e = .returned (.int .i64 (xs.getD k 0)) ∧ w = w' := by
  subst hk
  have hl := Lib.hid hs.len
  have htop := hs.top
  have hcap := hs.cap
  by_cases h : k < n
  · obtain ⟨g, o, x, rfl, hg, hc, hx⟩ := hs.at_ h
    have p1 : (k : Int) < (n : Int) := by omega
    go_enter Tryd.func69, Tryd.ntmps69
    go_wp2_with fail
    go_ret
    exact ⟨ret_int hx.out.symm, rfl⟩
  · have p1 : (n : Int) ≤ (k : Int) := by omega
    have HX : Hid (xs.getD k 0 = 0) := by
      have := hl.out
      show xs.getD k 0 = 0
      simp [List.getD, show xs.length ≤ k by omega]
    clear h
    go_enter Tryd.func69, Tryd.ntmps69
    go_wp2_with fail
    go_ret
    exact ⟨ret_int HX.out.symm, rfl⟩

/-! ### order -/
set_option maxHeartbeats 400000 in
theorem order_any (A B : Option Addr) (n c m d : Nat) (a b : List Int) (w : World) (ha : Sl w A n c a) (hb : Sl w B m d b) (da : dOk a) (db : dOk b) (ta : topOk a) (tb : topOk b) :
    Calls Tryd.prog 42 #[.slice A n c, .slice B m d] w fun e w' => e = .returned (.int .i64 (cmpI (val a) (val b))) ∧ ∃ q, w' = w.drewN q := by
  have la := Lib.hid ha.len
  have lb := Lib.hid hb.len
  have hc := ha.cap
  have hd := hb.cap
  have ht := ha.top
  have ht2 := hb.top
  by_cases hne : n = m
  · have HNE := Lib.hid hne
    have q1 : ((n : Int) != (m : Int)) = false := by simp [hne]
    clear hne
    go_enter Tryd.func42, Tryd.ntmps42
    go_wp2_with fail
    go_loopw [5] (fun i wr => ∃ (j q : Nat), j ≤ n ∧ i = .int .i64 ((j : Int) - 1) ∧ wr = w.drewN q ∧ a.drop j = b.drop j) (fun i _ => (intOf i + 1).toNat)
    case atStart => exact ⟨n, 0, Nat.le_refl _, rfl, rfl, by rw [List.drop_of_length_le (by rw [la.out]; exact Nat.le_refl _), List.drop_of_length_le (by rw [lb.out, HNE.out]; exact Nat.le_refl _)]⟩
    case round =>
      obtain ⟨j, q, hj, rfl, rfl, hdr⟩ := hrel
      have HD := Lib.hid hdr
      clear hdr
      by_cases h0 : 0 < j
      · obtain ⟨i, rfl⟩ : ∃ i, j = i + 1 := ⟨j - 1, by omega⟩
        have him : i < m := by have := HNE.out; omega
        obtain ⟨g, o, x, rfl, hg, hx, hxe⟩ := ha.at_ (show i < n by omega)
        obtain ⟨g', o', y, rfl, hg', hy, hye⟩ := hb.at_ him
        have p1 : (i : Int) < (n : Int) := by omega
        have p2 : (i : Int) < (m : Int) := by omega
        have p3 : (0 : Int) ≤ (i : Int) := by omega
        have HE := Lib.hid (fun h => cmpI_at da db (by rw [la.out, lb.out]; exact HNE.out) (by rw [la.out]; omega) HD.out hxe.out hye.out h)
        rw [show ((i + 1 : Nat) : Int) - 1 = (i : Int) from by omega]
        rcases Int.lt_trichotomy x y with h | h | h
        · have HC : Hid (-1 = cmpI (val a) (val b)) := by have := HE.out (by omega); rw [cmpI_lt h] at this; exact this
          have h' : decide (x < y) = true := decide_eq_true h
          go_wp2_with fail
          go_quiet (fail)
          go_wp2_with fail
          go_ret
          exact ⟨ret_int HC.out, _, by rw [World.drewN_drewN]⟩
        · have HS := Lib.hid (drop_eq_step (by rw [la.out, lb.out]; exact HNE.out) (by rw [la.out]; omega) HD.out (by rw [hxe.out, hye.out]; exact h))
          have h1 : decide (x < y) = false := decide_eq_false (by omega)
          have h2 : decide (y < x) = false := decide_eq_false (by omega)
          clear h
          go_wp2_with fail
          go_quiet (fail)
          go_wp2_with fail
          go_quiet (fail)
          go_wp2_with fail
          go_roundw
          case rel => exact ⟨i, _, by omega, rfl, rfl, HS.out⟩
          case measure => simp [intOf] <;> omega
        · have HC : Hid (1 = cmpI (val a) (val b)) := by have := HE.out (by omega); rw [cmpI_gt h] at this; exact this
          have h1 : decide (x < y) = false := decide_eq_false (by omega)
          have h2 : decide (y < x) = true := decide_eq_true h
          go_wp2_with fail
          go_quiet (fail)
          go_wp2_with fail
          go_quiet (fail)
          go_wp2_with fail
          go_ret
          exact ⟨ret_int HC.out, _, by rw [World.drewN_drewN, World.drewN_drewN]⟩
      · obtain rfl : j = 0 := by omega
        have HE : Hid (0 = cmpI (val a) (val b)) := by
          have := HD.out
          rw [List.drop_zero, List.drop_zero] at this
          exact (cmpI_eq (by rw [this])).symm
        go_wp2_with fail
        go_ret
        exact ⟨ret_int HE.out, _, rfl⟩
  · have q1 : ((n : Int) != (m : Int)) = true := by simp; omega
    have HE := Lib.hid (cmpI_nat hne da db ta tb la.out lb.out)
    by_cases h : n < m
    · have HC : Hid (-1 = cmpI (val a) (val b)) := by have := HE.out; rw [cmpI_lt (by omega)] at this; exact this
      have p1 : (n : Int) < (m : Int) := by omega
      clear hne
      go_enter Tryd.func42, Tryd.ntmps42
      go_wp2_with fail
      go_ret
      exact ⟨ret_int HC.out, 0, rfl⟩
    · have HC : Hid (1 = cmpI (val a) (val b)) := by have := HE.out; rw [cmpI_gt (by omega)] at this; exact this
      have p1 : ¬ (n : Int) < (m : Int) := by omega
      clear hne h
      go_enter Tryd.func42, Tryd.ntmps42
      go_wp2_with fail
      go_ret
      exact ⟨ret_int HC.out, 0, rfl⟩
end Go.Proofs.YtfkfbomllkpjjaaDoor
