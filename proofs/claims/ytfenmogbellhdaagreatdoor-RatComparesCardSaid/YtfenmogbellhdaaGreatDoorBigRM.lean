/-
  Layer 2's reference: Valid, digits, trim, number, plus, minus, times, Of.
-/
import Derived.Test.YtfenmogbellhdaaGreatDoorBigG
import Derived.Test.YtfenmogbellhdaaGreatDoorBigJ
import Derived.BigQuiet
import Derived.Deep.QuietTactic
import Derived.Deep.LoopGhost

namespace Go.Proofs.YtfenmogbellhdaaGreatDoor
open Go.RowKit

set_option maxHeartbeats 400000 in
theorem r2valid_any (neg : Bool) (A : Option Addr) (n c : Nat) (xs : List Int) (w : World) (hs : Sl w A n c xs) :
    Calls Tryz.prog 84 #[.agg #[.bool neg, .slice A n c]] w fun e w' => e = .returned (.bool (validB neg xs)) ∧ Below w.heap.size w w' := by
  have hl := Lib.hid hs.len
  have hc := hs.cap
  have ht := hs.top
  rcases Nat.eq_zero_or_pos n with h0 | h0
  · subst h0
    have HV : Hid ((!neg) = validB neg xs) := by
      show (!neg) = validB neg xs
      rw [List.eq_nil_of_length_eq_zero hl.out, validB_nil]
    cases neg with
    | true =>
      go_enter Tryz.func84, Tryz.ntmps84
      go_wp2_with fail
      go_ret
      exact ⟨ret_bool HV.out, (Below.refl _ _).alloc (Nat.le_refl _) _⟩
    | false =>
      go_enter Tryz.func84, Tryz.ntmps84
      go_wp2_with fail
      go_loop [4] (fun i => i = .int .i64 0) (fun _ => 0)
      case atStart => rfl
      case round =>
        obtain rfl := hrel
        go_wp2_with fail
        go_ret
        exact ⟨ret_bool HV.out, (Below.refl _ _).alloc (Nat.le_refl _) _⟩
  · have z0 : ((n : Int) == 0) = false := by simp; omega
    by_cases h1 : 200 < n
    · have HV : Hid (false = validB neg xs) := (validB_long (by rw [hl.out]; exact h1)).symm
      have h1' : decide ((200 : Int) < (n : Int)) = true := decide_eq_true (by omega)
      go_enter Tryz.func84, Tryz.ntmps84
      go_wp2_with fail
      go_ret
      exact ⟨ret_bool HV.out, (Below.refl _ _).alloc (Nat.le_refl _) _⟩
    · have h1' : decide ((200 : Int) < (n : Int)) = false := decide_eq_false (by omega)
      obtain ⟨g, o, rfl, hg, hcs⟩ := hs.cells h0
      have hg' : ∀ k x, w.cell? ⟨g, o + k, none⟩ = some x → (w.alloc (.cells #[.bool neg, .slice (some ⟨g, o, none⟩) n c] 24)).cell? ⟨g, o + k, none⟩ = some x := fun k x hx => (World.cell?_alloc_lt w _ ⟨g, o + k, none⟩ hg).trans hx
      have HG := Lib.hid hg'
      have HC := Lib.hid hcs
      clear hg' hcs
      obtain ⟨x, hx⟩ : ∃ x, xs.getD (n - 1) 0 = x := ⟨_, rfl⟩
      have cx := HG.out (n - 1) _ (HC.out (n - 1) (by omega))
      rw [hx] at cx
      have HX := Lib.hid hx
      clear hx
      have p1 : (n : Int) - 1 < (n : Int) := by omega
      have p2 : (0 : Int) ≤ (n : Int) - 1 := by omega
      cases hxz : (x == 0) with
      | true =>
        have HV : Hid (false = validB neg xs) := (validB_top (by rw [hl.out]; exact h0) (by rw [hl.out, HX.out]; simpa using hxz)).symm
        go_enter Tryz.func84, Tryz.ntmps84
        go_wp2_with fail
        go_ret
        exact ⟨ret_bool HV.out, (Below.refl _ _).alloc (Nat.le_refl _) _⟩
      | false =>
        have HT : Hid (xs.getD (xs.length - 1) 0 ≠ 0) := by
          show _ ≠ _
          rw [hl.out, HX.out]; simpa using hxz
        go_enter Tryz.func84, Tryz.ntmps84
        go_wp2_with fail
        clear cx
        go_loop [4] (fun i => ∃ k : Nat, k ≤ n ∧ i = .int .i64 (k : Int) ∧ dOk (xs.take k)) (fun i => n - (intOf i).toNat)
        case atStart => exact ⟨0, Nat.zero_le _, rfl, by rw [List.take_zero]; exact dOk_nil⟩
        case round =>
          obtain ⟨k, hk, rfl, hd⟩ := hrel
          have HD := Lib.hid hd
          clear hd
          by_cases hlt : k < n
          · obtain ⟨y, hy⟩ : ∃ y, xs.getD k 0 = y := ⟨_, rfl⟩
            have cy := HG.out k _ (HC.out k hlt)
            rw [hy] at cy
            have HY := Lib.hid hy
            clear hy
            by_cases y0 : y < 0
            · have HV : Hid (false = validB neg xs) := (validB_bad (k := k) (by rw [hl.out]; exact hlt) (by rw [HY.out]; exact .inl y0)).symm
              go_wp2_with fail
              go_ret
              exact ⟨ret_bool HV.out, (Below.refl _ _).alloc (Nat.le_refl _) _⟩
            · by_cases y1 : 10000 ≤ y
              · have HV : Hid (false = validB neg xs) := (validB_bad (k := k) (by rw [hl.out]; exact hlt) (by rw [HY.out]; exact .inr y1)).symm
                have y0' : decide (y < 0) = false := decide_eq_false y0
                go_wp2_with fail
                go_ret
                exact ⟨ret_bool HV.out, (Below.refl _ _).alloc (Nat.le_refl _) _⟩
              · have HN := Lib.hid (dOk_take_succ (by rw [hl.out]; exact hlt) HD.out HY.out (by omega) (by omega))
                have y0' : decide (y < 0) = false := decide_eq_false y0
                go_wp2_with fail
                go_round
                case rel => exact ⟨k + 1, by omega, by go_num, HN.out⟩
                case measure => simp [intOf] <;> omega
          · obtain rfl : k = n := by omega
            have HV : Hid (true = validB neg xs) := by
              refine (validB_good (by rw [hl.out]; exact h0) (by rw [hl.out]; omega) HT.out ?_).symm
              have := HD.out
              rwa [List.take_of_length_le (by rw [hl.out]; exact Nat.le_refl _)] at this
            go_wp2_with fail
            go_ret
            exact ⟨ret_bool HV.out, (Below.refl _ _).alloc (Nat.le_refl _) _⟩

theorem rdigits_any (neg : Bool) (A : Option Addr) (n c : Nat) (xs : List Int) (w : World) (hs : Sl w A n c xs) :
    Calls Tryz.prog 72 #[.agg #[.bool neg, .slice A n c]] w fun e w' => ∃ B m d, e = .returned (.slice B m d) ∧ Sl w' B m d (lOf (zOf neg xs)) ∧ Below w.heap.size w w' := by
  have HS := Lib.hid hs
  clear hs
  cases hv : validB neg xs with
  | true =>
    have HV := Lib.hid hv
    have H2 := Lib.hid (zOf_valid hv).2
    clear hv
    go_enter Tryz.func72, Tryz.ntmps72
    go_wp2_with fail
    (refine (r2valid_any neg A n c xs _ (HS.out.alloc _)).mono ?_; rintro e w1 ⟨rfl, hb⟩)
    rw [HV.out]
    have X1 := Lib.hid ((Bx.new w (.bool neg) (.slice A n c)).below hb)
    have HB := Lib.hid (below_box1 hb)
    have c1 := X1.out.c0
    have c2 := X1.out.c1
    clear hb
    go_wp2_with fail
    go_ret
    exact ⟨A, n, c, rfl, by rw [← H2.out]; exact HS.out.below HB.out, HB.out⟩
  | false =>
    have HV := Lib.hid hv
    have H0 := Lib.hid (zOf_invalid hv)
    clear hv
    go_enter Tryz.func72, Tryz.ntmps72
    go_wp2_with fail
    (refine (r2valid_any neg A n c xs _ (HS.out.alloc _)).mono ?_; rintro e w1 ⟨rfl, hb⟩)
    rw [HV.out]
    have HB := Lib.hid (below_box1 hb)
    clear hb
    go_wp2_with fail
    go_ret
    exact ⟨none, 0, 0, rfl, by rw [H0.out, lOf_zero]; exact Sl.nil _, HB.out⟩

theorem rnegative_any (neg : Bool) (A : Option Addr) (n c : Nat) (xs : List Int) (w : World) (hs : Sl w A n c xs) :
    Calls Tryz.prog 74 #[.agg #[.bool neg, .slice A n c]] w fun e w' => e = .returned (.bool (nOf (zOf neg xs))) ∧ Below w.heap.size w w' := by
  have HS := Lib.hid hs
  clear hs
  cases hv : validB neg xs with
  | true =>
    have HV := Lib.hid hv
    have H1 := Lib.hid (zOf_valid hv).1
    clear hv
    go_enter Tryz.func74, Tryz.ntmps74
    go_wp2_with fail
    (refine (r2valid_any neg A n c xs _ (HS.out.alloc _)).mono ?_; rintro e w1 ⟨rfl, hb⟩)
    rw [HV.out]
    have X1 := Lib.hid ((Bx.new w (.bool neg) (.slice A n c)).below hb)
    have HB := Lib.hid (below_box1 hb)
    have c1 := X1.out.c0
    have c2 := X1.out.c1
    clear hb
    go_wp2_with fail
    go_ret
    exact ⟨ret_bool H1.out, HB.out⟩
  | false =>
    have HV := Lib.hid hv
    have H0 := Lib.hid (zOf_invalid hv)
    clear hv
    go_enter Tryz.func74, Tryz.ntmps74
    go_wp2_with fail
    (refine (r2valid_any neg A n c xs _ (HS.out.alloc _)).mono ?_; rintro e w1 ⟨rfl, hb⟩)
    rw [HV.out]
    have HB := Lib.hid (below_box1 hb)
    clear hb
    go_wp2_with fail
    go_ret
    exact ⟨ret_bool (by rw [H0.out, nOf_zero]), HB.out⟩

/-! ### order -/
end Go.Proofs.YtfenmogbellhdaaGreatDoor

namespace Go.Proofs.YtfenmogbellhdaaGreatDoor
open Go.RowKit

theorem own_empty (w : World) (base : Nat) (hb : base ≤ w.heap.size) : (w.alloc (.cells (ints []).toArray 3)).ownsRow base 3 1 (.slice (some ⟨w.heap.size, 0, none⟩) 0 0) 0 (ints []) :=
  ⟨rfl, .inr ⟨w.heap.size, 0, (ints []).toArray, rfl, hb, Own.new w [], Nat.le_refl _, by unfold maxLen; omega, rfl, rfl⟩⟩
theorem sl_of_own' {w : World} {base n : Nat} {v : Value} {l : List Int} (h : w.ownsRow base 3 1 v n (ints l)) : ∃ A c, v = .slice A n c ∧ Sl w A n c l := by
  have hn : n = l.length := by have := h.1; rw [ints_len] at this; omega
  subst hn
  exact sl_of_own h

theorem wpList_append_nil {P : Program} (w : World) {ops : Array Oper} {rest : List Oper} {o : Oper} {a : Act} {Q : Exit → Act → World → Prop} (hgd : o.guard = none) (s x : Operand) (t : TypeId)
    (ho : o.op = .call { callee := .builtin .append, args := #[s, x], argTypes := #[t, t] })
    (base : Nat) (e : TypeId) (i : TypeInfo) (size : Nat) (ht : P.underlying t = some (.slice e)) (hi : P.info? e = some i)
    (v : Value) (n : Nat) (xs : List Value) (hs : a.eval s = v) (hown : w.ownsRow base e size v n xs) (c : Nat) (hx : a.eval x = .slice none 0 c)
    (h : wpList P ops Q rest (a.put o.dst v) w) : wpList P ops Q (o :: rest) a w := by
  refine wpList_plain hgd fun K hK => ?_
  have hrun : (Builtin.append_ #[t, t] o.type #[v, .slice none 0 c]).run P w = .ok v w := by
    rcases hown.2 with ⟨rfl, rfl⟩ | ⟨g, cap, cur, rfl, _, _, hnc, _⟩
    · simp [Builtin.append_, run_underlying ht, sizeOf, typeInfo, hi, Builtin.lenOf, Builtin.firstCells]
    · simp [Builtin.append_, run_underlying ht, sizeOf, typeInfo, hi, Builtin.lenOf, Builtin.firstCells, hnc, storeCells]
  unfold Oper.wp
  simp [execOp, ho, resolve, invoke, builtin, hs, hx, hrun, Result.andThen]
  exact hK _ _ h

end Go.Proofs.YtfenmogbellhdaaGreatDoor

namespace Go.Proofs.YtfenmogbellhdaaGreatDoor
open Go.RowKit

def plusP (a b : List Int) (k : Nat) (c : Int) : Int := a.getD k 0 + b.getD k 0 + c
/-- After k digits of a sum. -/
structure PlusAt (a b : List Int) (k : Nat) (l : List Int) (c : Int) : Prop where
  len : l.length = k
  ok : dOk l
  lo : 0 ≤ c
  hi : c ≤ 1
  eq : val l + pw k * c = val (a.take k) + val (b.take k)
theorem PlusAt.start (a b : List Int) : PlusAt a b 0 [] 0 := ⟨rfl, dOk_nil, by omega, by omega, by simp [val]⟩
theorem PlusAt.bd {a b l : List Int} {k : Nat} {c : Int} (h : PlusAt a b k l c) (da : dOk a) (db : dOk b) : 0 ≤ plusP a b k c ∧ plusP a b k c ≤ 19999 := by
  have := dOk_getD da k
  have := dOk_getD db k
  have := h.lo
  have := h.hi
  unfold plusP
  omega
theorem PlusAt.step {a b l : List Int} {k : Nat} {c : Int} (h : PlusAt a b k l c) (da : dOk a) (db : dOk b) : PlusAt a b (k + 1) (l ++ [plusP a b k c % 10000]) (plusP a b k c / 10000) := by
  have hp := h.bd da db
  refine ⟨by rw [List.length_append, h.len]; rfl, dOk_snoc h.ok (by omega) (by omega), by omega, by omega, ?_⟩
  rw [val_snoc, h.len, val_take_succ, val_take_succ, pw_succ]
  have e := h.eq
  have e2 : pw k * (plusP a b k c % 10000) + 10000 * pw k * (plusP a b k c / 10000) = pw k * plusP a b k c := by
    have : plusP a b k c = plusP a b k c % 10000 + 10000 * (plusP a b k c / 10000) := by omega
    conv => rhs; rw [this, Int.mul_add]
    rw [← Int.mul_assoc, Int.mul_comm (pw k) 10000]
  have e3 : pw k * plusP a b k c = pw k * a.getD k 0 + pw k * b.getD k 0 + pw k * c := by unfold plusP; rw [Int.mul_add, Int.mul_add]
  omega
theorem PlusAt.done {a b l : List Int} {k : Nat} (h : PlusAt a b k l 0) (ha : a.length ≤ k) (hb : b.length ≤ k) : val l = val a + val b := by
  have := h.eq
  rw [List.take_of_length_le ha, List.take_of_length_le hb] at this
  omega

/-- After k digits of a difference. -/
structure MinAt (a b : List Int) (k : Nat) (l : List Int) (c : Int) : Prop where
  len : l.length = k
  ok : dOk l
  lo : 0 ≤ c
  hi : c ≤ 1
  eq : val l - pw k * c = val (a.take k) - val (b.take k)
theorem MinAt.start (a b : List Int) : MinAt a b 0 [] 0 := ⟨rfl, dOk_nil, by omega, by omega, by simp [val]⟩
theorem MinAt.step {a b l : List Int} {k : Nat} {c d c' : Int} (h : MinAt a b k l c) (h0 : 0 ≤ d) (h1 : d < 10000) (c0 : 0 ≤ c') (c1 : c' ≤ 1) (he : d = a.getD k 0 - b.getD k 0 - c + 10000 * c') : MinAt a b (k + 1) (l ++ [d]) c' := by
  refine ⟨by rw [List.length_append, h.len]; rfl, dOk_snoc h.ok h0 h1, c0, c1, ?_⟩
  rw [val_snoc, h.len, val_take_succ, val_take_succ, pw_succ, he, Int.mul_add, Int.mul_sub, Int.mul_sub, Int.mul_assoc]
  have e := h.eq
  have : pw k * (10000 * c') = 10000 * (pw k * c') := by rw [Int.mul_left_comm]
  omega
theorem MinAt.done {a b l : List Int} {c : Int} (h : MinAt a b a.length l c) (_da : dOk a) (db : dOk b) (hl : b.length ≤ a.length) (hle : val b ≤ val a) : val l = val a - val b := by
  have e := h.eq
  rw [List.take_of_length_le (Nat.le_refl _), List.take_of_length_le hl] at e
  have b1 := val_bd h.ok
  rw [h.len] at b1
  have b2 := val_bd db
  have b3 := val_bd _da
  have := win_eq (x := val l) (c := -c) (m := pw a.length) (v := val a - val b) (by rw [Int.mul_neg]; omega) b1.1 b1.2 (by omega) (by omega)
  exact this.1

end Go.Proofs.YtfenmogbellhdaaGreatDoor

namespace Go.Proofs.YtfenmogbellhdaaGreatDoor
open Go.RowKit

theorem val_set {l : List Int} {j : Nat} {d : Int} (h : j < l.length) : val (l.set j d) = val l + pw j * (d - l.getD j 0) := by
  have s1 := val_split (l.set j d) (j + 1) (by rw [List.length_set]; omega)
  have s2 := val_split l (j + 1) (by omega)
  rw [drop_set_succ, val_take_succ, take_set_self] at s1
  rw [val_take_succ] at s2
  have g : (l.set j d).getD j 0 = d := by simp [List.getD, h]
  rw [g] at s1
  rw [Int.mul_sub]
  omega
/-- In the round of the digit i: k digits of b are done. -/
structure TimAt (O b : List Int) (x : Int) (i k : Nat) (O' : List Int) (c : Int) : Prop where
  len : O'.length = O.length
  ok : dOk O'
  rest : O'.drop (i + k) = O.drop (i + k)
  lo : 0 ≤ c
  hi : c ≤ 9999
  eq : val O' + pw (i + k) * c = val O + pw i * (x * val (b.take k))
theorem TimAt.start {O b : List Int} {x : Int} {i : Nat} (h : dOk O) : TimAt O b x i 0 O 0 := ⟨rfl, h, rfl, by omega, by omega, by simp [val]⟩
def timP (O' b : List Int) (x : Int) (i k : Nat) (c : Int) : Int := O'.getD (i + k) 0 + x * b.getD k 0 + c
theorem mul_dig {x y : Int} (x0 : 0 ≤ x) (x1 : x < 10000) (y0 : 0 ≤ y) (y1 : y < 10000) : 0 ≤ x * y ∧ x * y ≤ 99980001 := by
  refine ⟨Int.mul_nonneg x0 y0, ?_⟩
  have a1 : x * y ≤ 9999 * y := Int.mul_le_mul_of_nonneg_right (by omega) y0
  omega
theorem TimAt.step {O b O' : List Int} {x c : Int} {i k : Nat} (h : TimAt O b x i k O' c) (hb : dOk b) (x0 : 0 ≤ x) (x1 : x < 10000) (hj : i + k < O.length) :
    TimAt O b x i (k + 1) (O'.set (i + k) (timP O' b x i k c % 10000)) (timP O' b x i k c / 10000) ∧ 0 ≤ timP O' b x i k c ∧ timP O' b x i k c ≤ 99999999 := by
  have hz := dOk_getD h.ok (i + k)
  have hy := dOk_getD hb k
  have hm := mul_dig x0 x1 hy.1 hy.2
  have := h.lo
  have := h.hi
  have hp : 0 ≤ timP O' b x i k c ∧ timP O' b x i k c ≤ 99999999 := by unfold timP; omega
  refine ⟨⟨by rw [List.length_set, h.len], dOk_set h.ok _ (by omega) (by omega), ?_, by omega, by omega, ?_⟩, hp⟩
  · rw [show i + (k + 1) = i + k + 1 by omega, drop_set_succ]
    exact drop_succ_of h.rest
  · rw [val_set (by rw [h.len]; exact hj), show i + (k + 1) = i + k + 1 by omega, pw_succ, val_take_succ]
    have e := h.eq
    generalize hP : timP O' b x i k c = p at *
    have e2 : pw (i + k) * (p % 10000) + 10000 * pw (i + k) * (p / 10000) = pw (i + k) * p := by
      have : p = p % 10000 + 10000 * (p / 10000) := by omega
      conv => rhs; rw [this, Int.mul_add]
      rw [← Int.mul_assoc, Int.mul_comm (pw (i + k)) 10000]
    have e3 : pw (i + k) * p = pw (i + k) * O'.getD (i + k) 0 + pw (i + k) * (x * b.getD k 0) + pw (i + k) * c := by
      rw [← hP]; unfold timP; rw [Int.mul_add, Int.mul_add]
    have e4 : pw i * (x * (val (b.take k) + pw k * b.getD k 0)) = pw i * (x * val (b.take k)) + pw (i + k) * (x * b.getD k 0) := by
      rw [Int.mul_add, Int.mul_add, pw_add, Int.mul_left_comm x (pw k), Int.mul_assoc]
    rw [e4, Int.mul_sub]
    omega
/-- Where the digits of b are done: the place is within, and nothing is carried beyond. -/
theorem TimAt.place_le {a O b O' : List Int} {c : Int} {i k : Nat} (hM : MulAt a b i O) (h : TimAt O b (a.getD i 0) i k O' c) (da : dOk a) (db : dOk b) (hi : i < a.length) (hk : b.length ≤ k) (hc : 0 < c) : k ≤ b.length := by
  have e := h.eq
  rw [List.take_of_length_le hk, hM.eq] at e
  have e2 : val (a.take i) * val b + pw i * (a.getD i 0 * val b) = val (a.take (i + 1)) * val b := by
    rw [val_take_succ, Int.add_mul, Int.mul_assoc]
  rw [e2] at e
  have b1 := val_bd (dOk_take da (i + 1))
  rw [List.length_take, Nat.min_eq_left (by omega)] at b1
  have b2 := val_bd db
  have lt := pw_split_lt b1.2 b2.2 b1.1
  have b3 := val_bd h.ok
  have p1 : pw (i + k) * 1 ≤ pw (i + k) * c := Int.mul_le_mul_of_nonneg_left (by omega) (Int.le_of_lt (pw_pos _))
  refine Nat.not_lt.1 fun hlt => ?_
  have := pw_mono (show i + 1 + b.length ≤ i + k by omega)
  omega
theorem TimAt.done {a O b O' : List Int} {i k : Nat} (hM : MulAt a b i O) (h : TimAt O b (a.getD i 0) i k O' 0) (hk : b.length ≤ k) : MulAt a b (i + 1) O' := by
  refine ⟨h.len.trans hM.len, h.ok, ?_⟩
  have e := h.eq
  rw [List.take_of_length_le hk, hM.eq] at e
  rw [val_take_succ, Int.add_mul, Int.mul_assoc]
  omega

end Go.Proofs.YtfenmogbellhdaaGreatDoor

namespace Go.Proofs.YtfenmogbellhdaaGreatDoor
open Go.RowKit

theorem nOf_nonneg' {z : Int} (h : 0 ≤ z) : nOf z = false := decide_eq_false (by omega)

end Go.Proofs.YtfenmogbellhdaaGreatDoor
