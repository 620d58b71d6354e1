/-
  Contract of the reference's times.
-/
import Derived.Test.YtfkfbomllkpjjaaDoorBigR3
import Derived.Deep.LoopGhost
namespace Go.Proofs.YtfkfbomllkpjjaaDoor
open Go.RowKit

theorem val_set {l : List Int} {j : Nat} {d : Int} (h : j < l.length) : val (l.set j d) = val l + pw j * (d - l.getD j 0) := by
  have s1 := val_split (l.set j d) (j + 1) (by rw [List.length_set]; omega)
  have s2 := val_split l (j + 1) (by omega)
  rw [drop_set_succ, val_take_succ, take_set_self] at s1
  rw [val_take_succ] at s2
  have g : (l.set j d).getD j 0 = d := by simp [List.getD, h]
  rw [g] at s1
  rw [Int.mul_sub]
  omega
/-- In the round of the digit i: k digits of b are done. -/
structure TimAt (O b : List Int) (x : Int) (i k : Nat) (O' : List Int) (c : Int) : Prop where
  len : O'.length = O.length
  ok : dOk O'
  rest : O'.drop (i + k) = O.drop (i + k)
  lo : 0 ≤ c
  hi : c ≤ 9999
  eq : val O' + pw (i + k) * c = val O + pw i * (x * val (b.take k))
theorem TimAt.start {O b : List Int} {x : Int} {i : Nat} (h : dOk O) : TimAt O b x i 0 O 0 := ⟨rfl, h, rfl, by omega, by omega, by simp [val]⟩
def timP (O' b : List Int) (x : Int) (i k : Nat) (c : Int) : Int := O'.getD (i + k) 0 + x * b.getD k 0 + c
theorem mul_dig {x y : Int} (x0 : 0 ≤ x) (x1 : x < 10000) (y0 : 0 ≤ y) (y1 : y < 10000) : 0 ≤ x * y ∧ x * y ≤ 99980001 := by
  refine ⟨Int.mul_nonneg x0 y0, ?_⟩
  have a1 : x * y ≤ 9999 * y := Int.mul_le_mul_of_nonneg_right (by omega) y0
  omega
theorem TimAt.step {O b O' : List Int} {x c : Int} {i k : Nat} (h : TimAt O b x i k O' c) (hb : dOk b) (x0 : 0 ≤ x) (x1 : x < 10000) (hj : i + k < O.length) :
    TimAt O b x i (k + 1) (O'.set (i + k) (timP O' b x i k c % 10000)) (timP O' b x i k c / 10000) ∧ 0 ≤ timP O' b x i k c ∧ timP O' b x i k c ≤ 99999999 := by
  have hz := dOk_getD h.ok (i + k)
  have hy := dOk_getD hb k
  have hm := mul_dig x0 x1 hy.1 hy.2
  have := h.lo
  have := h.hi
  have hp : 0 ≤ timP O' b x i k c ∧ timP O' b x i k c ≤ 99999999 := by unfold timP; omega
  refine ⟨⟨by rw [List.length_set, h.len], dOk_set h.ok _ (by omega) (by omega), ?_, by omega, by omega, ?_⟩, hp⟩
  · rw [show i + (k + 1) = i + k + 1 by omega, drop_set_succ]
    exact drop_succ_of h.rest
  · rw [val_set (by rw [h.len]; exact hj), show i + (k + 1) = i + k + 1 by omega, pw_succ, val_take_succ]
    have e := h.eq
    generalize hP : timP O' b x i k c = p at *
    have e2 : pw (i + k) * (p % 10000) + 10000 * pw (i + k) * (p / 10000) = pw (i + k) * p := by
      have : p = p % 10000 + 10000 * (p / 10000) := by omega
      conv => rhs; rw [this, Int.mul_add]
      rw [← Int.mul_assoc, Int.mul_comm (pw (i + k)) 10000]
    have e3 : pw (i + k) * p = pw (i + k) * O'.getD (i + k) 0 + pw (i + k) * (x * b.getD k 0) + pw (i + k) * c := by
      rw [← hP]; unfold timP; rw [Int.mul_add, Int.mul_add]
    have e4 : pw i * (x * (val (b.take k) + pw k * b.getD k 0)) = pw i * (x * val (b.take k)) + pw (i + k) * (x * b.getD k 0) := by
      rw [Int.mul_add, Int.mul_add, pw_add, Int.mul_left_comm x (pw k), Int.mul_assoc]
    rw [e4, Int.mul_sub]
    omega
/-- Where the digits of b are done: the place is within, and nothing is carried beyond. -/
theorem TimAt.place_le {a O b O' : List Int} {c : Int} {i k : Nat} (hM : MulAt a b i O) (h : TimAt O b (a.getD i 0) i k O' c) (da : dOk a) (db : dOk b) (hi : i < a.length) (hk : b.length ≤ k) (hc : 0 < c) : k ≤ b.length := by
  have e := h.eq
  rw [List.take_of_length_le hk, hM.eq] at e
  have e2 : val (a.take i) * val b + pw i * (a.getD i 0 * val b) = val (a.take (i + 1)) * val b := by
    rw [val_take_succ, Int.add_mul, Int.mul_assoc]
  rw [e2] at e
  have b1 := val_bd (dOk_take da (i + 1))
  rw [List.length_take, Nat.min_eq_left (by omega)] at b1
  have b2 := val_bd db
  have lt := pw_split_lt b1.2 b2.2 b1.1
  have b3 := val_bd h.ok
  have p1 : pw (i + k) * 1 ≤ pw (i + k) * c := Int.mul_le_mul_of_nonneg_left (by omega) (Int.le_of_lt (pw_pos _))
  refine Nat.not_lt.1 fun hlt => ?_
  have := pw_mono (show i + 1 + b.length ≤ i + k by omega)
  omega
theorem TimAt.done {a O b O' : List Int} {i k : Nat} (hM : MulAt a b i O) (h : TimAt O b (a.getD i 0) i k O' 0) (hk : b.length ≤ k) : MulAt a b (i + 1) O' := by
  refine ⟨h.len.trans hM.len, h.ok, ?_⟩
  have e := h.eq
  rw [List.take_of_length_le hk, hM.eq] at e
  rw [val_take_succ, Int.add_mul, Int.mul_assoc]
  omega

set_option maxHeartbeats 2000000 in
theorem times_any (A B : Option Addr) (n cn m cm : Nat) (a b : List Int) (w : World) (ha : Sl w A n cn a) (hb : Sl w B m cm b) (da : dOk a) (db : dOk b) (n1 : n ≤ 1000) (m1 : m ≤ 1000) :
    Calls Tryd.prog 55 #[.slice A n cn, .slice B m cm] w fun e w' => ∃ R k r, e = .returned (.slice R k r) ∧ Sl w' R k r (digs (val a * val b).toNat) ∧ Below w.heap.size w w' := by
  have la := Lib.hid ha.len
  have lb := Lib.hid hb.len
  have hq := ha.cap
  have hq2 := hb.cap
  have ht := ha.top
  have ht2 := hb.top
  have hmk : ∀ W : World, (Instr.makeSlice 22 (.int .i64 ((n : Int) + (m : Int))) (.int .i64 ((n : Int) + (m : Int)))).run Tryd.prog W = .ok (.slice (some ⟨W.heap.size, 0, none⟩) (n + m) (n + m)) (W.alloc (.cells (ints (List.replicate (n + m) 0)).toArray 3)) := fun W => by
    have := run_mk (n + m) (by omega) W
    rwa [Int.natCast_add] at this
  have HS : Hid (MulAt a b 0 (List.replicate (n + m) 0)) := by rw [← la.out, ← lb.out]; exact MulAt.start a b
  have HOS := Lib.hid (Own.new w (List.replicate (n + m) 0))
  have HBS : Hid (Below w.heap.size w (w.alloc (.cells (ints (List.replicate (n + m) 0)).toArray 3))) := (Below.refl _ _).alloc (Nat.le_refl _) _
  go_enter Tryd.func55, Tryd.ntmps55
  go_wp2_with fail
  generalize w.alloc (.cells (ints (List.replicate (n + m) 0)).toArray 3) = w0 at *
  obtain ⟨g, hg⟩ : ∃ g, w.heap.size = g := ⟨_, rfl⟩
  rw [hg] at HOS
  have HG := Lib.hid hg
  rw [hg]
  clear hg hmk
  go_loopw [6] (fun iv wr => ∃ (i : Nat) (O : List Int), i ≤ n ∧ iv = .int .i64 (i : Int) ∧ MulAt a b i O ∧ Own wr g O ∧ Below w.heap.size w wr) (fun iv _ => n - (intOf iv).toNat)
  case atStart => exact ⟨0, _, Nat.zero_le _, rfl, HS.out, HOS.out, HBS.out⟩
  case round =>
    obtain ⟨i, O, hi, rfl, hM, hO, hB⟩ := hrel
    have HM := Lib.hid hM
    have HO := Lib.hid hO
    have HB := Lib.hid hB
    clear hM hO hB
    have HOL : Hid (O.length = n + m) := by rw [← la.out, ← lb.out]; exact HM.out.len
    by_cases hlt : i < n
    · obtain ⟨x, hx⟩ : ∃ x, a.getD i 0 = x := ⟨_, rfl⟩
      have bx := dOk_getD da i
      rw [hx] at bx
      have HX := Lib.hid hx
      obtain ⟨x0, x1⟩ := bx
      clear hx
      go_wp2_with fail
      obtain ⟨wo, rfl⟩ : ∃ wo : World, wo = wr := ⟨_, rfl⟩
      go_loopw [7, 8] (fun cv kv wr => ∃ (k : Nat) (c : Int) (O' : List Int), k ≤ m + 1 ∧ kv = .int .i64 (k : Int) ∧ cv = .int .i64 c ∧ TimAt O b x i k O' c ∧ Own wr g O' ∧ Below w.heap.size w wr) (fun _ kv _ => m + 2 - (intOf kv).toNat)
      case atStart => exact ⟨0, 0, O, by omega, rfl, rfl, TimAt.start HM.out.ok, HO.out, HB.out⟩
      case round =>
        obtain ⟨k, c, O', hk, rfl, rfl, hT, hO, hB⟩ := hrel
        have HT := Lib.hid hT
        have HO' := Lib.hid hO
        have HB' := Lib.hid hB
        clear hT hO hB
        have c0 := HT.out.lo
        have c1 := HT.out.hi
        by_cases hgo : k < m ∨ 0 < c
        · have hkm : k ≤ m := by
            rcases hgo with h | h
            · omega
            · rcases Nat.lt_or_ge k m with h' | h'
              · omega
              · have := TimAt.place_le HM.out (show TimAt O b (a.getD i 0) i k O' c by rw [HX.out]; exact HT.out) da db (by rw [la.out]; exact hlt) (by rw [lb.out]; exact h') h
                rw [lb.out] at this; exact this
          obtain ⟨ST, p0, p1⟩ := HT.out.step db x0 x1 (show i + k < O.length by rw [HOL.out]; omega)
          have HST := Lib.hid ST
          have HPE : Hid (O'.getD (i + k) 0 + x * b.getD k 0 + c = timP O' b x i k c) := rfl
          have hol : i + k < O'.length := by rw [HT.out.len, HOL.out]; omega
          obtain ⟨z, hz⟩ : ∃ z, O'.getD (i + k) 0 = z := ⟨_, rfl⟩
          obtain ⟨y, hy⟩ : ∃ y, b.getD k 0 = y := ⟨_, rfl⟩
          have hcell := HO'.out.cell hol
          have hfz := HO'.out.frozen (i + k)
          have bz := dOk_getD HT.out.ok (i + k)
          have by_ := dOk_getD db k
          rw [hz] at HPE hcell bz
          rw [hy] at HPE by_
          have HY := Lib.hid hy
          obtain ⟨z0, z1⟩ := bz
          obtain ⟨y0, y1⟩ := by_
          obtain ⟨m0, m1'⟩ := mul_dig x0 x1 y0 y1
          obtain ⟨ga, oa, x', rfl, hga, hxc, hxe⟩ := (ha.below HB'.out).at_ hlt
          obtain rfl : x' = x := by have := hxe.out; rw [HX.out] at this; exact this.symm
          have HSTO : Hid (Own (wr.setCell ⟨g, i + k, none⟩ (.int .i64 (timP O' b x' i k c % 10000))) g (O'.set (i + k) (timP O' b x' i k c % 10000))) := HO'.out.set_ (i + k) _
          clear hz hy hxe ST
          generalize timP O' b x' i k c = p at *
          have pe0 : 0 ≤ z + x' * y + c := by have := HPE.out; omega
          have pe1 : z + x' * y + c ≤ 99999999 := by have := HPE.out; omega
          have w1 : IntKind.i64.wrap ((i : Int) + (k : Int)) = (i : Int) + (k : Int) := IntWalk.i64_in _ (by omega)
          have w2 : IntKind.i64.wrap (x' * y) = x' * y := IntWalk.i64_in _ (by omega)
          have w3 : IntKind.i64.wrap (z + x' * y) = z + x' * y := IntWalk.i64_in _ (by omega)
          have w4 : IntKind.i64.wrap (z + x' * y + c) = z + x' * y + c := IntWalk.i64_in _ (by omega)
          have g1 : (i : Int) + (k : Int) < (n : Int) + (m : Int) := by omega
          have g2 : (0 : Int) ≤ (i : Int) + (k : Int) := by omega
          have g3 : (i : Int) < (n : Int) := by omega
          have g4 : (0 : Int) ≤ (i : Int) := by omega
          have g5 : ((i : Int) + (k : Int)).toNat = i + k := by omega
          have g6 : (i : Int) + (k : Int) < ((n + m : Nat) : Int) := by omega
          have DG : Hid (∀ q, Calls Tryd.prog 69 #[.slice B m cm, .int .i64 (k : Int)] (wr.drewN q) fun e w' => e = .returned (.int .i64 y) ∧ wr.drewN q = w') := fun q => by
            have := digit_any B m cm b k (k : Int) (wr.drewN q) ((hb.below HB'.out).drewN q) rfl
            rwa [HY.out] at this
          have W1 := Lib.hid w1
          have W2 := Lib.hid w2
          have W3 := Lib.hid w3
          have W4 := Lib.hid w4
          have G5 := Lib.hid g5
          rcases Nat.lt_or_ge k m with h | h
          case' inl => have t1 : (k : Int) < (m : Int) := by omega
          case' inr =>
            have t1 : decide ((k : Int) < (m : Int)) = false := decide_eq_false (by omega)
            have t2 : 0 < c := by omega
          all_goals
            clear w1 w2 w3 w4 g5
            go_upto_region 9 with fail
            have w1 := W1.out
            have w2 := W2.out
            have w3 := W3.out
            have w4 := W4.out
            have g5 := G5.out
            go_quiet ((go_at_call 69; exact quiet_left (DG.out _)))
            clear w1 w2 w3 w4 g5
            go_wp2_with fail
            go_roundw
            case rel => exact ⟨k + 1, _, _, by omega, by go_num, rfl, (by have := HST.out; rw [← HPE.out] at this; exact this), (by have := HSTO.out; rw [← HPE.out] at this; exact this), (below_drewN HB'.out nq).setCell (by rw [HG.out]; exact Nat.le_refl _) _⟩
            case measure => simp [intOf] <;> omega
        · have hk2 : m ≤ k := by omega
          obtain rfl : c = 0 := by omega
          have DN := Lib.hid (TimAt.done HM.out (show TimAt O b (a.getD i 0) i k O' 0 by rw [HX.out]; exact HT.out) (by rw [lb.out]; exact hk2))
          have t1 : decide ((k : Int) < (m : Int)) = false := decide_eq_false (by omega)
          clear hgo c0 c1
          go_wp2_with fail
          go_roundw
          case rel => exact ⟨i + 1, O', by omega, by go_num, DN.out, HO'.out, HB'.out⟩
          case measure => simp [intOf] <;> omega
    · obtain rfl : i = n := by omega
      have FIN : Hid (val O = val a * val b) := by
        have := HM.out.eq
        rwa [List.take_of_length_le (by rw [la.out]; exact Nat.le_refl _)] at this
      have hol := HOL.out
      have HSL := Lib.hid (HO.out.all HOL.out (Nat.le_refl _) (by omega))
      clear hol
      go_wp2_with fail
      (refine (rtrim_any (some ⟨g, 0, none⟩) (i + m) (i + m) O _ HSL.out (by omega) HM.out.ok).mono ?_; rintro e w3 ⟨R, k, r, rfl, hR, hb⟩)
      rw [FIN.out] at hR
      have HR := Lib.hid hR
      have HBB := Lib.hid (below_up HB.out hb)
      clear hR hb
      go_wp2_with fail
      go_ret
      exact ⟨R, k, r, rfl, HR.out, HBB.out⟩
end Go.Proofs.YtfkfbomllkpjjaaDoor
