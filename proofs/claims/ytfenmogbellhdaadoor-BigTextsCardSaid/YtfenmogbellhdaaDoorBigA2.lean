/-
  Contracts of the program's window and addTimes: n times b is added to a part of a block, in place.
-/
import Derived.Test.YtfenmogbellhdaaDoorBigA
namespace Go.Proofs.YtfenmogbellhdaaDoor
open Go.RowKit

theorem window_any (g o L c i n : Nat) (ii ni : Int) (w : World) (hii : ii = i) (hni : ni = n) (h : i + n ≤ c) (hc : c ≤ 9223372036854775807) (hn : 0 < n) :
    Calls Tryd.prog 121 #[.slice (some ⟨g, o, none⟩) L c, .int .i64 ii, .int .i64 ni] w fun e w' => e = .returned (.slice (some ⟨g, o + i, none⟩) n n) ∧ w = w' := by
  subst hii; subst hni
  have h1 : (i : Int) + (n : Int) ≤ (c : Int) := by omega
  have h2 : (i : Int) ≤ (c : Int) := by omega
  have h3 : (0 : Int) < (n : Int) := by omega
  go_enter Tryd.func121, Tryd.ntmps121
  go_wp2_with fail
  go_ret
  exact ⟨congrArg (fun m => Ending.returned (.slice (some ⟨g, o + i, none⟩) m m)) (Nat.add_sub_cancel_left i n), rfl⟩

set_option maxHeartbeats 400000 in
theorem addTimes_any (g o N cl : Nat) (A : Option Addr) (m cb : Nat) (pre l post b : List Int) (n : Int) (w : World) (ho : pre.length = o) (hN : l.length = N) (hcl : N ≤ cl) (hcl2 : cl ≤ 9223372036854775807)
    (hw : Own w g (pre ++ l ++ post)) (hl : dOk l) (hb : Sl w A m cb b) (hdb : dOk b) (hf : Far A m g) (n1 : -10000 ≤ n) (n2 : n ≤ 10000) :
    Calls Tryd.prog 123 #[.slice (some ⟨g, o, none⟩) N cl, .slice A m cb, .int .i64 n] w fun e w' => ∃ c M, e = .returned (.int .i64 c) ∧ AddAt l b n N M c ∧ Own w' g (pre ++ M ++ post) ∧ But g w w' := by
  have HO := Lib.hid ho
  have HN := Lib.hid hN
  have hm := Lib.hid hb.len
  have hm2 := hb.cap
  have hm3 := hb.top
  clear ho hN
  go_enter Tryd.func123, Tryd.ntmps123
  go_wp2_with fail
  go_loopw [7, 12] (fun v i wr => ∃ (k : Nat) (c : Int) (M : List Int), k ≤ N ∧ i = .int .i64 (k : Int) ∧ v = .int .i64 c ∧ AddAt l b n k M c ∧ Own wr g (pre ++ M ++ post) ∧ But g w wr) (fun _ i _ => N - (intOf i).toNat)
  case atStart => exact ⟨0, 0, l, Nat.zero_le _, rfl, rfl, AddAt.start hl, hw, But.refl g w⟩
  case round =>
    obtain ⟨k, c, M, hk, rfl, rfl, ha, hwn, hbt⟩ := hrel
    have HA := Lib.hid ha
    have HW := Lib.hid hwn
    have HB := Lib.hid hbt
    clear ha hwn hbt
    by_cases hlt : k < N
    · have hx0 : (pre ++ M ++ post).getD (o + k) 0 = M.getD k 0 := by
        have := HA.out.len
        rw [HN.out] at this
        unfold List.getD
        rw [List.append_assoc, List.getElem?_append_right (by rw [HO.out]; omega), HO.out, Nat.add_sub_cancel_left, List.getElem?_append_left (by omega)]
      have hln : o + k < (pre ++ M ++ post).length := by
        have := HA.out.len
        rw [HN.out] at this
        simp only [List.length_append, HO.out]; omega
      have hc1 := HW.out.cell hln
      rw [hx0] at hc1
      have hfz := HW.out.frozen (o + k)
      have hst : Hid (∀ x : Int, Own (wr.setCell ⟨g, o + k, none⟩ (.int .i64 x)) g (pre ++ M.set k x ++ post)) := fun x => by
        have e : pre ++ M.set k x ++ post = (pre ++ M ++ post).set (o + k) x := by
          have := HA.out.len
          rw [HN.out] at this
          rw [List.append_assoc, List.append_assoc, List.set_append_right _ _ (by rw [HO.out]; omega), HO.out, Nat.add_sub_cancel_left, List.set_append_left _ _ (by omega)]
        rw [e]
        exact HW.out.set_ (o + k) x
      have pb := HA.out.place_bd hdb n1 n2
      have st := Lib.hid (HA.out.step hdb n1 n2 (show k < l.length by rw [HN.out]; exact hlt))
      have lo := HA.out.lo
      have hi := HA.out.hi
      have mb := dOk_getD HA.out.ok k
      have PE : Hid (place M b n k c = M.getD k 0 + c + n * b.getD k 0) := rfl
      clear hx0 hln
      generalize M.getD k 0 = x at *
      obtain ⟨mb1, mb2⟩ := mb
      by_cases hkm : k < m
      · obtain ⟨g', o', y, rfl, hg', hy, hyx⟩ := (hb.but HB.out hf).at_ hkm
        have bd := dOk_getD hdb k
        rw [hyx.out] at bd PE
        obtain ⟨bd1, bd2⟩ := bd
        obtain ⟨q1, q2⟩ := mul_digit n1 n2 bd1 bd2
        have PE' := PE.out
        generalize place M b n k c = p at *
        obtain ⟨pb1, pb2⟩ := pb
        have pb3 : -100000001 ≤ x + c + n * y := by omega
        have pb4 : x + c + n * y ≤ 100010000 := by omega
        clear PE'
        go_wp2_with fail
        refine (split_any _ _ (by omega) (by omega)).mono ?_
        rintro e w' ⟨rfl, rfl⟩
        go_wp2_with fail
        go_roundw
        case rel => exact ⟨k + 1, _, _, by omega, by go_num, rfl, by rw [← PE.out]; exact st.out, hst.out _, HB.out.setCell _ _⟩
        case measure => simp [intOf] <;> omega
      · have y0 : b.getD k 0 = 0 := by
          have := hm.out
          simp [List.getD, show b.length ≤ k by omega]
        rw [y0, Int.mul_zero, Int.add_zero] at PE
        have PE' := PE.out
        generalize place M b n k c = p at *
        obtain ⟨pb1, pb2⟩ := pb
        have pb3 : -100000001 ≤ x + c := by omega
        have pb4 : x + c ≤ 100010000 := by omega
        clear PE' y0
        go_wp2_with fail
        refine (split_any _ _ (by omega) (by omega)).mono ?_
        rintro e w' ⟨rfl, rfl⟩
        go_wp2_with fail
        go_roundw
        case rel => exact ⟨k + 1, _, _, by omega, by go_num, rfl, by rw [← PE.out]; exact st.out, hst.out _, HB.out.setCell _ _⟩
        case measure => simp [intOf] <;> omega
    · obtain rfl : k = N := by omega
      go_wp2_with fail
      go_ret
      exact ⟨c, M, rfl, HA.out, HW.out, HB.out⟩
end Go.Proofs.YtfenmogbellhdaaDoor
