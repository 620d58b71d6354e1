/-
  The reference's Same, and the laws' few.
-/
import Derived.Test.YtblakndpionmgaaDoorNmF
namespace Go.Proofs.YtblakndpionmgaaDoor
open Go.RowKit

theorem teq_take {a b : List Txt} {k : Nat} (ha : k < a.length) (hb : k < b.length) (h : a.take k = b.take k) : (a.take (k + 1) = b.take (k + 1)) ↔ a.getD k [] = b.getD k [] := by
  rw [take_snoc ha, take_snoc hb, h]; simp
theorem tne_take {a b : List Txt} {k : Nat} (h : a.take k ≠ b.take k) : decide (a = b) = false := by
  rw [decide_eq_false_iff_not]
  rintro rfl
  exact h rfl
set_option maxRecDepth 100000 in
set_option maxHeartbeats 1000000 in
theorem same_any (A B : Option Addr) (n c m d : Nat) (xs ys : List Txt) (w : World) (ha : Ss w A n c xs) (hb : Ss w B m d ys) :
    Calls Tryd.prog 29 #[.slice A n c, .slice B m d] w fun e w' => e = .returned (.bool (decide (xs = ys))) ∧ Below w.heap.size w w' := by
  have HA := Lib.hid ha
  have HB := Lib.hid hb
  have la := Lib.hid ha.len
  have lb := Lib.hid hb.len
  have t1 := ha.top
  have t2 := hb.top
  have q1 := ha.cap
  have q2 := hb.cap
  by_cases hnm : n = m
  · have HNM := Lib.hid hnm
    have p1 : ((n : Int) != (m : Int)) = false := by simp [hnm]
    clear ha hb hnm
    go_enter Tryd.func29, Tryd.ntmps29
    go_wp2_with fail
    go_loopw [13] (fun iv wr => ∃ (k q : Nat), k ≤ n ∧ iv = .int .i64 (k : Int) ∧ wr = w.drewN q ∧ xs.take k = ys.take k) (fun iv _ => n - (intOf iv).toNat)
    case atStart => exact ⟨0, 0, Nat.zero_le _, rfl, rfl, rfl⟩
    case round =>
      obtain ⟨k, q, hk, rfl, rfl, heq⟩ := hrel
      have HE := Lib.hid heq
      clear heq
      by_cases hlt : k < n
      · have hkm : k < m := by have := HNM.out; omega
        obtain ⟨g, o, x, rfl, hg, hx, hxe⟩ := HA.out.at_ hlt
        obtain ⟨g', o', y, rfl, hg', hy, hye⟩ := HB.out.at_ hkm
        have HT := Lib.hid (teq_take (by rw [la.out]; exact hlt) (by rw [lb.out]; exact hkm) HE.out)
        have r1 : (k : Int) < (n : Int) := by omega
        have r2 : (k : Int) < (m : Int) := by omega
        have r3 : (0 : Int) ≤ (k : Int) := by omega
        have HX := Lib.hid hxe.out
        have HY := Lib.hid hye.out
        cases hxy : decide (x.data.toList = y.data.toList) with
        | false =>
          have hne := of_decide_eq_false hxy
          have HF : Hid (false = decide (xs = ys)) := (tne_take (k := k + 1) (fun h => hne (by rw [HX.out, HY.out]; exact HT.out.1 h))).symm
          have TB : (x.toList == y.toList) = false := txt_beq rfl hxy
          clear hne hxy hxe hye
          go_wp2_with fail
          go_quiet (fail)
          go_wp2_with fail
          go_ret
          exact ⟨nret_bool HF.out, below_drewN (below_drewN (Below.refl _ _) _) _⟩
        | true =>
          have hex := of_decide_eq_true hxy
          have HS := Lib.hid (HT.out.2 (by rw [← HX.out, ← HY.out]; exact hex))
          have TB : (x.toList == y.toList) = true := txt_beq rfl hxy
          clear hex hxy hxe hye
          go_wp2_with fail
          go_quiet (fail)
          go_wp2_with fail
          go_roundw
          case rel => exact ⟨k + 1, _, by omega, by go_num, rfl, HS.out⟩
          case measure => simp [intOf] <;> omega
      · obtain rfl : k = n := by omega
        have HF : Hid (true = decide (xs = ys)) := by
          have := HE.out
          rw [List.take_of_length_le (by rw [la.out]; exact Nat.le_refl _), List.take_of_length_le (by rw [lb.out, HNM.out]; exact Nat.le_refl _)] at this
          show true = decide (xs = ys)
          rw [decide_eq_true this]
        go_wp2_with fail
        go_ret
        exact ⟨nret_bool HF.out, below_drewN (Below.refl _ _) _⟩
  · have HF : Hid (false = decide (xs = ys)) := by
      show false = _
      rw [decide_eq_false]
      rintro rfl
      exact hnm (la.out.symm.trans lb.out)
    have p1 : ((n : Int) != (m : Int)) = true := by simp; omega
    clear ha hb hnm
    go_enter Tryd.func29, Tryd.ntmps29
    go_wp2_with fail
    go_ret
    exact ⟨nret_bool HF.out, Below.refl _ _⟩

def fewB (l : List Txt) : Bool := decide (l.length ≤ 300) && l.all (fun y => decide (y.length ≤ 300))
theorem few_of {l : List Txt} (h : fewB l = true) : Few l := by
  unfold fewB at h
  rw [Bool.and_eq_true, decide_eq_true_iff, List.all_eq_true] at h
  exact ⟨h.1, fun y hy => of_decide_eq_true (h.2 y hy)⟩
end Go.Proofs.YtblakndpionmgaaDoor
