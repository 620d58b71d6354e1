/-
  Contracts of the reference's Same and Long.
-/
import Derived.Test.YtfenmogbellhdaaDoorBigG
namespace Go.Proofs.YtfenmogbellhdaaDoor
open Go.RowKit

theorem long_any (na : Bool) (A : Option Addr) (n c : Nat) (most : Int) (w : World) :
    Calls Tryd.prog 31 #[.agg #[.bool na, .slice A n c], .int .i64 most] w fun e w' => e = .returned (.bool (decide (most < (n : Int)))) ∧ Below w.heap.size w w' := by
  go_enter Tryd.func31, Tryd.ntmps31
  go_wp2_with fail
  go_ret
  exact ⟨rfl, (Below.refl _ _).alloc (Nat.le_refl _) _⟩

theorem eq_take {a b : List Int} {k : Nat} {x y : Int} (ha : k < a.length) (hb : k < b.length) (hx : a.getD k 0 = x) (hy : b.getD k 0 = y) (h : a.take k = b.take k) : (a.take (k + 1) = b.take (k + 1)) ↔ x = y := by
  rw [take_succ_at a ha, take_succ_at b hb, h]
  have e1 : a[k] = x := by simpa [List.getD, ha] using hx
  have e2 : b[k] = y := by simpa [List.getD, hb] using hy
  rw [e1, e2]
  simp
theorem ne_of_take {a b : List Int} {k : Nat} (h : a.take k ≠ b.take k) : (a == b) = false := by
  rw [beq_eq_false_iff_ne]
  rintro rfl
  exact h rfl

set_option maxRecDepth 100000 in
set_option maxHeartbeats 1000000 in
theorem same_len (s : Bool) (A B : Option Addr) (n c m d : Nat) (xs ys : List Int) (w : World) (ha : Sl w A n c xs) (hb : Sl w B m d ys) (hnm : n = m) :
    Calls Tryd.prog 35 #[.agg #[.bool s, .slice A n c], .agg #[.bool s, .slice B m d]] w fun e w' => e = .returned (.bool (xs == ys)) ∧ Below w.heap.size w w' := by
  have HA := Lib.hid ha
  have HB := Lib.hid hb
  have la := Lib.hid ha.len
  have lb := Lib.hid hb.len
  have t1 := ha.top
  have t2 := hb.top
  have q1 := ha.cap
  have q2 := hb.cap
  have HNM := Lib.hid hnm
  have p1 : ((n : Int) != (m : Int)) = false := by simp [hnm]
  clear ha hb hnm
  go_enter Tryd.func35, Tryd.ntmps35
  have X1 := Lib.hid ((Bx.new w (.bool s) (.slice A n c)).alloc (.cells #[.bool s, .slice B m d] 35))
  have X2 := Lib.hid (Bx.new (w.alloc (.cells #[.bool s, .slice A n c] 35)) (.bool s) (.slice B m d))
  have BW : Hid (Below w.heap.size w ((w.alloc (.cells #[.bool s, .slice A n c] 35)).alloc (.cells #[.bool s, .slice B m d] 35))) := ((Below.refl _ _).alloc (Nat.le_refl _) _).alloc (by simp) _
  rw [alloc_sz] at X2
  go_upto_region 1 with fail
  generalize (w.alloc (.cells #[.bool s, .slice A n c] 35)).alloc (.cells #[.bool s, .slice B m d] 35) = W at *
  have c1 := X1.out.c0
  have c2 := X1.out.c1
  have c3 := X2.out.c0
  have c4 := X2.out.c1
  go_wp2_with fail
  go_loopw [5] (fun iv wr => ∃ (k q : Nat), k ≤ n ∧ iv = .int .i64 (k : Int) ∧ wr = W.drewN q ∧ xs.take k = ys.take k) (fun iv _ => n - (intOf iv).toNat)
  case atStart => exact ⟨0, 0, Nat.zero_le _, rfl, rfl, rfl⟩
  case round =>
    obtain ⟨k, q, hk, rfl, rfl, heq⟩ := hrel
    have HE := Lib.hid heq
    clear heq
    by_cases hlt : k < n
    · have hkm : k < m := by have := HNM.out; omega
      obtain ⟨g, o, x, rfl, hg, hx, hxe⟩ := (HA.out.below BW.out).at_ hlt
      obtain ⟨g', o', y, rfl, hg', hy, hye⟩ := (HB.out.below BW.out).at_ hkm
      have HT := Lib.hid (eq_take (by rw [la.out]; exact hlt) (by rw [lb.out]; exact hkm) hxe.out hye.out HE.out)
      have r1 : (k : Int) < (n : Int) := by omega
      have r2 : (k : Int) < (m : Int) := by omega
      have r3 : (0 : Int) ≤ (k : Int) := by omega
      cases hxy : (x != y) with
      | true =>
        have HF : Hid (false = (xs == ys)) := (ne_of_take (k := k + 1) (fun h => by have := HT.out.1 h; simp [this] at hxy)).symm
        go_wp2_with fail
        go_quiet (fail)
        go_wp2_with fail
        go_ret
        exact ⟨ret_bool HF.out, below_drewN (below_drewN BW.out _) _⟩
      | false =>
        have HS := Lib.hid (HT.out.2 (by simpa using hxy))
        go_wp2_with fail
        go_quiet (fail)
        go_wp2_with fail
        go_roundw
        case rel => exact ⟨k + 1, _, by omega, by go_num, rfl, HS.out⟩
        case measure => simp [intOf] <;> omega
    · obtain rfl : k = n := by omega
      have HF : Hid (true = (xs == ys)) := by
        have := HE.out
        rw [List.take_of_length_le (by rw [la.out]; exact Nat.le_refl _), List.take_of_length_le (by rw [lb.out, HNM.out]; exact Nat.le_refl _)] at this
        show true = (xs == ys)
        rw [this]; simp
      go_wp2_with fail
      go_ret
      exact ⟨ret_bool HF.out, below_drewN BW.out _⟩

/-- Same: the same sign and the same digits. -/
theorem same_any (na nb : Bool) (A B : Option Addr) (n c m d : Nat) (xs ys : List Int) (w : World) (ha : Sl w A n c xs) (hb : Sl w B m d ys) :
    Calls Tryd.prog 35 #[.agg #[.bool na, .slice A n c], .agg #[.bool nb, .slice B m d]] w fun e w' => e = .returned (.bool (na == nb && xs == ys)) ∧ Below w.heap.size w w' := by
  have t1 := ha.top
  have t2 := hb.top
  have q1 := ha.cap
  have q2 := hb.cap
  by_cases hnm : n = m
  · cases na <;> cases nb
    · exact (same_len false A B n c m d xs ys w ha hb hnm).mono fun e w' h => h
    · go_enter Tryd.func35, Tryd.ntmps35
      go_wp2_with fail
      go_ret
      exact ⟨rfl, ((Below.refl _ _).alloc (Nat.le_refl _) _).alloc (by simp) _⟩
    · go_enter Tryd.func35, Tryd.ntmps35
      go_wp2_with fail
      go_ret
      exact ⟨rfl, ((Below.refl _ _).alloc (Nat.le_refl _) _).alloc (by simp) _⟩
    · exact (same_len true A B n c m d xs ys w ha hb hnm).mono fun e w' h => h
  · have p1 : ((n : Int) != (m : Int)) = true := by simp; omega
    have HF : Hid (false = (na == nb && xs == ys)) := by
      have : (xs == ys) = false := by
        rw [beq_eq_false_iff_ne]
        rintro rfl
        exact hnm (ha.len.symm.trans hb.len)
      show false = _
      rw [this, Bool.and_false]
    clear hnm ha hb
    cases na <;> cases nb <;>
    · go_enter Tryd.func35, Tryd.ntmps35
      go_wp2_with fail
      go_ret
      exact ⟨ret_bool HF.out, ((Below.refl _ _).alloc (Nat.le_refl _) _).alloc (by simp) _⟩
end Go.Proofs.YtfenmogbellhdaaDoor
