/-
  The reference's Fresh.
-/
import Derived.Test.YtfenmogbellhdaaDoorNmT
import Derived.Test.YtfenmogbellhdaaDoorNmRA
namespace Go.Proofs.YtfenmogbellhdaaDoor
open Go.RowKit

set_option maxHeartbeats 1000000 in
theorem rfresh_any (A : Option Addr) (n c : Nat) (ss : List Txt) (s : ByteArray) (w : World) (hs : Ss w A n c ss) (hf : Few ss) :
    Calls Tryd.prog 27 #[.slice A n c, .string s] w fun e w' => ∃ x : ByteArray, e = .returned (.string x) ∧ IsFresh ss s.data.toList x.data.toList ∧ Below w.heap.size w w' := by
  have HS := Lib.hid hs
  have HF := Lib.hid hf
  clear hs hf
  go_enter Tryd.func27, Tryd.ntmps27
  go_wp2_with fail
  go_loopw [5, 6] (fun sv iv wr => ∃ (k : Nat) (x : ByteArray), k ≤ 300 ∧ iv = .int .i64 ((k : Int) + 1) ∧ sv = .string x ∧ x.data.toList = cand s.data.toList k ∧ (∀ j, j < k → cand s.data.toList j ∈ ss) ∧ Below w.heap.size w wr) (fun _ iv _ => 302 - (intOf iv).toNat)
  case atStart => exact ⟨0, s, by omega, rfl, rfl, rfl, fun j hj => absurd hj (by omega), Below.refl _ _⟩
  case round =>
    obtain ⟨k, x, hk, rfl, rfl, hx, hall, hb⟩ := hrel
    have HX := Lib.hid hx
    have HA := Lib.hid hall
    have HB := Lib.hid hb
    have CF := rfind_any A n c ss x wr (HS.out.below hb)
    rw [hx] at CF
    clear hx hall hb
    by_cases hm : cand s.data.toList k ∈ ss
    · have hz : ¬ findI ss (cand s.data.toList k) < 0 := fun h => findI_neg.1 h hm
      have hall2 : ∀ j, j < k + 1 → cand s.data.toList j ∈ ss := fun j hj => by
        by_cases e : j = k
        · rw [e]; exact hm
        · exact HA.out j (by omega)
      have hk3 : k + 1 ≤ 300 := Nat.le_trans (cand_le hall2) HF.out.1
      have HA2 := Lib.hid hall2
      have hs3 : s.size ≤ 300 := by
        have h0 := hall2 0 (by omega)
        rw [cand_zero] at h0
        rw [size_list]; exact HF.out.2 _ h0
      have HK : Hid (k + 1 ≠ 0) := by show k + 1 ≠ 0; omega
      generalize findI ss (cand s.data.toList k) = z at *
      have hz2 : (0 : Int) ≤ z := by omega
      clear hall2 hm hz
      go_wp2_with fail
      ((with_reducible refine CF.mono ?_); rintro e wx ⟨rfl, rfl⟩)
      go_wp2_with fail
      (refine (rtext_any ((k : Int) + 1) _ (by omega) (by omega)).mono ?_); rintro e wt ⟨rfl, hb⟩
      have HB2 := Lib.hid (nbelow_on HB.out hb)
      obtain ⟨y, hy⟩ : ∃ y : ByteArray, (⟨(Lib.itoa ((k : Int) + 1)).toArray⟩ : ByteArray) = y := ⟨_, rfl⟩
      rw [hy]
      have hys : y.size ≤ 21 := by rw [← hy, size_list]; exact Lib.itoa_length_le ((k : Int) + 1) (by omega) (by omega)
      have HX2 : Hid ((s ++ y).data.toList = cand s.data.toList (k + 1)) := by show _ = _; rw [cat_list, ← hy, cand_pos _ HK.out]; rfl
      clear hb hy
      go_wp2_with fail
      go_round
      case rel => exact ⟨k + 1, _, hk3, by go_num, rfl, HX2.out, HA2.out, HB2.out⟩
      case measure => simp [intOf] <;> omega
    · have hz : findI ss (cand s.data.toList k) < 0 := findI_neg.2 hm
      have HM := Lib.hid hm
      generalize findI ss (cand s.data.toList k) = z at *
      have hz2 : ¬ (0 : Int) ≤ z := by omega
      clear hm
      go_wp2_with fail
      ((with_reducible refine CF.mono ?_); rintro e wx ⟨rfl, rfl⟩)
      go_wp2_with fail
      go_ret
      exact ⟨x, rfl, ⟨k, HX.out, by rw [HX.out]; exact HM.out, HA.out⟩, HB.out⟩
end Go.Proofs.YtfenmogbellhdaaDoor
