/-
  The reference's Find and Distinct.
-/
import Derived.Test.YtegognbnphpigaaDoorNmC
namespace Go.Proofs.YtegognbnphpigaaDoor
open Go.RowKit

theorem txt_beq2 {s x : ByteArray} {l : Txt} {b : Bool} (hx : x.data.toList = l) (h : decide (s.data.toList = l) = b) : (x.toList == s.toList) = b := by
  rw [← h, tolist_eq, tolist_eq, Bool.eq_iff_iff, beq_iff_eq, decide_eq_true_iff, hx]
  exact eq_comm
theorem rfind_any (A : Option Addr) (n c : Nat) (ss : List Txt) (s : ByteArray) (w : World) (hs : Ss w A n c ss) : Calls Tryd.prog 75 #[.slice A n c, .string s] w fun e w' => e = .returned (.int .i64 (findI ss s.data.toList)) ∧ w = w' := by
  have HS := Lib.hid hs
  have h47 : n ≤ 9223372036854775807 := Nat.le_trans hs.cap hs.top
  clear hs
  go_enter Tryd.func75, Tryd.ntmps75
  go_wp2_with fail
  go_loop [8] (fun i => ∃ k : Nat, k ≤ n ∧ i = .int .i64 (k : Int) ∧ s.data.toList ∉ ss.take k) (fun i => n - (intOf i).toNat)
  case atStart => exact ⟨0, Nat.zero_le _, rfl, by simp⟩
  case round =>
    obtain ⟨k, hk, rfl, ha⟩ := hrel
    have HA := Lib.hid ha
    clear ha
    by_cases hlt : k < n
    · obtain ⟨g, o, x, rfl, hg, hc, hx⟩ := HS.out.at_ hlt
      have HX := Lib.hid hx.out
      have HLT := Lib.hid hlt
      have q1 : (k : Int) < n := by omega
      clear hx hg
      cases hd : decide (s.data.toList = ss.getD k []) with
      | true =>
        have HD := Lib.hid hd
        have TB : (x.toList == s.toList) = true := txt_beq2 HX.out hd
        clear hd
        go_wp2_with fail
        go_ret
        exact ⟨nret_int (findI_at (by rw [HS.out.len]; exact HLT.out) (of_decide_eq_true HD.out).symm HA.out).symm, rfl⟩
      | false =>
        have HD := Lib.hid hd
        have TB : (x.toList == s.toList) = false := txt_beq2 HX.out hd
        clear hd
        go_wp2_with fail
        go_round
        case rel => exact ⟨k + 1, by omega, by go_num, not_mem_snoc (by rw [HS.out.len]; exact HLT.out) (fun e => of_decide_eq_false HD.out e.symm) HA.out⟩
        case measure => simp [intOf] <;> omega
    · have hke : k = n := by omega
      subst hke
      go_wp2_with fail
      go_ret
      exact ⟨nret_int (findI_no (by have := HA.out; rwa [List.take_of_length_le (by rw [HS.out.len]; exact Nat.le_refl _)] at this)).symm, rfl⟩
theorem find_self {l : List Txt} {k : Nat} (hk : k < l.length) : findI l (l.getD k []) = k ↔ l.getD k [] ∉ l.take k := by
  constructor
  · intro h hm
    have h1 : l.idxOf (l.getD k []) = (l.take k).idxOf (l.getD k []) := by
      have e := List.idxOf_append (a := l.getD k []) (l₁ := l.take k) (l₂ := l.drop k)
      rw [List.take_append_drop, if_pos hm] at e
      exact e
    have h2 := List.idxOf_lt_length_of_mem hm
    rw [List.length_take] at h2
    unfold findI at h
    rw [if_pos (getD_mem hk)] at h
    omega
  · intro h
    exact findI_at hk rfl h
end Go.Proofs.YtegognbnphpigaaDoor
