/-
  The reference's value, signs and sign.
-/
import Derived.Test.YtblakndpionmgaaDoorLxF
import Derived.Test.YtblakndpionmgaaDoorLxD
namespace Go.Proofs.YtblakndpionmgaaDoor
open Go.RowKit

theorem valN_app (a b : Txt) : valN a ≤ valN (a ++ b) := by
  unfold valN
  rw [List.foldl_append]
  exact fold_ge b _
def xvV (l : Txt) : Int := if valN l ≤ 1000000000000 then ((valN l : Nat) : Int) else 0
def xvB (l : Txt) : Bool := decide (valN l ≤ 1000000000000)
set_option maxRecDepth 100000 in
theorem xvalue_any (s : ByteArray) (w : World) (hsz : s.size ≤ 1000000) (hd : s.data.toList.all dgB = true) : Calls Tryd.prog 80 #[.string s] w fun e w' => e = .returned (.tuple #[.int .i64 (xvV s.data.toList), .bool (xvB s.data.toList)]) ∧ w = w' := by
  have HD := Lib.hid hd
  clear hd
  go_enter Tryd.func80, Tryd.ntmps80
  go_wp2_with fail
  go_loop [4, 5] (fun nv iv => ∃ k v : Nat, k ≤ s.size ∧ iv = .int .i64 (k : Int) ∧ nv = .int .i64 (v : Int) ∧ v = valN (s.data.toList.take k) ∧ v ≤ 1000000000000) (fun _ iv => s.size - (intOf iv).toNat)
  case atStart => exact ⟨0, 0, Nat.zero_le _, rfl, rfl, rfl, by omega⟩
  case round =>
    obtain ⟨k, v, hk, rfl, rfl, hv, hv2⟩ := hrel
    have HV := Lib.hid hv
    clear hv
    by_cases hlt : k < s.size
    · have hc := dg_range (List.all_eq_true.1 HD.out s[k] (mem_byte hlt))
      have hsn : valN (s.data.toList.take (k + 1)) = 10 * v + (s[k].toNat - 48) := by rw [take_one hlt, valN_snoc, ← HV.out]
      have HSN := Lib.hid hsn
      have c3 : 48 ≤ (s[k].toNat : Int) := by omega
      have c4 : (s[k].toNat : Int) ≤ 57 := by omega
      have q1 : (k : Int) < s.size := by omega
      by_cases hb : 10 * v + (s[k].toNat - 48) ≤ 1000000000000
      · have q2 : ¬ (1000000000000 : Int) < 10 * (v : Int) + ((s[k].toNat : Int) - 48) := by omega
        have HB := Lib.hid hb
        have HC := Lib.hid hc
        clear hsn hb hc
        go_wp2_with fail
        go_round
        case rel => exact ⟨k + 1, 10 * v + (s[k].toNat - 48), by omega, by go_num, by have := HC.out; congr 1; omega, HSN.out.symm, HB.out⟩
        case measure => simp [intOf] <;> omega
      · have q2 : (1000000000000 : Int) < 10 * (v : Int) + ((s[k].toNat : Int) - 48) := by omega
        have HN : Hid (¬ valN s.data.toList ≤ 1000000000000) := by
          show ¬ _
          have := valN_app (s.data.toList.take (k + 1)) (s.data.toList.drop (k + 1))
          rw [List.take_append_drop, hsn] at this
          omega
        clear hsn hb hc
        go_wp2_with fail
        go_ret2
        exact ⟨ret_two (by unfold xvV; rw [if_neg HN.out]) (by unfold xvB; rw [decide_eq_false HN.out]), rfl⟩
    · have hke : k = s.size := by omega
      subst hke
      have HE : Hid (v = valN s.data.toList) := by
        have := HV.out
        rwa [List.take_of_length_le (by rw [← size_list]; exact Nat.le_refl _)] at this
      go_wp2_with fail
      go_ret2
      exact ⟨ret_two (by unfold xvV; rw [← HE.out, if_pos hv2]) (by unfold xvB; rw [← HE.out, decide_eq_true hv2]), rfl⟩
theorem xss_lit {w : World} {t : TypeId} (xs : List Txt) {cells : Array Value} {n : Nat} (h : cells = (xs.map strVal).toArray) (hn : xs.length = n) (hn2 : n ≤ 9223372036854775807) : Ss (w.alloc (.cells cells t)) (some ⟨w.heap.size, 0, none⟩) n n xs := by
  refine ⟨hn, Nat.le_refl _, hn2, fun _ => ⟨w.heap.size, 0, rfl, (Array.getElem?_eq_some_iff.1 (MapKept.heap_alloc w _).1).1, fun k hk => ?_⟩⟩
  unfold World.cell?
  rw [(MapKept.heap_alloc w _).1]
  have hk2 : k < xs.length := by omega
  simp [h, strVal, List.getD, hk2]
theorem signs_any (w : World) : Calls Tryd.prog 98 #[] w fun e w' => ∃ A, e = .returned (.slice A 31 31) ∧ Ss w' A 31 31 sgs ∧ Below w.heap.size w w' := by
  go_enter Tryd.func98, Tryd.ntmps98
  go_wp2_with fail
  go_ret
  exact ⟨_, rfl, xss_lit _ rfl rfl (by omega), (Below.refl _ _).alloc (Nat.le_refl _) _⟩
theorem pre_eq (s y : ByteArray) (h : y.size ≤ s.size) : ((s.extract 0 y.size).toList == y.toList) = y.data.toList.isPrefixOf s.data.toList := by
  have := Lib.hasPrefix_raw s y
  rw [decide_eq_true h, Bool.true_and] at this
  exact this
set_option maxRecDepth 100000 in
set_option maxHeartbeats 4000000 in
theorem xsign_any (s : ByteArray) (w : World) : Calls Tryd.prog 81 #[.string s] w fun e w' => ∃ x : ByteArray, e = .returned (.string x) ∧ x.data.toList = (signO s.data.toList).getD [] ∧ Below w.heap.size w w' := by
  go_enter Tryd.func81, Tryd.ntmps81
  go_wp2_with fail
  (refine (signs_any w).mono ?_); rintro e w1 ⟨A, rfl, hss, hb⟩
  have HB := Lib.hid hb
  have HSS := Lib.hid hss
  clear hb hss
  go_wp2_with fail
  go_loopw [4] (fun iv wr => ∃ k q : Nat, k ≤ 31 ∧ iv = .int .i64 (k : Int) ∧ wr = w1.drewN q ∧ (sgs.take k).all (fun x => !x.isPrefixOf s.data.toList) = true) (fun iv _ => 31 - (intOf iv).toNat)
  case atStart => exact ⟨0, 0, Nat.zero_le _, rfl, rfl, by simp⟩
  case round =>
    obtain ⟨k, q, hk, rfl, rfl, ha⟩ := hrel
    have HA := Lib.hid ha
    clear ha
    by_cases hlt : k < 31
    · obtain ⟨g, o, y, rfl, hg, hc, hy⟩ := HSS.out.at_ hlt
      have HY := Lib.hid hy.out
      have hkl : k < sgs.length := by rw [sg_len]; exact hlt
      have HKL := Lib.hid hkl
      have hpe := pre_eq s y
      rw [hy.out] at hpe
      have hpn : (sgs.getD k []).isPrefixOf s.data.toList = true → y.size ≤ s.size := by
        intro h
        have := (List.isPrefixOf_iff_prefix.1 h).length_le
        rwa [← hy.out, ← size_list, ← size_list] at this
      have q1 : (k : Int) < 31 := by omega
      have hc2 : (w1.drewN q).cell? ⟨g, o + k, none⟩ = some (.string y) := hc
      clear hy hkl hg
      cases hd : (sgs.getD k []).isPrefixOf s.data.toList with
      | true =>
        have HD := Lib.hid hd
        have hle := hpn hd
        have TE := hpe hle
        rw [hd] at TE
        have q2 : decide ((y.size : Int) ≤ (s.size : Int)) = true := decide_eq_true (by omega)
        have q3 : (y.size : Int) ≤ (s.size : Int) := by omega
        clear hd hpe hpn hle
        go_upto_region 5 with fail
        go_quiet (fail)
        go_wp2_with fail
        go_ret
        exact ⟨y, rfl, by rw [HY.out, sg_find HKL.out HA.out HD.out]; rfl, below_dn HB.out _⟩
      | false =>
        have HD := Lib.hid hd
        by_cases hle : y.size ≤ s.size
        · have TE := hpe hle
          rw [hd] at TE
          have q2 : decide ((y.size : Int) ≤ (s.size : Int)) = true := decide_eq_true (by omega)
          have q3 : (y.size : Int) ≤ (s.size : Int) := by omega
          clear hd hpe hpn hle
          go_upto_region 5 with fail
          go_quiet (fail)
          go_wp2_with fail
          go_roundw
          case rel => exact ⟨k + 1, _, by omega, by go_num, rfl, sg_snoc HKL.out HA.out HD.out⟩
          case measure => simp [intOf] <;> omega
        · have q2 : decide ((y.size : Int) ≤ (s.size : Int)) = false := decide_eq_false (by omega)
          have q3 : ¬ (y.size : Int) ≤ (s.size : Int) := by omega
          clear hd hpe hpn hle
          go_upto_region 5 with fail
          go_quiet (fail)
          go_wp2_with fail
          go_roundw
          case rel => exact ⟨k + 1, _, by omega, by go_num, rfl, sg_snoc HKL.out HA.out HD.out⟩
          case measure => simp [intOf] <;> omega
    · have hke : k = 31 := by omega
      subst hke
      go_wp2_with fail
      go_ret
      exact ⟨_, rfl, by rw [sg_none HA.out]; rfl, below_dn HB.out _⟩
end Go.Proofs.YtblakndpionmgaaDoor
