/-
  Contract of first.
-/
import Derived.Test.YtblakndpionmgaaDoorLxN
namespace Go.Proofs.YtblakndpionmgaaDoor
open Go.RowKit

def strVal (l : Txt) : Value := .string ⟨l.toArray⟩
def sgVals : Array Value := (sgs.map strVal).toArray
theorem sg_len : sgs.length = 31 := by decide
/-- The table of signs. -/
def St (w : World) : Prop := ∃ t fr, w.heap[(2 : Nat)]? = some (.cells sgVals t fr)
theorem St.below {w w' : World} (h : St w) (hb : Below w.heap.size w w') : St w' := by
  obtain ⟨t, fr, h1⟩ := h
  have l1 := (Array.getElem?_eq_some_iff.1 h1).1
  exact ⟨t, fr, by rw [hb.block _ l1]; exact h1⟩
theorem run_sg {k : Nat} (hk : k < 31) (w : World) : (Instr.index 82 (.agg sgVals) (.int .i64 (k : Int))).run Tryd.prog w = .ok (.string ⟨(sgs.getD k []).toArray⟩) w := by
  have hn : (0 : Int) ≤ (k : Int) ∧ (k : Int) < ((31 : Nat) : Int) := by omega
  have hl : k < sgs.length := by rw [sg_len]; exact hk
  unfold sgVals
  simp [Instr.index, run_underlying Tryd.underlying82, asIntOf, hn, go_sem, hk, List.getElem?_eq_getElem hl, strVal]
theorem info_sg : (Tryd.prog.info? 82).map (·.size) = some sgVals.size := by kernel_rfl
theorem sg_snoc {l : Txt} {k : Nat} (hk : k < sgs.length) (ha : (sgs.take k).all (fun x => !x.isPrefixOf l) = true) (hp : (sgs.getD k []).isPrefixOf l = false) : (sgs.take (k + 1)).all (fun x => !x.isPrefixOf l) = true := by
  have he : sgs.getD k [] = sgs[k] := by simp [List.getD, hk]
  rw [List.take_succ_eq_append_getElem hk, List.all_append, ha]
  rw [he] at hp
  rw [List.all_cons, hp]; rfl
theorem sg_not {l x : Txt} {k : Nat} (ha : (sgs.take k).all (fun x => !x.isPrefixOf l) = true) (hx : x ∈ sgs.take k) : ¬ (x.isPrefixOf l = true) := by
  have := List.all_eq_true.1 ha x hx
  rw [Bool.not_eq_true'] at this
  rw [this]; simp
theorem sg_find {l : Txt} {k : Nat} (hk : k < sgs.length) (ha : (sgs.take k).all (fun x => !x.isPrefixOf l) = true) (hp : (sgs.getD k []).isPrefixOf l = true) : signO l = some (sgs.getD k []) := by
  have he : sgs.getD k [] = sgs[k] := by simp [List.getD, hk]
  have h1 : sgs = sgs.take k ++ sgs[k] :: sgs.drop (k + 1) := by rw [← List.drop_eq_getElem_cons hk, List.take_append_drop]
  rw [he] at hp ⊢
  refine (congrArg (List.find? (fun s : Txt => s.isPrefixOf l)) h1).trans ?_
  rw [List.find?_append, List.find?_eq_none.2 (fun x hx => sg_not ha hx), List.find?_cons_of_pos (p := fun s : Txt => s.isPrefixOf l) hp]
  rfl
theorem sg_none {l : Txt} (ha : (sgs.take 31).all (fun x => !x.isPrefixOf l) = true) : signO l = none := by
  unfold signO
  rw [List.find?_eq_none]
  intro x hx
  exact sg_not ha (by rw [List.take_of_length_le (by rw [sg_len]; omega)]; exact hx)
theorem wrap32_u8 (c : UInt8) : wrap32 (c.toNat : Int) = (c.toNat : Int) := by
  have := c.toNat_lt
  unfold wrap32
  omega
theorem first_eq {s : ByteArray} (h : 0 < s.size) : firstT s.data.toList = if smB s[0] then some ⟨1, s.data.toList.takeWhile idB, 0, 0⟩ else if cpB s[0] then some ⟨2, s.data.toList.takeWhile idB, 0, 0⟩ else if dgB s[0] then numT (s.data.toList.takeWhile dgB) else (signO s.data.toList).map fun x => ⟨4, x, 0, 0⟩ := by
  cases hL : s.data.toList with
  | nil => rw [size_list, hL] at h; simp at h
  | cons c r => rw [byte0 hL h]; rfl
theorem ext_tw (s : ByteArray) (p : UInt8 → Bool) : (s.extract 0 (s.data.toList.takeWhile p).length) = (⟨(s.data.toList.takeWhile p).toArray⟩ : ByteArray) := by
  rw [nbytes_eq, ByteArray.data_extract, Array.toList_extract]
  simp only [List.extract_eq_take_drop, List.drop_zero, Nat.sub_zero]
  exact (takeWhile_take p _).symm
theorem tw_dg (l : Txt) : (l.takeWhile dgB).all dgB = true := by
  induction l with
  | nil => rfl
  | cons c r ih =>
    rw [List.takeWhile_cons]
    split
    · rename_i h; rw [List.all_cons, h, ih]; rfl
    · rfl
theorem tok_val {s : ByteArray} {k : Int} {p : UInt8 → Bool} {o : Option Tk} (h : o = some ⟨k, s.data.toList.takeWhile p, 0, 0⟩) : (.tuple #[.agg #[.int .i64 k, .string (s.extract 0 (s.data.toList.takeWhile p).length), .int .i64 0, .int .i64 0], .bool true] : Value) = encT o := by
  rw [h, ext_tw]; rfl
theorem none_val {o : Option Tk} (h : o = none) : (.tuple #[.agg #[.int .i64 0, .string ⟨#[]⟩, .int .i64 0, .int .i64 0], .bool false] : Value) = encT o := by rw [h]; rfl
theorem sgn_val {o : Option Tk} {y : ByteArray} {t : Txt} (hy : y.data.toList = t) (h : o = some ⟨4, t, 0, 0⟩) : (.tuple #[.agg #[.int .i64 4, .string y, .int .i64 0, .int .i64 0], .bool true] : Value) = encT o := by
  rw [h, ← hy]
  show _ = Value.tuple #[.agg #[.int .i64 4, .string ⟨y.data.toList.toArray⟩, .int .i64 0, .int .i64 0], .bool true]
  rw [eta_txt]
set_option maxRecDepth 100000 in
set_option maxHeartbeats 4000000 in
theorem first_any (s : ByteArray) (w : World) (hsz : s.size ≤ 1000000) (htab : Tabx w) (hst : St w) : Calls Tryd.prog 45 #[.string s] w fun e w' => e = .returned (encT (firstT s.data.toList)) ∧ Below w.heap.size w w' := by
  have HT := Lib.hid htab
  have HSZ := Lib.hid hsz
  by_cases h0 : 0 < s.size
  · have TB1 : (s.toList == []) = false := by rw [tolist_eq]; cases hq : s.data.toList with | nil => (rw [size_list, hq] at h0; simp at h0) | cons a r => rfl
    have TB2 : s.toList.isEmpty = false := by rw [tolist_eq]; cases hq : s.data.toList with | nil => (rw [size_list, hq] at h0; simp at h0) | cons a r => rfl
    have HFE := Lib.hid (first_eq h0)
    have h00 : (0 : Int) < (s.size : Int) := by omega
    have w8 := wrap32_u8 s[0]
    have e1 := sm_n s[0]
    have e2 := cp_n s[0]
    have e3 := dg_n s[0]
    cases hsm : smB s[0] with
    | true =>
      have HE : Hid (firstT s.data.toList = some ⟨1, s.data.toList.takeWhile idB, 0, 0⟩) := by show _ = _; rw [HFE.out, hsm]; rfl
      rw [hsm] at e1
      have H1 := Lib.hid e1
      clear hsm e1 e2 e3 htab hst hsz
      have BK := Lib.hid (Bk.new 36 w #[.int .i64 0, .string ⟨#[]⟩, .int .i64 0, .int .i64 0])
      have HB : Hid (Below w.heap.size w (w.alloc (.cells #[.int .i64 0, .string ⟨#[]⟩, .int .i64 0, .int .i64 0] 36))) := (Below.refl _ w).alloc (Nat.le_refl _) _
      go_enter Tryd.func45, Tryd.ntmps45
      go_upto_region 1 with fail
      generalize (w.alloc (.cells #[.int .i64 0, .string ⟨#[]⟩, .int .i64 0, .int .i64 0] 36)) = W0 at *
      go_wp2_with fail
      ((with_reducible refine (lsm_any s[0].toNat _).mono ?_); rintro e wx ⟨rfl, rfl⟩)
      rw [H1.out]
      go_wp2_with fail
      (refine (run_id_any s _).mono ?_); rintro e wx ⟨rfl, pos, rfl⟩
      have BK1 := Lib.hid (show Bk 36 (W0.iter s pos) w.heap.size #[.int .i64 0, .string ⟨#[]⟩, .int .i64 0, .int .i64 0] from BK.out.alloc (.stringIter s pos))
      have HB1 := Lib.hid (show Below w.heap.size w (W0.iter s pos) from HB.out.alloc HB.out.size (.stringIter s pos))
      clear BK HB
      generalize W0.iter s pos = W1 at *
      have q1 : (0 : Int) ≤ (((s.data.toList.takeWhile idB).length : Nat) : Int) ∧ (((s.data.toList.takeWhile idB).length : Nat) : Int) ≤ (s.size : Int) := by have := takeWhile_le idB s.data.toList; rw [← size_list] at this; omega
      obtain ⟨n, hn⟩ : ∃ n, (s.data.toList.takeWhile idB).length = n := ⟨_, rfl⟩
      have HN := Lib.hid hn
      rw [hn] at q1 ⊢
      clear hn
      have e0 := BK1.out.c 0 (v := .int .i64 0) rfl
      have z0 := BK1.out.fz 0
      have e1 := BK1.out.c 1 (v := .string ⟨#[]⟩) rfl
      have z1 := BK1.out.fz 1
      have e2 := BK1.out.c 2 (v := .int .i64 0) rfl
      have z2 := BK1.out.fz 2
      have e3 := BK1.out.c 3 (v := .int .i64 0) rfl
      have z3 := BK1.out.fz 3
      go_wp2_with fail
      clear e0 e1 e2 e3 z0 z1 z2 z3
      have BS := BK1.out.set4 (.int .i64 1) (.string (s.extract 0 n)) (.int .i64 0) (.int .i64 0)
      have HBS := below_set4 HB1.out (Nat.le_refl _) (.int .i64 1) (.string (s.extract 0 n)) (.int .i64 0) (.int .i64 0)
      have e0 := BS.c 0 (v := .int .i64 1) rfl
      have e1 := BS.c 1 (v := .string (s.extract 0 n)) rfl
      have e2 := BS.c 2 (v := .int .i64 0) rfl
      have e3 := BS.c 3 (v := .int .i64 0) rfl
      refine bodyPost_ret (v := .tuple #[.agg #[.int .i64 1, .string (s.extract 0 n), .int .i64 0, .int .i64 0], .bool true]) (by simp [results, Tryd.results45, go_sem, *]) rfl ⟨nret (by rw [← HN.out]; exact tok_val HE.out), HBS⟩
    | false =>
      rw [hsm] at e1
      have H1 := Lib.hid e1
      cases hcp : cpB s[0] with
      | true =>
        have HE : Hid (firstT s.data.toList = some ⟨2, s.data.toList.takeWhile idB, 0, 0⟩) := by show _ = _; rw [HFE.out, hsm, hcp]; rfl
        rw [hcp] at e2
        have H2 := Lib.hid e2
        clear hsm hcp e1 e2 e3 htab hst hsz
        have BK := Lib.hid (Bk.new 36 w #[.int .i64 0, .string ⟨#[]⟩, .int .i64 0, .int .i64 0])
        have HB : Hid (Below w.heap.size w (w.alloc (.cells #[.int .i64 0, .string ⟨#[]⟩, .int .i64 0, .int .i64 0] 36))) := (Below.refl _ w).alloc (Nat.le_refl _) _
        go_enter Tryd.func45, Tryd.ntmps45
        go_upto_region 1 with fail
        generalize (w.alloc (.cells #[.int .i64 0, .string ⟨#[]⟩, .int .i64 0, .int .i64 0] 36)) = W0 at *
        go_wp2_with fail
        ((with_reducible refine (lsm_any s[0].toNat _).mono ?_); rintro e wx ⟨rfl, rfl⟩)
        rw [H1.out]
        go_wp2_with fail
        ((with_reducible refine (lcp_any s[0].toNat _).mono ?_); rintro e wx ⟨rfl, rfl⟩)
        rw [H2.out]
        go_wp2_with fail
        (refine (run_id_any s _).mono ?_); rintro e wx ⟨rfl, pos, rfl⟩
        have BK1 := Lib.hid (show Bk 36 (W0.iter s pos) w.heap.size #[.int .i64 0, .string ⟨#[]⟩, .int .i64 0, .int .i64 0] from BK.out.alloc (.stringIter s pos))
        have HB1 := Lib.hid (show Below w.heap.size w (W0.iter s pos) from HB.out.alloc HB.out.size (.stringIter s pos))
        clear BK HB
        generalize W0.iter s pos = W1 at *
        have q1 : (0 : Int) ≤ (((s.data.toList.takeWhile idB).length : Nat) : Int) ∧ (((s.data.toList.takeWhile idB).length : Nat) : Int) ≤ (s.size : Int) := by have := takeWhile_le idB s.data.toList; rw [← size_list] at this; omega
        obtain ⟨n, hn⟩ : ∃ n, (s.data.toList.takeWhile idB).length = n := ⟨_, rfl⟩
        have HN := Lib.hid hn
        rw [hn] at q1 ⊢
        clear hn
        have e0 := BK1.out.c 0 (v := .int .i64 0) rfl
        have z0 := BK1.out.fz 0
        have e1 := BK1.out.c 1 (v := .string ⟨#[]⟩) rfl
        have z1 := BK1.out.fz 1
        have e2 := BK1.out.c 2 (v := .int .i64 0) rfl
        have z2 := BK1.out.fz 2
        have e3 := BK1.out.c 3 (v := .int .i64 0) rfl
        have z3 := BK1.out.fz 3
        go_wp2_with fail
        clear e0 e1 e2 e3 z0 z1 z2 z3
        have BS := BK1.out.set4 (.int .i64 2) (.string (s.extract 0 n)) (.int .i64 0) (.int .i64 0)
        have HBS := below_set4 HB1.out (Nat.le_refl _) (.int .i64 2) (.string (s.extract 0 n)) (.int .i64 0) (.int .i64 0)
        have e0 := BS.c 0 (v := .int .i64 2) rfl
        have e1 := BS.c 1 (v := .string (s.extract 0 n)) rfl
        have e2 := BS.c 2 (v := .int .i64 0) rfl
        have e3 := BS.c 3 (v := .int .i64 0) rfl
        refine bodyPost_ret (v := .tuple #[.agg #[.int .i64 2, .string (s.extract 0 n), .int .i64 0, .int .i64 0], .bool true]) (by simp [results, Tryd.results45, go_sem, *]) rfl ⟨nret (by rw [← HN.out]; exact tok_val HE.out), HBS⟩
      | false =>
        rw [hcp] at e2
        have H2 := Lib.hid e2
        cases hdg : dgB s[0] with
        | true =>
          have HE : Hid (firstT s.data.toList = numT (s.data.toList.takeWhile dgB)) := by show _ = _; rw [HFE.out, hsm, hcp, hdg]; rfl
          rw [hdg] at e3
          have H3 := Lib.hid e3
          have CN := fun W h => number_any (s.extract 0 (s.data.toList.takeWhile dgB).length) W (by rw [ext_tw]; exact tw_dg _) (by rw [size_list, ext_tw]; have := takeWhile_le dgB s.data.toList; rw [← size_list] at this; exact Nat.le_trans this HSZ.out) h
          clear hsm hcp hdg e1 e2 e3 htab hst hsz
          by_cases hv : valN (s.data.toList.takeWhile dgB) ≤ 1000000000000
          · have HR : Hid (encT (numT (s.extract 0 (s.data.toList.takeWhile dgB).length).data.toList) = .tuple #[.agg #[.int .i64 3, .string (s.extract 0 (s.data.toList.takeWhile dgB).length), .int .i64 ((valN (s.data.toList.takeWhile dgB) : Nat) : Int), .int .i64 0], .bool true]) := by
              show _ = _
              rw [ext_tw]
              exact (num_yes (s := ⟨(s.data.toList.takeWhile dgB).toArray⟩) hv).symm
            have HRE : Hid (encT (numT (s.data.toList.takeWhile dgB)) = .tuple #[.agg #[.int .i64 3, .string (s.extract 0 (s.data.toList.takeWhile dgB).length), .int .i64 ((valN (s.data.toList.takeWhile dgB) : Nat) : Int), .int .i64 0], .bool true]) := by
              show _ = _
              rw [ext_tw]
              exact (num_yes (s := ⟨(s.data.toList.takeWhile dgB).toArray⟩) hv).symm
            rw [HR.out] at CN
            clear hv HR
            generalize ((valN (s.data.toList.takeWhile dgB) : Nat) : Int) = z at *
            have BK := Lib.hid (Bk.new 36 w #[.int .i64 0, .string ⟨#[]⟩, .int .i64 0, .int .i64 0])
            have HB : Hid (Below w.heap.size w (w.alloc (.cells #[.int .i64 0, .string ⟨#[]⟩, .int .i64 0, .int .i64 0] 36))) := (Below.refl _ w).alloc (Nat.le_refl _) _
            go_enter Tryd.func45, Tryd.ntmps45
            go_upto_region 1 with fail
            generalize (w.alloc (.cells #[.int .i64 0, .string ⟨#[]⟩, .int .i64 0, .int .i64 0] 36)) = W0 at *
            go_wp2_with fail
            ((with_reducible refine (lsm_any s[0].toNat _).mono ?_); rintro e wx ⟨rfl, rfl⟩)
            rw [H1.out]
            go_wp2_with fail
            ((with_reducible refine (lcp_any s[0].toNat _).mono ?_); rintro e wx ⟨rfl, rfl⟩)
            rw [H2.out]
            go_wp2_with fail
            ((with_reducible refine (ldg_any s[0].toNat _).mono ?_); rintro e wx ⟨rfl, rfl⟩)
            rw [H3.out]
            go_wp2_with fail
            (refine (run_dg_any s _).mono ?_); rintro e wx ⟨rfl, pos, rfl⟩
            have BK1 := Lib.hid (show Bk 36 (W0.iter s pos) w.heap.size #[.int .i64 0, .string ⟨#[]⟩, .int .i64 0, .int .i64 0] from BK.out.alloc (.stringIter s pos))
            have HB1 := Lib.hid (show Below w.heap.size w (W0.iter s pos) from HB.out.alloc HB.out.size (.stringIter s pos))
            clear BK HB
            generalize W0.iter s pos = W1 at *
            have q1 : (0 : Int) ≤ (((s.data.toList.takeWhile dgB).length : Nat) : Int) ∧ (((s.data.toList.takeWhile dgB).length : Nat) : Int) ≤ (s.size : Int) := by have := takeWhile_le dgB s.data.toList; rw [← size_list] at this; omega
            obtain ⟨n, hn⟩ : ∃ n, (s.data.toList.takeWhile dgB).length = n := ⟨_, rfl⟩
            have HN := Lib.hid hn
            rw [hn] at q1 ⊢
            clear hn
            rw [HN.out] at CN
            go_wp2_with fail
            (refine (CN _ (tabx_on HT.out HB1.out)).mono ?_); rintro e W2 ⟨rfl, hb⟩
            have BK2 := Lib.hid (BK1.out.below hb)
            have HB2 := Lib.hid (nbelow_on HB1.out hb)
            clear hb BK1 HB1 CN
            have e0 := BK2.out.c 0 (v := .int .i64 0) rfl
            have z0 := BK2.out.fz 0
            have e1 := BK2.out.c 1 (v := .string ⟨#[]⟩) rfl
            have z1 := BK2.out.fz 1
            have e2 := BK2.out.c 2 (v := .int .i64 0) rfl
            have z2 := BK2.out.fz 2
            have e3 := BK2.out.c 3 (v := .int .i64 0) rfl
            have z3 := BK2.out.fz 3
            go_wp2_with fail
            clear e0 e1 e2 e3 z0 z1 z2 z3
            have BS := BK2.out.set4 (.int .i64 3) (.string (s.extract 0 n)) (.int .i64 z) (.int .i64 0)
            have HBS := below_set4 HB2.out (Nat.le_refl _) (.int .i64 3) (.string (s.extract 0 n)) (.int .i64 z) (.int .i64 0)
            have e0 := BS.c 0 (v := .int .i64 3) rfl
            have e1 := BS.c 1 (v := .string (s.extract 0 n)) rfl
            have e2 := BS.c 2 (v := .int .i64 z) rfl
            have e3 := BS.c 3 (v := .int .i64 0) rfl
            refine bodyPost_ret (v := .tuple #[.agg #[.int .i64 3, .string (s.extract 0 n), .int .i64 z, .int .i64 0], .bool true]) (by simp [results, Tryd.results45, go_sem, *]) rfl ⟨nret (by rw [HE.out, HRE.out, HN.out]), HBS⟩
          · have HR : Hid (encT (numT (s.extract 0 (s.data.toList.takeWhile dgB).length).data.toList) = .tuple #[.agg #[.int .i64 0, .string ⟨#[]⟩, .int .i64 0, .int .i64 0], .bool false]) := by
              show _ = _
              rw [ext_tw]
              exact (num_no hv).symm
            have HV := Lib.hid hv
            rw [HR.out] at CN
            clear hv HR
            have BK := Lib.hid (Bk.new 36 w #[.int .i64 0, .string ⟨#[]⟩, .int .i64 0, .int .i64 0])
            have HB : Hid (Below w.heap.size w (w.alloc (.cells #[.int .i64 0, .string ⟨#[]⟩, .int .i64 0, .int .i64 0] 36))) := (Below.refl _ w).alloc (Nat.le_refl _) _
            go_enter Tryd.func45, Tryd.ntmps45
            go_upto_region 1 with fail
            generalize (w.alloc (.cells #[.int .i64 0, .string ⟨#[]⟩, .int .i64 0, .int .i64 0] 36)) = W0 at *
            go_wp2_with fail
            ((with_reducible refine (lsm_any s[0].toNat _).mono ?_); rintro e wx ⟨rfl, rfl⟩)
            rw [H1.out]
            go_wp2_with fail
            ((with_reducible refine (lcp_any s[0].toNat _).mono ?_); rintro e wx ⟨rfl, rfl⟩)
            rw [H2.out]
            go_wp2_with fail
            ((with_reducible refine (ldg_any s[0].toNat _).mono ?_); rintro e wx ⟨rfl, rfl⟩)
            rw [H3.out]
            go_wp2_with fail
            (refine (run_dg_any s _).mono ?_); rintro e wx ⟨rfl, pos, rfl⟩
            have BK1 := Lib.hid (show Bk 36 (W0.iter s pos) w.heap.size #[.int .i64 0, .string ⟨#[]⟩, .int .i64 0, .int .i64 0] from BK.out.alloc (.stringIter s pos))
            have HB1 := Lib.hid (show Below w.heap.size w (W0.iter s pos) from HB.out.alloc HB.out.size (.stringIter s pos))
            clear BK HB
            generalize W0.iter s pos = W1 at *
            have q1 : (0 : Int) ≤ (((s.data.toList.takeWhile dgB).length : Nat) : Int) ∧ (((s.data.toList.takeWhile dgB).length : Nat) : Int) ≤ (s.size : Int) := by have := takeWhile_le dgB s.data.toList; rw [← size_list] at this; omega
            obtain ⟨n, hn⟩ : ∃ n, (s.data.toList.takeWhile dgB).length = n := ⟨_, rfl⟩
            have HN := Lib.hid hn
            rw [hn] at q1 ⊢
            clear hn
            rw [HN.out] at CN
            go_wp2_with fail
            (refine (CN _ (tabx_on HT.out HB1.out)).mono ?_); rintro e W2 ⟨rfl, hb⟩
            have BK2 := Lib.hid (BK1.out.below hb)
            have HB2 := Lib.hid (nbelow_on HB1.out hb)
            clear hb BK1 HB1 CN
            have e0 := BK2.out.c 0 (v := .int .i64 0) rfl
            have z0 := BK2.out.fz 0
            have e1 := BK2.out.c 1 (v := .string ⟨#[]⟩) rfl
            have z1 := BK2.out.fz 1
            have e2 := BK2.out.c 2 (v := .int .i64 0) rfl
            have z2 := BK2.out.fz 2
            have e3 := BK2.out.c 3 (v := .int .i64 0) rfl
            have z3 := BK2.out.fz 3
            go_wp2_with fail
            clear e0 e1 e2 e3 z0 z1 z2 z3
            have BS := BK2.out.set4 (.int .i64 0) (.string ⟨#[]⟩) (.int .i64 0) (.int .i64 0)
            have HBS := below_set4 HB2.out (Nat.le_refl _) (.int .i64 0) (.string ⟨#[]⟩) (.int .i64 0) (.int .i64 0)
            have e0 := BS.c 0 (v := .int .i64 0) rfl
            have e1 := BS.c 1 (v := .string ⟨#[]⟩) rfl
            have e2 := BS.c 2 (v := .int .i64 0) rfl
            have e3 := BS.c 3 (v := .int .i64 0) rfl
            refine bodyPost_ret (v := .tuple #[.agg #[.int .i64 0, .string ⟨#[]⟩, .int .i64 0, .int .i64 0], .bool false]) (by simp [results, Tryd.results45, go_sem, *]) rfl ⟨nret (by rw [HE.out]; exact num_no HV.out), HBS⟩
        | false =>
          have HE : Hid (firstT s.data.toList = (signO s.data.toList).map fun x => ⟨4, x, 0, 0⟩) := by show _ = _; rw [HFE.out, hsm, hcp, hdg]; rfl
          rw [hdg] at e3
          have H3 := Lib.hid e3
          obtain ⟨t, fr, hg0⟩ := hst
          have hg : (w.alloc (.cells #[.int .i64 0, .string ⟨#[]⟩, .int .i64 0, .int .i64 0] 36)).heap[(2 : Nat)]? = some (.cells sgVals t fr) := (((Below.refl _ w).alloc (Nat.le_refl _) _).block _ (Array.getElem?_eq_some_iff.1 hg0).1).trans hg0
          have RX : ∀ k : Nat, k < 31 → ∃ y : ByteArray, y.data.toList = sgs.getD k [] ∧ ∀ W, (Instr.index 82 (.agg sgVals) (.int .i64 (k : Int))).run Tryd.prog W = .ok (.string y) W := fun k hk => ⟨_, rfl, fun W => run_sg hk W⟩
          have HI := info_sg
          clear hsm hcp hdg e1 e2 e3 htab hg0 hsz
          generalize sgVals = V at *
          have BK := Lib.hid (Bk.new 36 w #[.int .i64 0, .string ⟨#[]⟩, .int .i64 0, .int .i64 0])
          have HB : Hid (Below w.heap.size w (w.alloc (.cells #[.int .i64 0, .string ⟨#[]⟩, .int .i64 0, .int .i64 0] 36))) := (Below.refl _ w).alloc (Nat.le_refl _) _
          go_enter Tryd.func45, Tryd.ntmps45
          go_upto_region 1 with fail
          generalize (w.alloc (.cells #[.int .i64 0, .string ⟨#[]⟩, .int .i64 0, .int .i64 0] 36)) = W0 at *
          go_wp2_with fail
          ((with_reducible refine (lsm_any s[0].toNat _).mono ?_); rintro e wx ⟨rfl, rfl⟩)
          rw [H1.out]
          go_wp2_with fail
          ((with_reducible refine (lcp_any s[0].toNat _).mono ?_); rintro e wx ⟨rfl, rfl⟩)
          rw [H2.out]
          go_wp2_with fail
          ((with_reducible refine (ldg_any s[0].toNat _).mono ?_); rintro e wx ⟨rfl, rfl⟩)
          rw [H3.out]
          go_wp2_with (refine wpList_load_row rfl 82 _ rfl 2 rfl t _ fr _ hg Tryd.underlying82 rfl HI ?_)
          go_loop [40] (fun i => ∃ k : Nat, k ≤ 31 ∧ i = .int .i64 (k : Int) ∧ (sgs.take k).all (fun x => !x.isPrefixOf s.data.toList) = true) (fun i => 31 - (intOf i).toNat)
          case atStart => exact ⟨0, Nat.zero_le _, rfl, by simp⟩
          case round =>
            obtain ⟨k, hk, rfl, ha⟩ := hrel
            have HA := Lib.hid ha
            clear ha
            by_cases hlt : k < 31
            · obtain ⟨y, hy, RI⟩ := RX k hlt
              have HY := Lib.hid hy
              have CH := Tryd.strings_HasPrefix s y W0
              rw [show Lib.hasPrefix s.data.toList y.data.toList = (sgs.getD k []).isPrefixOf s.data.toList by rw [hy]; rfl] at CH
              clear hy RX
              have HLT : Hid (k < sgs.length) := by show k < _; rw [sg_len]; exact hlt
              have q1 : (k : Int) < 31 := by omega
              cases hd : (sgs.getD k []).isPrefixOf s.data.toList with
              | true =>
                have HD := Lib.hid hd
                rw [hd] at CH
                clear hd
                go_wp2_with fail
                ((with_reducible refine CH.mono ?_); rintro e wx ⟨rfl, rfl⟩)
                have e0 := BK.out.c 0 (v := .int .i64 0) rfl
                have z0 := BK.out.fz 0
                have e1 := BK.out.c 1 (v := .string ⟨#[]⟩) rfl
                have z1 := BK.out.fz 1
                have e2 := BK.out.c 2 (v := .int .i64 0) rfl
                have z2 := BK.out.fz 2
                have e3 := BK.out.c 3 (v := .int .i64 0) rfl
                have z3 := BK.out.fz 3
                go_wp2_with fail
                clear e0 e1 e2 e3 z0 z1 z2 z3
                have BS := BK.out.set4 (.int .i64 4) (.string y) (.int .i64 0) (.int .i64 0)
                have HBS := below_set4 HB.out (Nat.le_refl _) (.int .i64 4) (.string y) (.int .i64 0) (.int .i64 0)
                have e0 := BS.c 0 (v := .int .i64 4) rfl
                have e1 := BS.c 1 (v := .string y) rfl
                have e2 := BS.c 2 (v := .int .i64 0) rfl
                have e3 := BS.c 3 (v := .int .i64 0) rfl
                refine bodyPost_ret (v := .tuple #[.agg #[.int .i64 4, .string y, .int .i64 0, .int .i64 0], .bool true]) (by simp [results, Tryd.results45, go_sem, *]) rfl ⟨nret (sgn_val HY.out (by rw [HE.out, sg_find HLT.out HA.out HD.out]; rfl)), HBS⟩
              | false =>
                have HD := Lib.hid hd
                rw [hd] at CH
                clear hd
                go_wp2_with fail
                ((with_reducible refine CH.mono ?_); rintro e wx ⟨rfl, rfl⟩)
                go_wp2_with fail
                go_round
                case rel => exact ⟨k + 1, by omega, by go_num, sg_snoc HLT.out HA.out HD.out⟩
                case measure => simp [intOf] <;> omega
            · have hke : k = 31 := by omega
              subst hke
              have e0 := BK.out.c 0 (v := .int .i64 0) rfl
              have z0 := BK.out.fz 0
              have e1 := BK.out.c 1 (v := .string ⟨#[]⟩) rfl
              have z1 := BK.out.fz 1
              have e2 := BK.out.c 2 (v := .int .i64 0) rfl
              have z2 := BK.out.fz 2
              have e3 := BK.out.c 3 (v := .int .i64 0) rfl
              have z3 := BK.out.fz 3
              go_wp2_with fail
              clear e0 e1 e2 e3 z0 z1 z2 z3
              have BS := BK.out.set4 (.int .i64 0) (.string ⟨#[]⟩) (.int .i64 0) (.int .i64 0)
              have HBS := below_set4 HB.out (Nat.le_refl _) (.int .i64 0) (.string ⟨#[]⟩) (.int .i64 0) (.int .i64 0)
              have e0 := BS.c 0 (v := .int .i64 0) rfl
              have e1 := BS.c 1 (v := .string ⟨#[]⟩) rfl
              have e2 := BS.c 2 (v := .int .i64 0) rfl
              have e3 := BS.c 3 (v := .int .i64 0) rfl
              refine bodyPost_ret (v := .tuple #[.agg #[.int .i64 0, .string ⟨#[]⟩, .int .i64 0, .int .i64 0], .bool false]) (by simp [results, Tryd.results45, go_sem, *]) rfl ⟨nret (none_val (by rw [HE.out, sg_none HA.out]; rfl)), HBS⟩
  · have hs0 : s.size = 0 := by omega
    have hl0 : s.data.toList = [] := List.eq_nil_of_length_eq_zero (by rw [← size_list]; exact hs0)
    have TB1 : (s.toList == []) = true := by rw [tolist_eq, hl0]; rfl
    have TB2 : s.toList.isEmpty = true := by rw [tolist_eq, hl0]; rfl
    have HE : Hid (firstT s.data.toList = none) := by show _ = _; rw [hl0]; rfl
    clear h0 hs0 hl0 htab hst hsz
    have BK := Lib.hid (Bk.new 36 w #[.int .i64 0, .string ⟨#[]⟩, .int .i64 0, .int .i64 0])
    have HB : Hid (Below w.heap.size w (w.alloc (.cells #[.int .i64 0, .string ⟨#[]⟩, .int .i64 0, .int .i64 0] 36))) := (Below.refl _ w).alloc (Nat.le_refl _) _
    go_enter Tryd.func45, Tryd.ntmps45
    go_upto_region 1 with fail
    generalize (w.alloc (.cells #[.int .i64 0, .string ⟨#[]⟩, .int .i64 0, .int .i64 0] 36)) = W0 at *
    have e0 := BK.out.c 0 (v := .int .i64 0) rfl
    have z0 := BK.out.fz 0
    have e1 := BK.out.c 1 (v := .string ⟨#[]⟩) rfl
    have z1 := BK.out.fz 1
    have e2 := BK.out.c 2 (v := .int .i64 0) rfl
    have z2 := BK.out.fz 2
    have e3 := BK.out.c 3 (v := .int .i64 0) rfl
    have z3 := BK.out.fz 3
    go_wp2_with fail
    clear e0 e1 e2 e3 z0 z1 z2 z3
    have BS := BK.out.set4 (.int .i64 0) (.string ⟨#[]⟩) (.int .i64 0) (.int .i64 0)
    have HBS := below_set4 HB.out (Nat.le_refl _) (.int .i64 0) (.string ⟨#[]⟩) (.int .i64 0) (.int .i64 0)
    have e0 := BS.c 0 (v := .int .i64 0) rfl
    have e1 := BS.c 1 (v := .string ⟨#[]⟩) rfl
    have e2 := BS.c 2 (v := .int .i64 0) rfl
    have e3 := BS.c 3 (v := .int .i64 0) rfl
    refine bodyPost_ret (v := .tuple #[.agg #[.int .i64 0, .string ⟨#[]⟩, .int .i64 0, .int .i64 0], .bool false]) (by simp [results, Tryd.results45, go_sem, *]) rfl ⟨nret (none_val HE.out), HBS⟩
end Go.Proofs.YtblakndpionmgaaDoor
