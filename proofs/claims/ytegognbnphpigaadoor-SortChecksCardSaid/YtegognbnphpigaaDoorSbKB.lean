/-
  The reference's parts and part.
-/
import Derived.Test.YtegognbnphpigaaDoorSbRC
namespace Go.Proofs.YtegognbnphpigaaDoor
open Go.RowKit

theorem cut46_app (l r : Txt) : cut46 (l ++ 46 :: r) = cut46 l ++ cut46 r := by
  induction l with
  | nil => simp [cut46]
  | cons c l ih =>
    rw [List.cons_append, cut46, cut46]
    split
    · rw [ih]; rfl
    · rw [ih]
      cases h : cut46 l with
      | nil => exact absurd h (cut46_ne l)
      | cons p r' => rfl
theorem cut46_step {c : UInt8} (hc : c ≠ 46) {l p : Txt} {ps : List Txt} (h : cut46 l = ps ++ [p]) : cut46 (l ++ [c]) = ps ++ [p ++ [c]] := by
  induction l generalizing ps p with
  | nil =>
    cases ps with
    | nil => simp [cut46] at h; subst h; simp [cut46, hc]
    | cons a r => simp [cut46] at h
  | cons d l ih =>
    rw [List.cons_append, cut46]
    rw [cut46] at h
    by_cases hd : d = 46
    · rw [if_pos hd] at h ⊢
      cases ps with
      | nil =>
        simp at h
        exact absurd h.2 (cut46_ne l)
      | cons a r =>
        simp only [List.cons_append, List.cons.injEq] at h
        rw [ih h.2, ← h.1]; rfl
    · rw [if_neg hd] at h ⊢
      cases hq : cut46 l with
      | nil => exact absurd hq (cut46_ne l)
      | cons a r =>
        rw [hq] at h
        simp only at h
        cases ps with
        | nil =>
          simp only [List.nil_append, List.cons.injEq] at h
          have := ih (ps := []) (p := a) (by rw [hq, h.2]; rfl)
          rw [this, ← h.1]; rfl
        | cons b r' =>
          simp only [List.cons_append, List.cons.injEq] at h
          have := ih (ps := a :: r') (p := p) (by rw [hq, h.2]; rfl)
          rw [this, ← h.1]; rfl
theorem cut46_dot {l : Txt} : cut46 (l ++ [46]) = cut46 l ++ [[]] := cut46_app l []
theorem cut46_len (l : Txt) : (cut46 l).length ≤ l.length + 1 := by
  induction l with
  | nil => simp [cut46]
  | cons c l ih =>
    rw [cut46]
    split
    · simpa using ih
    · cases h : cut46 l with
      | nil => exact absurd h (cut46_ne l)
      | cons p r => rw [h] at ih; simpa using Nat.le_succ_of_le ih
theorem nchunk (d : ByteArray) (a e : Nat) : (d.extract a e).data.toList = (d.data.toList.take e).drop a := by
  rw [ByteArray.data_extract, Array.toList_extract]
  simp [List.extract_eq_take_drop, List.drop_take]
theorem cut46_at {s : ByteArray} {k : Nat} (h : k < s.size) {ps : List Txt} {b : Nat} (hd : (s[k] == (46 : UInt8)) = true) (hc : cut46 (s.data.toList.take k) = ps ++ [(s.data.toList.take k).drop b]) :
    cut46 (s.data.toList.take (k + 1)) = (ps ++ [(s.data.toList.take k).drop b]) ++ [(s.data.toList.take (k + 1)).drop (k + 1)] := by
  have e : s[k] = 46 := beq_iff_eq.1 hd
  rw [take_one h, e, cut46_dot, hc]
  congr 1
  rw [List.drop_eq_nil_of_le (by rw [List.length_append, List.length_take]; simp; omega)]
theorem cut46_go {s : ByteArray} {k : Nat} (h : k < s.size) {ps : List Txt} {b : Nat} (hbk : b ≤ k) (hd : (s[k] == (46 : UInt8)) = false) (hc : cut46 (s.data.toList.take k) = ps ++ [(s.data.toList.take k).drop b]) :
    cut46 (s.data.toList.take (k + 1)) = ps ++ [(s.data.toList.take (k + 1)).drop b] := by
  have e : s[k] ≠ 46 := beq_eq_false_iff_ne.1 hd
  have hl : (s.data.toList.take k).length = k := by rw [List.length_take, ← size_list]; omega
  rw [take_one h, cut46_step e hc, List.drop_append_of_le_length (by rw [hl]; exact hbk)]
theorem drop_snoc {l : Txt} {b : Nat} {c : UInt8} (h : b ≤ l.length) : (l ++ [c]).drop b = l.drop b ++ [c] := by
  rw [List.drop_append_of_le_length h]

set_option maxRecDepth 100000 in
set_option maxHeartbeats 4000000 in
theorem parts_any (s : ByteArray) (w : World) (hn : s.size ≤ 10000) : Calls Tryd.prog 53 #[.string s] w fun e w' => ∃ C k q, e = .returned (.slice C k q) ∧ Ss w' C k q (cut46 s.data.toList) ∧ Below w.heap.size w w' := by
  go_enter Tryd.func53, Tryd.ntmps53
  go_wp2_with fail
  go_loopw [3, 4, 8] (fun ov bv iv wr => ∃ (k b : Nat) (ps : List Txt), b ≤ k ∧ k ≤ s.size ∧ iv = .int .i64 (k : Int) ∧ bv = .int .i64 (b : Int) ∧ cut46 (s.data.toList.take k) = ps ++ [(s.data.toList.take k).drop b] ∧ wr.ownsRow w.heap.size 9 1 ov ps.length (ps.map encStr) ∧ Below w.heap.size w wr) (fun _ _ iv _ => s.size - (intOf iv).toNat)
  case atStart => exact ⟨0, 0, [], Nat.le_refl _, Nat.zero_le _, rfl, rfl, rfl, row_nil _ _, Below.refl _ _⟩
  case round =>
    obtain ⟨k, b, ps, hbk, hk, rfl, rfl, hcut, ho, hb⟩ := hrel
    have HO := Lib.hid ho
    have HB := Lib.hid hb
    have HC := Lib.hid hcut
    have hpl : ps.length ≤ s.size := by
      have h1 := cut46_len (s.data.toList.take k)
      rw [hcut, List.length_append, List.length_take, ← size_list] at h1
      simp at h1
      omega
    clear ho hb hcut
    by_cases hlt : k < s.size
    · have HLT := Lib.hid hlt
      have htl : (s.data.toList.take k).length = k := by rw [List.length_take, ← size_list]; omega
      have HTL := Lib.hid htl
      have HT1 := Lib.hid (take_one hlt)
      have q1 : (k : Int) < s.size := by omega
      have q2 : (0 : Int) ≤ (b : Int) ∧ (b : Int) ≤ (k : Int) ∧ (k : Int) ≤ (s.size : Int) := by omega
      clear htl
      cases hd : (s[k] == (46 : UInt8)) with
      | true =>
        have q46 : ((s[k].toNat : Int) == 46) = true := beq_u8 (n := 46) (by omega) hd
        have HC2 := Lib.hid (cut46_at HLT.out hd HC.out)
        clear hd
        have HBS := Lib.hid (below_alloc (w := wr) (.cells #[.string (s.extract b k)] 9))
        have HOS := Lib.hid (row_below HO.out HBS.out)
        have HBW := Lib.hid (HB.out.trans (HBS.out.mono HB.out.size))
        go_wp2_with (at_builtin; refine wpList_append_txts _ rfl _ _ rfl w.heap.size HBW.out.size _ ps rfl HOS.out _ 1 1 [(s.extract b k).data.toList] rfl (one_txt (s.extract b k)) (by simp; omega) ?_; intro v2 w2 hr2 hg2 ho2)
        rw [nchunk] at hr2
        have HR2 := Lib.hid hr2
        have HB2 : Hid (Below w.heap.size w w2) := HBW.out.grown hg2 HBW.out.size (fun q hq => row_ge HOS.out hq)
        clear hr2 hg2 ho2
        go_wp2_with fail
        go_round
        case rel => exact ⟨k + 1, k + 1, _, Nat.le_refl _, by omega, by go_num, by go_num, HC2.out, HR2.out, HB2.out⟩
        case measure => simp [intOf] <;> omega
      | false =>
        have q46 : ((s[k].toNat : Int) == 46) = false := beq_u8 (n := 46) (by omega) hd
        have HC2 := Lib.hid (cut46_go HLT.out hbk hd HC.out)
        clear hd
        go_wp2_with fail
        go_round
        case rel => exact ⟨k + 1, b, ps, by omega, by omega, by go_num, rfl, HC2.out, HO.out, HB.out⟩
        case measure => simp [intOf] <;> omega
    · have hke : k = s.size := by omega
      subst hke
      have q2 : (0 : Int) ≤ (b : Int) ∧ (b : Int) ≤ (s.size : Int) := by omega
      have HF : Hid (s.data.toList.take s.size = s.data.toList) := List.take_of_length_le (by rw [← size_list]; exact Nat.le_refl _)
      have HC2 : Hid (cut46 s.data.toList = ps ++ [(s.extract b s.size).data.toList]) := by
        have h1 := HC.out
        show _ = _
        rw [nchunk]
        rw [HF.out] at h1 ⊢
        exact h1
      have HBS := Lib.hid (below_alloc (w := wr) (.cells #[.string (s.extract b s.size)] 9))
      have HOS := Lib.hid (row_below HO.out HBS.out)
      have HBW := Lib.hid (HB.out.trans (HBS.out.mono HB.out.size))
      go_wp2_with (at_builtin; refine wpList_append_txts _ rfl _ _ rfl w.heap.size HBW.out.size _ ps rfl HOS.out _ 1 1 [(s.extract b s.size).data.toList] rfl (one_txt (s.extract b s.size)) (by simp; omega) ?_; intro v2 w2 hr2 hg2 ho2)
      rw [← HC2.out] at hr2
      have HB2 : Hid (Below w.heap.size w w2) := HBW.out.grown hg2 HBW.out.size (fun q hq => row_ge HOS.out hq)
      obtain ⟨C, q, rfl, hres⟩ := Ss.of_row rfl hr2
      have HRES := Lib.hid hres
      clear hr2 hg2 ho2 hres
      go_wp2_with fail
      go_ret
      exact ⟨C, _, q, rfl, HRES.out, HB2.out⟩
theorem byte_kind (c : UInt8) : (smB c = true ∧ cpB c = false ∧ dgB c = false ∧ (c == (95 : UInt8)) = false) ∨ (smB c = false ∧ cpB c = true ∧ dgB c = false ∧ (c == (95 : UInt8)) = false) ∨ (smB c = false ∧ cpB c = false ∧ dgB c = true ∧ (c == (95 : UInt8)) = false) ∨ (smB c = false ∧ cpB c = false ∧ dgB c = false ∧ (c == (95 : UInt8)) = true) ∨ (smB c = false ∧ cpB c = false ∧ dgB c = false ∧ (c == (95 : UInt8)) = false) := by
  have h := c.toNat_lt
  have h95 : (c == (95 : UInt8)) = decide (c.toNat = 95) := by
    rw [Bool.eq_iff_iff, beq_iff_eq, decide_eq_true_iff, ← UInt8.toNat_inj]; rfl
  rw [h95]
  unfold smB cpB dgB
  simp only [Bool.and_eq_true, Bool.and_eq_false_iff, decide_eq_true_eq, decide_eq_false_iff_not]
  omega
set_option maxRecDepth 100000 in
set_option maxHeartbeats 8000000 in
theorem rpart_any (p : ByteArray) (w : World) : Calls Tryd.prog 56 #[.string p] w fun e w' => e = .returned (.bool (partB p.data.toList)) ∧ w = w' := by
  cases hl : longB p.data.toList with
  | false =>
    have HL := Lib.hid hl
    by_cases h1 : p.size < 1
    · have p1 : (p.size : Int) < 1 := by omega
      clear hl
      go_enter Tryd.func56, Tryd.ntmps56
      go_wp2_with fail
      go_ret
      exact ⟨nret_bool (by unfold partB wordB; rw [HL.out]; rfl), rfl⟩
    · have p1 : ¬ (p.size : Int) < 1 := by omega
      have p2 : (24 : Int) < (p.size : Int) := by
        rcases Nat.lt_or_ge 24 p.size with h | h
        · omega
        · exfalso
          unfold longB at hl
          rw [← size_list, decide_eq_true (by omega), decide_eq_true h] at hl
          cases hl
      clear hl
      go_enter Tryd.func56, Tryd.ntmps56
      go_wp2_with fail
      go_ret
      exact ⟨nret_bool (by unfold partB wordB; rw [HL.out]; rfl), rfl⟩
  | true =>
    have HL := Lib.hid hl
    obtain ⟨h1, h24⟩ := long_yes hl
    have hp : 0 < p.size := by omega
    have p1 : ¬ (p.size : Int) < 1 := by omega
    have p2 : ¬ (24 : Int) < (p.size : Int) := by omega
    have HH := Lib.hid (head_at hp smB)
    have CS := rsmall_any p[0] w
    clear hl h1
    go_enter Tryd.func56, Tryd.ntmps56
    go_wp2_with fail
    ((with_reducible refine CS.mono ?_); rintro e wx ⟨rfl, rfl⟩)
    go_wp2_with fail
    go_loop [3, 4, 19] (fun pv wv iv => ∃ k : Nat, k ≤ p.size ∧ iv = .int .i64 (k : Int) ∧ pv = .bool ((p.data.toList.take k).all anB) ∧ wv = .bool (smB p[0] && (p.data.toList.take k).all wcB)) (fun _ _ iv => p.size - (intOf iv).toNat)
    case atStart => exact ⟨0, Nat.zero_le _, rfl, rfl, by simp⟩
    case round =>
      obtain ⟨k, hk, rfl, rfl, rfl⟩ := hrel
      by_cases hlt : k < p.size
      · have q1 : (k : Int) < p.size := by omega
        cases hpl : (p.data.toList.take k).all anB with
        | true =>
          have HPL := Lib.hid hpl
          clear hpl
          cases hwd : (smB p[0] && (p.data.toList.take k).all wcB) with
          | true =>
            have HWD := Lib.hid hwd
            clear hwd
            rcases byte_kind p[k] with ⟨hsm, hcp, hdg, hus⟩ | ⟨hsm, hcp, hdg, hus⟩ | ⟨hsm, hcp, hdg, hus⟩ | ⟨hsm, hcp, hdg, hus⟩ | ⟨hsm, hcp, hdg, hus⟩
            · have HSM := Lib.hid hsm
              have HCP := Lib.hid hcp
              have HDG := Lib.hid hdg
              have q95 : ((p[k].toNat : Int) == 95) = false := beq_u8 (n := 95) (by omega) hus
              have HP2 : Hid ((p.data.toList.take (k + 1)).all anB = true) := by
                show _ = _
                rw [all_snoc hlt, HPL.out]; unfold anB; rw [hsm, hcp, hdg]; rfl
              have HW2 : Hid ((smB p[0] && (p.data.toList.take (k + 1)).all wcB) = true) := by
                show _ = _
                rw [all_snoc hlt, ← Bool.and_assoc, HWD.out]; unfold wcB; rw [hsm, hdg, hus]; rfl
              clear hsm hcp hdg hus
              go_wp2_with (first
                | (go_at_call 66; (with_reducible refine (rsmall_any p[k] _).mono ?_); rintro e wx ⟨rfl, rfl⟩; rw [HSM.out])
                | (go_at_call 69; (with_reducible refine (rcap_any p[k] _).mono ?_); rintro e wx ⟨rfl, rfl⟩; rw [HCP.out])
                | (go_at_call 68; (with_reducible refine (rdig_any p[k] _).mono ?_); rintro e wx ⟨rfl, rfl⟩; rw [HDG.out]))
              go_round
              case rel => exact ⟨k + 1, by omega, by go_num, by rw [HP2.out], by rw [HW2.out]⟩
              case measure => simp [intOf] <;> omega
            · have HSM := Lib.hid hsm
              have HCP := Lib.hid hcp
              have HDG := Lib.hid hdg
              have q95 : ((p[k].toNat : Int) == 95) = false := beq_u8 (n := 95) (by omega) hus
              have HP2 : Hid ((p.data.toList.take (k + 1)).all anB = true) := by
                show _ = _
                rw [all_snoc hlt, HPL.out]; unfold anB; rw [hsm, hcp, hdg]; rfl
              have HW2 : Hid ((smB p[0] && (p.data.toList.take (k + 1)).all wcB) = false) := by
                show _ = _
                rw [all_snoc hlt, ← Bool.and_assoc, HWD.out]; unfold wcB; rw [hsm, hdg, hus]; rfl
              clear hsm hcp hdg hus
              go_wp2_with (first
                | (go_at_call 66; (with_reducible refine (rsmall_any p[k] _).mono ?_); rintro e wx ⟨rfl, rfl⟩; rw [HSM.out])
                | (go_at_call 69; (with_reducible refine (rcap_any p[k] _).mono ?_); rintro e wx ⟨rfl, rfl⟩; rw [HCP.out])
                | (go_at_call 68; (with_reducible refine (rdig_any p[k] _).mono ?_); rintro e wx ⟨rfl, rfl⟩; rw [HDG.out]))
              go_round
              case rel => exact ⟨k + 1, by omega, by go_num, by rw [HP2.out], by rw [HW2.out]⟩
              case measure => simp [intOf] <;> omega
            · have HSM := Lib.hid hsm
              have HCP := Lib.hid hcp
              have HDG := Lib.hid hdg
              have q95 : ((p[k].toNat : Int) == 95) = false := beq_u8 (n := 95) (by omega) hus
              have HP2 : Hid ((p.data.toList.take (k + 1)).all anB = true) := by
                show _ = _
                rw [all_snoc hlt, HPL.out]; unfold anB; rw [hsm, hcp, hdg]; rfl
              have HW2 : Hid ((smB p[0] && (p.data.toList.take (k + 1)).all wcB) = true) := by
                show _ = _
                rw [all_snoc hlt, ← Bool.and_assoc, HWD.out]; unfold wcB; rw [hsm, hdg, hus]; rfl
              clear hsm hcp hdg hus
              go_wp2_with (first
                | (go_at_call 66; (with_reducible refine (rsmall_any p[k] _).mono ?_); rintro e wx ⟨rfl, rfl⟩; rw [HSM.out])
                | (go_at_call 69; (with_reducible refine (rcap_any p[k] _).mono ?_); rintro e wx ⟨rfl, rfl⟩; rw [HCP.out])
                | (go_at_call 68; (with_reducible refine (rdig_any p[k] _).mono ?_); rintro e wx ⟨rfl, rfl⟩; rw [HDG.out]))
              go_round
              case rel => exact ⟨k + 1, by omega, by go_num, by rw [HP2.out], by rw [HW2.out]⟩
              case measure => simp [intOf] <;> omega
            · have HSM := Lib.hid hsm
              have HCP := Lib.hid hcp
              have HDG := Lib.hid hdg
              have q95 : ((p[k].toNat : Int) == 95) = true := beq_u8 (n := 95) (by omega) hus
              have HP2 : Hid ((p.data.toList.take (k + 1)).all anB = false) := by
                show _ = _
                rw [all_snoc hlt, HPL.out]; unfold anB; rw [hsm, hcp, hdg]; rfl
              have HW2 : Hid ((smB p[0] && (p.data.toList.take (k + 1)).all wcB) = true) := by
                show _ = _
                rw [all_snoc hlt, ← Bool.and_assoc, HWD.out]; unfold wcB; rw [hsm, hdg, hus]; rfl
              clear hsm hcp hdg hus
              go_wp2_with (first
                | (go_at_call 66; (with_reducible refine (rsmall_any p[k] _).mono ?_); rintro e wx ⟨rfl, rfl⟩; rw [HSM.out])
                | (go_at_call 69; (with_reducible refine (rcap_any p[k] _).mono ?_); rintro e wx ⟨rfl, rfl⟩; rw [HCP.out])
                | (go_at_call 68; (with_reducible refine (rdig_any p[k] _).mono ?_); rintro e wx ⟨rfl, rfl⟩; rw [HDG.out]))
              go_round
              case rel => exact ⟨k + 1, by omega, by go_num, by rw [HP2.out], by rw [HW2.out]⟩
              case measure => simp [intOf] <;> omega
            · have HSM := Lib.hid hsm
              have HCP := Lib.hid hcp
              have HDG := Lib.hid hdg
              have q95 : ((p[k].toNat : Int) == 95) = false := beq_u8 (n := 95) (by omega) hus
              have HP2 : Hid ((p.data.toList.take (k + 1)).all anB = false) := by
                show _ = _
                rw [all_snoc hlt, HPL.out]; unfold anB; rw [hsm, hcp, hdg]; rfl
              have HW2 : Hid ((smB p[0] && (p.data.toList.take (k + 1)).all wcB) = false) := by
                show _ = _
                rw [all_snoc hlt, ← Bool.and_assoc, HWD.out]; unfold wcB; rw [hsm, hdg, hus]; rfl
              clear hsm hcp hdg hus
              go_wp2_with (first
                | (go_at_call 66; (with_reducible refine (rsmall_any p[k] _).mono ?_); rintro e wx ⟨rfl, rfl⟩; rw [HSM.out])
                | (go_at_call 69; (with_reducible refine (rcap_any p[k] _).mono ?_); rintro e wx ⟨rfl, rfl⟩; rw [HCP.out])
                | (go_at_call 68; (with_reducible refine (rdig_any p[k] _).mono ?_); rintro e wx ⟨rfl, rfl⟩; rw [HDG.out]))
              go_round
              case rel => exact ⟨k + 1, by omega, by go_num, by rw [HP2.out], by rw [HW2.out]⟩
              case measure => simp [intOf] <;> omega
          | false =>
            have HWD := Lib.hid hwd
            clear hwd
            rcases byte_kind p[k] with ⟨hsm, hcp, hdg, hus⟩ | ⟨hsm, hcp, hdg, hus⟩ | ⟨hsm, hcp, hdg, hus⟩ | ⟨hsm, hcp, hdg, hus⟩ | ⟨hsm, hcp, hdg, hus⟩
            · have HSM := Lib.hid hsm
              have HCP := Lib.hid hcp
              have HDG := Lib.hid hdg
              have q95 : ((p[k].toNat : Int) == 95) = false := beq_u8 (n := 95) (by omega) hus
              have HP2 : Hid ((p.data.toList.take (k + 1)).all anB = true) := by
                show _ = _
                rw [all_snoc hlt, HPL.out]; unfold anB; rw [hsm, hcp, hdg]; rfl
              have HW2 : Hid ((smB p[0] && (p.data.toList.take (k + 1)).all wcB) = false) := by
                show _ = _
                rw [all_snoc hlt, ← Bool.and_assoc, HWD.out]; unfold wcB; rw [hsm, hdg, hus]; rfl
              clear hsm hcp hdg hus
              go_wp2_with (first
                | (go_at_call 66; (with_reducible refine (rsmall_any p[k] _).mono ?_); rintro e wx ⟨rfl, rfl⟩; rw [HSM.out])
                | (go_at_call 69; (with_reducible refine (rcap_any p[k] _).mono ?_); rintro e wx ⟨rfl, rfl⟩; rw [HCP.out])
                | (go_at_call 68; (with_reducible refine (rdig_any p[k] _).mono ?_); rintro e wx ⟨rfl, rfl⟩; rw [HDG.out]))
              go_round
              case rel => exact ⟨k + 1, by omega, by go_num, by rw [HP2.out], by rw [HW2.out]⟩
              case measure => simp [intOf] <;> omega
            · have HSM := Lib.hid hsm
              have HCP := Lib.hid hcp
              have HDG := Lib.hid hdg
              have q95 : ((p[k].toNat : Int) == 95) = false := beq_u8 (n := 95) (by omega) hus
              have HP2 : Hid ((p.data.toList.take (k + 1)).all anB = true) := by
                show _ = _
                rw [all_snoc hlt, HPL.out]; unfold anB; rw [hsm, hcp, hdg]; rfl
              have HW2 : Hid ((smB p[0] && (p.data.toList.take (k + 1)).all wcB) = false) := by
                show _ = _
                rw [all_snoc hlt, ← Bool.and_assoc, HWD.out]; unfold wcB; rw [hsm, hdg, hus]; rfl
              clear hsm hcp hdg hus
              go_wp2_with (first
                | (go_at_call 66; (with_reducible refine (rsmall_any p[k] _).mono ?_); rintro e wx ⟨rfl, rfl⟩; rw [HSM.out])
                | (go_at_call 69; (with_reducible refine (rcap_any p[k] _).mono ?_); rintro e wx ⟨rfl, rfl⟩; rw [HCP.out])
                | (go_at_call 68; (with_reducible refine (rdig_any p[k] _).mono ?_); rintro e wx ⟨rfl, rfl⟩; rw [HDG.out]))
              go_round
              case rel => exact ⟨k + 1, by omega, by go_num, by rw [HP2.out], by rw [HW2.out]⟩
              case measure => simp [intOf] <;> omega
            · have HSM := Lib.hid hsm
              have HCP := Lib.hid hcp
              have HDG := Lib.hid hdg
              have q95 : ((p[k].toNat : Int) == 95) = false := beq_u8 (n := 95) (by omega) hus
              have HP2 : Hid ((p.data.toList.take (k + 1)).all anB = true) := by
                show _ = _
                rw [all_snoc hlt, HPL.out]; unfold anB; rw [hsm, hcp, hdg]; rfl
              have HW2 : Hid ((smB p[0] && (p.data.toList.take (k + 1)).all wcB) = false) := by
                show _ = _
                rw [all_snoc hlt, ← Bool.and_assoc, HWD.out]; unfold wcB; rw [hsm, hdg, hus]; rfl
              clear hsm hcp hdg hus
              go_wp2_with (first
                | (go_at_call 66; (with_reducible refine (rsmall_any p[k] _).mono ?_); rintro e wx ⟨rfl, rfl⟩; rw [HSM.out])
                | (go_at_call 69; (with_reducible refine (rcap_any p[k] _).mono ?_); rintro e wx ⟨rfl, rfl⟩; rw [HCP.out])
                | (go_at_call 68; (with_reducible refine (rdig_any p[k] _).mono ?_); rintro e wx ⟨rfl, rfl⟩; rw [HDG.out]))
              go_round
              case rel => exact ⟨k + 1, by omega, by go_num, by rw [HP2.out], by rw [HW2.out]⟩
              case measure => simp [intOf] <;> omega
            · have HSM := Lib.hid hsm
              have HCP := Lib.hid hcp
              have HDG := Lib.hid hdg
              have q95 : ((p[k].toNat : Int) == 95) = true := beq_u8 (n := 95) (by omega) hus
              have HP2 : Hid ((p.data.toList.take (k + 1)).all anB = false) := by
                show _ = _
                rw [all_snoc hlt, HPL.out]; unfold anB; rw [hsm, hcp, hdg]; rfl
              have HW2 : Hid ((smB p[0] && (p.data.toList.take (k + 1)).all wcB) = false) := by
                show _ = _
                rw [all_snoc hlt, ← Bool.and_assoc, HWD.out]; unfold wcB; rw [hsm, hdg, hus]; rfl
              clear hsm hcp hdg hus
              go_wp2_with (first
                | (go_at_call 66; (with_reducible refine (rsmall_any p[k] _).mono ?_); rintro e wx ⟨rfl, rfl⟩; rw [HSM.out])
                | (go_at_call 69; (with_reducible refine (rcap_any p[k] _).mono ?_); rintro e wx ⟨rfl, rfl⟩; rw [HCP.out])
                | (go_at_call 68; (with_reducible refine (rdig_any p[k] _).mono ?_); rintro e wx ⟨rfl, rfl⟩; rw [HDG.out]))
              go_round
              case rel => exact ⟨k + 1, by omega, by go_num, by rw [HP2.out], by rw [HW2.out]⟩
              case measure => simp [intOf] <;> omega
            · have HSM := Lib.hid hsm
              have HCP := Lib.hid hcp
              have HDG := Lib.hid hdg
              have q95 : ((p[k].toNat : Int) == 95) = false := beq_u8 (n := 95) (by omega) hus
              have HP2 : Hid ((p.data.toList.take (k + 1)).all anB = false) := by
                show _ = _
                rw [all_snoc hlt, HPL.out]; unfold anB; rw [hsm, hcp, hdg]; rfl
              have HW2 : Hid ((smB p[0] && (p.data.toList.take (k + 1)).all wcB) = false) := by
                show _ = _
                rw [all_snoc hlt, ← Bool.and_assoc, HWD.out]; unfold wcB; rw [hsm, hdg, hus]; rfl
              clear hsm hcp hdg hus
              go_wp2_with (first
                | (go_at_call 66; (with_reducible refine (rsmall_any p[k] _).mono ?_); rintro e wx ⟨rfl, rfl⟩; rw [HSM.out])
                | (go_at_call 69; (with_reducible refine (rcap_any p[k] _).mono ?_); rintro e wx ⟨rfl, rfl⟩; rw [HCP.out])
                | (go_at_call 68; (with_reducible refine (rdig_any p[k] _).mono ?_); rintro e wx ⟨rfl, rfl⟩; rw [HDG.out]))
              go_round
              case rel => exact ⟨k + 1, by omega, by go_num, by rw [HP2.out], by rw [HW2.out]⟩
              case measure => simp [intOf] <;> omega
        | false =>
          have HPL := Lib.hid hpl
          clear hpl
          cases hwd : (smB p[0] && (p.data.toList.take k).all wcB) with
          | true =>
            have HWD := Lib.hid hwd
            clear hwd
            rcases byte_kind p[k] with ⟨hsm, hcp, hdg, hus⟩ | ⟨hsm, hcp, hdg, hus⟩ | ⟨hsm, hcp, hdg, hus⟩ | ⟨hsm, hcp, hdg, hus⟩ | ⟨hsm, hcp, hdg, hus⟩
            · have HSM := Lib.hid hsm
              have HCP := Lib.hid hcp
              have HDG := Lib.hid hdg
              have q95 : ((p[k].toNat : Int) == 95) = false := beq_u8 (n := 95) (by omega) hus
              have HP2 : Hid ((p.data.toList.take (k + 1)).all anB = false) := by
                show _ = _
                rw [all_snoc hlt, HPL.out]; unfold anB; rw [hsm, hcp, hdg]; rfl
              have HW2 : Hid ((smB p[0] && (p.data.toList.take (k + 1)).all wcB) = true) := by
                show _ = _
                rw [all_snoc hlt, ← Bool.and_assoc, HWD.out]; unfold wcB; rw [hsm, hdg, hus]; rfl
              clear hsm hcp hdg hus
              go_wp2_with (first
                | (go_at_call 66; (with_reducible refine (rsmall_any p[k] _).mono ?_); rintro e wx ⟨rfl, rfl⟩; rw [HSM.out])
                | (go_at_call 69; (with_reducible refine (rcap_any p[k] _).mono ?_); rintro e wx ⟨rfl, rfl⟩; rw [HCP.out])
                | (go_at_call 68; (with_reducible refine (rdig_any p[k] _).mono ?_); rintro e wx ⟨rfl, rfl⟩; rw [HDG.out]))
              go_round
              case rel => exact ⟨k + 1, by omega, by go_num, by rw [HP2.out], by rw [HW2.out]⟩
              case measure => simp [intOf] <;> omega
            · have HSM := Lib.hid hsm
              have HCP := Lib.hid hcp
              have HDG := Lib.hid hdg
              have q95 : ((p[k].toNat : Int) == 95) = false := beq_u8 (n := 95) (by omega) hus
              have HP2 : Hid ((p.data.toList.take (k + 1)).all anB = false) := by
                show _ = _
                rw [all_snoc hlt, HPL.out]; unfold anB; rw [hsm, hcp, hdg]; rfl
              have HW2 : Hid ((smB p[0] && (p.data.toList.take (k + 1)).all wcB) = false) := by
                show _ = _
                rw [all_snoc hlt, ← Bool.and_assoc, HWD.out]; unfold wcB; rw [hsm, hdg, hus]; rfl
              clear hsm hcp hdg hus
              go_wp2_with (first
                | (go_at_call 66; (with_reducible refine (rsmall_any p[k] _).mono ?_); rintro e wx ⟨rfl, rfl⟩; rw [HSM.out])
                | (go_at_call 69; (with_reducible refine (rcap_any p[k] _).mono ?_); rintro e wx ⟨rfl, rfl⟩; rw [HCP.out])
                | (go_at_call 68; (with_reducible refine (rdig_any p[k] _).mono ?_); rintro e wx ⟨rfl, rfl⟩; rw [HDG.out]))
              go_round
              case rel => exact ⟨k + 1, by omega, by go_num, by rw [HP2.out], by rw [HW2.out]⟩
              case measure => simp [intOf] <;> omega
            · have HSM := Lib.hid hsm
              have HCP := Lib.hid hcp
              have HDG := Lib.hid hdg
              have q95 : ((p[k].toNat : Int) == 95) = false := beq_u8 (n := 95) (by omega) hus
              have HP2 : Hid ((p.data.toList.take (k + 1)).all anB = false) := by
                show _ = _
                rw [all_snoc hlt, HPL.out]; unfold anB; rw [hsm, hcp, hdg]; rfl
              have HW2 : Hid ((smB p[0] && (p.data.toList.take (k + 1)).all wcB) = true) := by
                show _ = _
                rw [all_snoc hlt, ← Bool.and_assoc, HWD.out]; unfold wcB; rw [hsm, hdg, hus]; rfl
              clear hsm hcp hdg hus
              go_wp2_with (first
                | (go_at_call 66; (with_reducible refine (rsmall_any p[k] _).mono ?_); rintro e wx ⟨rfl, rfl⟩; rw [HSM.out])
                | (go_at_call 69; (with_reducible refine (rcap_any p[k] _).mono ?_); rintro e wx ⟨rfl, rfl⟩; rw [HCP.out])
                | (go_at_call 68; (with_reducible refine (rdig_any p[k] _).mono ?_); rintro e wx ⟨rfl, rfl⟩; rw [HDG.out]))
              go_round
              case rel => exact ⟨k + 1, by omega, by go_num, by rw [HP2.out], by rw [HW2.out]⟩
              case measure => simp [intOf] <;> omega
            · have HSM := Lib.hid hsm
              have HCP := Lib.hid hcp
              have HDG := Lib.hid hdg
              have q95 : ((p[k].toNat : Int) == 95) = true := beq_u8 (n := 95) (by omega) hus
              have HP2 : Hid ((p.data.toList.take (k + 1)).all anB = false) := by
                show _ = _
                rw [all_snoc hlt, HPL.out]; unfold anB; rw [hsm, hcp, hdg]; rfl
              have HW2 : Hid ((smB p[0] && (p.data.toList.take (k + 1)).all wcB) = true) := by
                show _ = _
                rw [all_snoc hlt, ← Bool.and_assoc, HWD.out]; unfold wcB; rw [hsm, hdg, hus]; rfl
              clear hsm hcp hdg hus
              go_wp2_with (first
                | (go_at_call 66; (with_reducible refine (rsmall_any p[k] _).mono ?_); rintro e wx ⟨rfl, rfl⟩; rw [HSM.out])
                | (go_at_call 69; (with_reducible refine (rcap_any p[k] _).mono ?_); rintro e wx ⟨rfl, rfl⟩; rw [HCP.out])
                | (go_at_call 68; (with_reducible refine (rdig_any p[k] _).mono ?_); rintro e wx ⟨rfl, rfl⟩; rw [HDG.out]))
              go_round
              case rel => exact ⟨k + 1, by omega, by go_num, by rw [HP2.out], by rw [HW2.out]⟩
              case measure => simp [intOf] <;> omega
            · have HSM := Lib.hid hsm
              have HCP := Lib.hid hcp
              have HDG := Lib.hid hdg
              have q95 : ((p[k].toNat : Int) == 95) = false := beq_u8 (n := 95) (by omega) hus
              have HP2 : Hid ((p.data.toList.take (k + 1)).all anB = false) := by
                show _ = _
                rw [all_snoc hlt, HPL.out]; unfold anB; rw [hsm, hcp, hdg]; rfl
              have HW2 : Hid ((smB p[0] && (p.data.toList.take (k + 1)).all wcB) = false) := by
                show _ = _
                rw [all_snoc hlt, ← Bool.and_assoc, HWD.out]; unfold wcB; rw [hsm, hdg, hus]; rfl
              clear hsm hcp hdg hus
              go_wp2_with (first
                | (go_at_call 66; (with_reducible refine (rsmall_any p[k] _).mono ?_); rintro e wx ⟨rfl, rfl⟩; rw [HSM.out])
                | (go_at_call 69; (with_reducible refine (rcap_any p[k] _).mono ?_); rintro e wx ⟨rfl, rfl⟩; rw [HCP.out])
                | (go_at_call 68; (with_reducible refine (rdig_any p[k] _).mono ?_); rintro e wx ⟨rfl, rfl⟩; rw [HDG.out]))
              go_round
              case rel => exact ⟨k + 1, by omega, by go_num, by rw [HP2.out], by rw [HW2.out]⟩
              case measure => simp [intOf] <;> omega
          | false =>
            have HWD := Lib.hid hwd
            clear hwd
            rcases byte_kind p[k] with ⟨hsm, hcp, hdg, hus⟩ | ⟨hsm, hcp, hdg, hus⟩ | ⟨hsm, hcp, hdg, hus⟩ | ⟨hsm, hcp, hdg, hus⟩ | ⟨hsm, hcp, hdg, hus⟩
            · have HSM := Lib.hid hsm
              have HCP := Lib.hid hcp
              have HDG := Lib.hid hdg
              have q95 : ((p[k].toNat : Int) == 95) = false := beq_u8 (n := 95) (by omega) hus
              have HP2 : Hid ((p.data.toList.take (k + 1)).all anB = false) := by
                show _ = _
                rw [all_snoc hlt, HPL.out]; unfold anB; rw [hsm, hcp, hdg]; rfl
              have HW2 : Hid ((smB p[0] && (p.data.toList.take (k + 1)).all wcB) = false) := by
                show _ = _
                rw [all_snoc hlt, ← Bool.and_assoc, HWD.out]; unfold wcB; rw [hsm, hdg, hus]; rfl
              clear hsm hcp hdg hus
              go_wp2_with (first
                | (go_at_call 66; (with_reducible refine (rsmall_any p[k] _).mono ?_); rintro e wx ⟨rfl, rfl⟩; rw [HSM.out])
                | (go_at_call 69; (with_reducible refine (rcap_any p[k] _).mono ?_); rintro e wx ⟨rfl, rfl⟩; rw [HCP.out])
                | (go_at_call 68; (with_reducible refine (rdig_any p[k] _).mono ?_); rintro e wx ⟨rfl, rfl⟩; rw [HDG.out]))
              go_round
              case rel => exact ⟨k + 1, by omega, by go_num, by rw [HP2.out], by rw [HW2.out]⟩
              case measure => simp [intOf] <;> omega
            · have HSM := Lib.hid hsm
              have HCP := Lib.hid hcp
              have HDG := Lib.hid hdg
              have q95 : ((p[k].toNat : Int) == 95) = false := beq_u8 (n := 95) (by omega) hus
              have HP2 : Hid ((p.data.toList.take (k + 1)).all anB = false) := by
                show _ = _
                rw [all_snoc hlt, HPL.out]; unfold anB; rw [hsm, hcp, hdg]; rfl
              have HW2 : Hid ((smB p[0] && (p.data.toList.take (k + 1)).all wcB) = false) := by
                show _ = _
                rw [all_snoc hlt, ← Bool.and_assoc, HWD.out]; unfold wcB; rw [hsm, hdg, hus]; rfl
              clear hsm hcp hdg hus
              go_wp2_with (first
                | (go_at_call 66; (with_reducible refine (rsmall_any p[k] _).mono ?_); rintro e wx ⟨rfl, rfl⟩; rw [HSM.out])
                | (go_at_call 69; (with_reducible refine (rcap_any p[k] _).mono ?_); rintro e wx ⟨rfl, rfl⟩; rw [HCP.out])
                | (go_at_call 68; (with_reducible refine (rdig_any p[k] _).mono ?_); rintro e wx ⟨rfl, rfl⟩; rw [HDG.out]))
              go_round
              case rel => exact ⟨k + 1, by omega, by go_num, by rw [HP2.out], by rw [HW2.out]⟩
              case measure => simp [intOf] <;> omega
            · have HSM := Lib.hid hsm
              have HCP := Lib.hid hcp
              have HDG := Lib.hid hdg
              have q95 : ((p[k].toNat : Int) == 95) = false := beq_u8 (n := 95) (by omega) hus
              have HP2 : Hid ((p.data.toList.take (k + 1)).all anB = false) := by
                show _ = _
                rw [all_snoc hlt, HPL.out]; unfold anB; rw [hsm, hcp, hdg]; rfl
              have HW2 : Hid ((smB p[0] && (p.data.toList.take (k + 1)).all wcB) = false) := by
                show _ = _
                rw [all_snoc hlt, ← Bool.and_assoc, HWD.out]; unfold wcB; rw [hsm, hdg, hus]; rfl
              clear hsm hcp hdg hus
              go_wp2_with (first
                | (go_at_call 66; (with_reducible refine (rsmall_any p[k] _).mono ?_); rintro e wx ⟨rfl, rfl⟩; rw [HSM.out])
                | (go_at_call 69; (with_reducible refine (rcap_any p[k] _).mono ?_); rintro e wx ⟨rfl, rfl⟩; rw [HCP.out])
                | (go_at_call 68; (with_reducible refine (rdig_any p[k] _).mono ?_); rintro e wx ⟨rfl, rfl⟩; rw [HDG.out]))
              go_round
              case rel => exact ⟨k + 1, by omega, by go_num, by rw [HP2.out], by rw [HW2.out]⟩
              case measure => simp [intOf] <;> omega
            · have HSM := Lib.hid hsm
              have HCP := Lib.hid hcp
              have HDG := Lib.hid hdg
              have q95 : ((p[k].toNat : Int) == 95) = true := beq_u8 (n := 95) (by omega) hus
              have HP2 : Hid ((p.data.toList.take (k + 1)).all anB = false) := by
                show _ = _
                rw [all_snoc hlt, HPL.out]; unfold anB; rw [hsm, hcp, hdg]; rfl
              have HW2 : Hid ((smB p[0] && (p.data.toList.take (k + 1)).all wcB) = false) := by
                show _ = _
                rw [all_snoc hlt, ← Bool.and_assoc, HWD.out]; unfold wcB; rw [hsm, hdg, hus]; rfl
              clear hsm hcp hdg hus
              go_wp2_with (first
                | (go_at_call 66; (with_reducible refine (rsmall_any p[k] _).mono ?_); rintro e wx ⟨rfl, rfl⟩; rw [HSM.out])
                | (go_at_call 69; (with_reducible refine (rcap_any p[k] _).mono ?_); rintro e wx ⟨rfl, rfl⟩; rw [HCP.out])
                | (go_at_call 68; (with_reducible refine (rdig_any p[k] _).mono ?_); rintro e wx ⟨rfl, rfl⟩; rw [HDG.out]))
              go_round
              case rel => exact ⟨k + 1, by omega, by go_num, by rw [HP2.out], by rw [HW2.out]⟩
              case measure => simp [intOf] <;> omega
            · have HSM := Lib.hid hsm
              have HCP := Lib.hid hcp
              have HDG := Lib.hid hdg
              have q95 : ((p[k].toNat : Int) == 95) = false := beq_u8 (n := 95) (by omega) hus
              have HP2 : Hid ((p.data.toList.take (k + 1)).all anB = false) := by
                show _ = _
                rw [all_snoc hlt, HPL.out]; unfold anB; rw [hsm, hcp, hdg]; rfl
              have HW2 : Hid ((smB p[0] && (p.data.toList.take (k + 1)).all wcB) = false) := by
                show _ = _
                rw [all_snoc hlt, ← Bool.and_assoc, HWD.out]; unfold wcB; rw [hsm, hdg, hus]; rfl
              clear hsm hcp hdg hus
              go_wp2_with (first
                | (go_at_call 66; (with_reducible refine (rsmall_any p[k] _).mono ?_); rintro e wx ⟨rfl, rfl⟩; rw [HSM.out])
                | (go_at_call 69; (with_reducible refine (rcap_any p[k] _).mono ?_); rintro e wx ⟨rfl, rfl⟩; rw [HCP.out])
                | (go_at_call 68; (with_reducible refine (rdig_any p[k] _).mono ?_); rintro e wx ⟨rfl, rfl⟩; rw [HDG.out]))
              go_round
              case rel => exact ⟨k + 1, by omega, by go_num, by rw [HP2.out], by rw [HW2.out]⟩
              case measure => simp [intOf] <;> omega
      · have hke : k = p.size := by omega
        subst hke
        have HF : Hid (p.data.toList.take p.size = p.data.toList) := List.take_of_length_le (by rw [← size_list]; exact Nat.le_refl _)
        rw [HF.out]
        have HR : Hid (partB p.data.toList = (p.data.toList.all anB || (smB p[0] && p.data.toList.all wcB))) := by
          show _ = _
          unfold partB wordB alnumB
          rw [HL.out, HH.out]
          simp only [Bool.true_and]
          exact Bool.or_comm _ _
        generalize hbw : (smB p[0] && p.data.toList.all wcB) = bw
        have HBW := Lib.hid hbw
        clear hbw
        cases hpl : p.data.toList.all anB with
        | true =>
          have HPL := Lib.hid hpl
          clear hpl
          go_wp2_with fail
          go_ret
          exact ⟨nret_bool (by rw [HR.out, HPL.out, HBW.out]; rfl), rfl⟩
        | false =>
          have HPL := Lib.hid hpl
          clear hpl
          go_wp2_with fail
          go_ret
          exact ⟨nret_bool (by rw [HR.out, HPL.out, HBW.out]; rfl), rfl⟩
end Go.Proofs.YtegognbnphpigaaDoor
