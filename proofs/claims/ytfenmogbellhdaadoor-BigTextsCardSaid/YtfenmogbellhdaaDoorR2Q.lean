/-
  The reference's Parse (layer 2).
-/
import Derived.Test.YtfenmogbellhdaaDoorR2T
namespace Go.Proofs.YtfenmogbellhdaaDoor
open Go.RowKit

theorem pd_len4 (l : List UInt8) : l.length ≤ 4 * (pd l).length := by
  induction h : l.length using Nat.strongRecOn generalizing l with
  | _ n ih =>
    by_cases h0 : l = []
    · subst h0; rw [pd_nil]; simp at h; omega
    · have hp : 0 < l.length := (List.length_pos_iff.2 h0)
      rw [pd_cons h0, List.length_cons]
      have := ih (l.take (l.length - 4)).length (by rw [List.length_take]; omega) (l.take (l.length - 4)) rfl
      rw [List.length_take] at this
      omega
theorem fit_dec {x : Int} (h : fitB x = true) : (Lib.decDigits x.natAbs).length ≤ 800 := by
  by_cases h0 : x.natAbs = 0
  · rw [h0, dec_small (by omega)]; simp
  · have h1 := pd_len4 (Lib.decDigits x.natAbs)
    rw [pd_dec, if_neg h0] at h1
    have h2 := lOf_len h
    unfold lOf at h2
    omega
theorem no_len {S : List UInt8} (h : (digits S).length = 0 ∨ 800 < (digits S).length) : PSpec S false 0 := by
  refine .inr ⟨rfl, rfl, fun x hf hx => ?_⟩
  subst hx
  rw [(itoa_cut x).2] at h
  have h1 := fit_dec hf
  have h2 := List.length_pos_iff.2 (dec_ne x.natAbs)
  omega
theorem dec_mem (u : Nat) : ∀ c ∈ Lib.decDigits u, 48 ≤ c.toNat ∧ c.toNat ≤ 57 := by
  induction u using Nat.strongRecOn with
  | _ u ih =>
    by_cases h : u < 10
    · rw [dec_small h]
      intro c hc
      rw [List.mem_singleton.1 hc, UInt8.toNat_ofNat']
      omega
    · rw [dec_big (by omega)]
      intro c hc
      rcases List.mem_append.1 hc with hc | hc
      · exact ih _ (by omega) c hc
      · rw [List.mem_singleton.1 hc, UInt8.toNat_ofNat']
        omega
theorem no_byte {S : List UInt8} {c : UInt8} (hc : c ∈ digits S) (h : c.toNat < 48 ∨ 57 < c.toNat) : PSpec S false 0 := by
  refine .inr ⟨rfl, rfl, fun x hf hx => ?_⟩
  subst hx
  rw [(itoa_cut x).2] at hc
  have := dec_mem _ c hc
  omega
theorem sgn_read {S : List UInt8} {x : Int} (hx : Lib.itoa x = S) : sgn (isNeg S) ((val (pd (digits S))).toNat : Nat) = x := by
  subst hx
  rw [(itoa_cut x).1, (itoa_cut x).2, (pd_dec_ok x.natAbs).2, Int.toNat_natCast]
  exact sgn_same x
theorem no_fit {S : List UInt8} (h : fitB (sgn (isNeg S) ((val (pd (digits S))).toNat : Nat)) = false) : PSpec S false 0 := by
  refine .inr ⟨rfl, rfl, fun x hf hx => ?_⟩
  rw [sgn_read hx, hf] at h
  cases h
theorem no_text {S : List UInt8} (h : ¬ Lib.itoa (sgn (isNeg S) ((val (pd (digits S))).toNat : Nat)) = S) : PSpec S false 0 := by
  refine .inr ⟨rfl, rfl, fun x hf hx => h ?_⟩
  rw [sgn_read hx, hx]
theorem digits_neg (cs : List UInt8) : digits (45 :: cs) = cs ∧ isNeg (45 :: cs) = true := by
  constructor
  · unfold digits Lib.trimPrefix Lib.hasPrefix; simp
  · unfold isNeg Lib.hasPrefix; simp
theorem digits_pos {c : UInt8} (cs : List UInt8) (h : c ≠ 45) : digits (c :: cs) = c :: cs ∧ isNeg (c :: cs) = false := by
  have : isNeg (c :: cs) = false := by
    unfold isNeg Lib.hasPrefix
    simp [List.isPrefixOf]
    first | exact h | exact fun e => h e.symm | (intro e; exact h e)
  refine ⟨?_, this⟩
  unfold digits Lib.trimPrefix
  unfold isNeg at this
  rw [this]; simp
theorem neg_cons {S : List UInt8} (h : isNeg S = true) : S = 45 :: digits S := by
  cases S with
  | nil => exact absurd h (by decide)
  | cons c cs =>
    by_cases hc : c = 45
    · subst hc; rw [(digits_neg cs).1]
    · rw [(digits_pos cs hc).2] at h; cases h
theorem pos_same {S : List UInt8} (h : isNeg S = false) : digits S = S := by
  cases S with
  | nil => decide
  | cons c cs =>
    by_cases hc : c = 45
    · subst hc; rw [(digits_neg cs).2] at h; cases h
    · exact (digits_pos cs hc).1
theorem pow4 {m : Nat} (h : m ≤ 4) : (10 : Int) ^ m ≤ 10000 := by
  have : m = 0 ∨ m = 1 ∨ m = 2 ∨ m = 3 ∨ m = 4 := by omega
  rcases this with rfl | rfl | rfl | rfl | rfl <;> decide
theorem byte_at {x : ByteArray} {D : List UInt8} {t j : Nat} (h : x.data.toList = D.take t) (hj : j < x.size) : x[j] ∈ D := by
  have h1 : x[j] ∈ x.data.toList := by
    have : x.data.toList[j]'(by have : x.size = x.data.toList.length := Lib.size_eq x; omega) = x[j] := rfl
    rw [← this]; exact List.getElem_mem _
  rw [h] at h1
  exact List.mem_of_mem_take h1
theorem dg_grow {x : ByteArray} {k j : Nat} (hj : j < x.size) (hk : k ≤ j) : dg ((x.data.toList.take (j + 1)).drop k) = 10 * dg ((x.data.toList.take j).drop k) + ((x[j].toNat : Int) - 48) % 256 := by
  rw [take_snoc x j hj, List.drop_append_of_le_length (by rw [List.length_take]; have : x.size = x.data.toList.length := Lib.size_eq x; omega), dg_snoc]
/-- What Parse returns. -/
def ParseP (S : List UInt8) (w : World) (e : Ending) (w' : World) : Prop :=
  ∃ (z : Int) (ok : Bool) (T : Option Addr) (k r : Nat), e = .returned (.tuple #[.agg #[.bool (nOf z), .slice T k r], .bool ok]) ∧ Sl w' T k r (lOf z) ∧ PSpec S ok z ∧ Below w.heap.size w w'
theorem parse_no_mk {S : List UInt8} {w w' : World} (h : PSpec S false 0) (hb : Below w.heap.size w w') : ParseP S w (.returned (.tuple #[.agg #[.bool false, .slice none 0 0], .bool false])) w' :=
  ⟨0, false, none, 0, 0, rfl, by rw [lOf_zero]; exact Sl.nil _, h, hb⟩
theorem parse_yes_mk {S : List UInt8} {w w' : World} {z : Int} {T : Option Addr} {k r : Nat} (hs : Sl w' T k r (lOf z)) (h : PSpec S true z) (hb : Below w.heap.size w w') : ParseP S w (.returned (.tuple #[.agg #[.bool (nOf z), .slice T k r], .bool true])) w' :=
  ⟨z, true, T, k, r, rfl, hs, h, hb⟩
set_option maxRecDepth 100000 in
set_option maxHeartbeats 4000000 in
theorem r2parse_any (s : ByteArray) (w : World) (hs : s.size ≤ 1000) :
    Calls Tryd.prog 39 #[.string s] w (ParseP s.data.toList w) := by
  obtain ⟨i0, hi, hz0, hz1, hz2⟩ := info_parts int_info
  have hss : s.size = s.data.toList.length := Lib.size_eq s
  have HSS := Lib.hid hss
  clear hss
  obtain ⟨S, hS⟩ : ∃ S, s.data.toList = S := ⟨_, rfl⟩
  have HS := Lib.hid hS
  rw [hS] at HSS ⊢
  clear hS
  have X1 := Lib.hid (Bk.new 35 w #[.bool false, .slice none 0 0])
  have BW := Lib.hid ((Below.refl w.heap.size w).alloc (Nat.le_refl _) (.cells #[.bool false, .slice none 0 0] 35))
  go_enter Tryd.func39, Tryd.ntmps39
  go_upto_region 2 with fail
  obtain ⟨W0, hW0⟩ : ∃ W0, (w.alloc (.cells #[.bool false, .slice none 0 0] 35)) = W0 := ⟨_, rfl⟩
  rw [hW0] at X1 BW ⊢
  have hsz0 : w.heap.size + 1 ≤ W0.heap.size := by rw [← hW0, alloc_sz]; exact Nat.le_refl _
  clear hW0
  have hsz1 : s.size ≤ 1000 := hs
  go_cut [19] (fun tv wx => tv = .bool (isNeg S) ∧ wx = W0)
  case first =>
    cases S with
    | nil =>
      obtain rfl : s = ByteArray.empty := by rw [bytes_eq, HS.out]; rfl
      go_wp2_with fail
      go_meet
      exact ⟨rfl, rfl⟩
    | cons c cs =>
      have hp : 0 < s.size := by rw [HSS.out]; simp
      have hx0 := first_byte HS.out hp
      by_cases hc : c = 45
      · subst hc
        have HN := Lib.hid (digits_neg cs).2
        go_wp2_with fail
        go_meet
        exact ⟨by rw [HN.out], rfl⟩
      · have HN := Lib.hid (digits_pos cs hc).2
        have hcb : ((c.toNat : Int) == 45) = false := by
          simp only [beq_eq_false_iff_ne]
          intro e
          exact hc (UInt8.toNat_inj.1 (by have h48 : (45 : UInt8).toNat = 45 := rfl; omega))
        clear hc
        go_wp2_with fail
        go_meet
        exact ⟨by rw [HN.out], rfl⟩
  case rest =>
  obtain ⟨rfl, rfl⟩ := hcut
  obtain ⟨neg, hneg⟩ : ∃ neg, isNeg S = neg := ⟨_, rfl⟩
  have HNEG := Lib.hid hneg
  rw [hneg]
  clear hneg
  go_upto_if 19 with fail
  go_cut [4] (fun dv wx => ∃ x : ByteArray, dv = .string x ∧ x.data.toList = digits S ∧ x.size ≤ 1000 ∧ wx = wc)
  case first =>
    cases neg with
    | true =>
      have HC := Lib.hid (neg_cons HNEG.out)
      have hp : 1 ≤ s.size := by rw [HSS.out, HC.out]; simp
      have HR : Hid ((s.extract 1 s.size).data.toList = digits S) := by
        show _ = _
        rw [rest_list, HS.out]
        conv => lhs; rw [HC.out]
        rfl
      have hrs : (s.extract 1 s.size).size ≤ 1000 := by
        have h1 : (s.extract 1 s.size).size = (s.extract 1 s.size).data.toList.length := Lib.size_eq _
        rw [h1, HR.out]
        have := congrArg List.length HC.out
        rw [List.length_cons, ← HSS.out] at this
        omega
      have HRS := Lib.hid hrs
      clear hrs
      go_wp2_with fail
      go_meet
      exact ⟨_, rfl, HR.out, HRS.out, rfl⟩
    | false =>
      have HR := Lib.hid (pos_same HNEG.out)
      go_wp2_with fail
      go_meet
      exact ⟨_, rfl, by rw [HR.out]; exact HS.out, hsz1, rfl⟩
  case rest =>
    obtain ⟨x, rfl, hx, hxs, rfl⟩ := hcut
    have HD := Lib.hid hx
    have hxl : x.size = (digits S).length := by
      have h1 : x.size = x.data.toList.length := Lib.size_eq x
      rw [h1, hx]
    have HXL := Lib.hid hxl
    clear hx hxl
    have e0 : wc.cell? ⟨w.heap.size, 0, none⟩ = some (.bool false) := X1.out.c 0 rfl
    have e1 : wc.cell? ⟨w.heap.size, 1, none⟩ = some (.slice none 0 0) := X1.out.c 1 rfl
    have f0 := X1.out.fz 0
    have f1 := X1.out.fz 1
    by_cases hb : x.size = 0 ∨ 800 < x.size
    · have PN := Lib.hid (no_len (S := S) (by rw [← HXL.out]; exact hb))
      rcases hb with hb | hb
      · have h1 : ((x.size : Int) == 0) = true := by simp [hb]
        clear hb
        go_wp2_with fail
        refine bodyPost_ret (v := .tuple #[.agg #[.bool false, .slice none 0 0], .bool false]) (by simp [results, Tryd.results39, go_sem, *]) rfl (parse_no_mk PN.out (below_set2 BW.out (by omega) _ _))
      · have h1 : ((x.size : Int) == 0) = false := by simp only [beq_eq_false_iff_ne]; omega
        have h2 : (800 : Int) < (x.size : Int) := by omega
        clear hb
        go_wp2_with fail
        refine bodyPost_ret (v := .tuple #[.agg #[.bool false, .slice none 0 0], .bool false]) (by simp [results, Tryd.results39, go_sem, *]) rfl (parse_no_mk PN.out (below_set2 BW.out (by omega) _ _))
    · have h1 : ((x.size : Int) == 0) = false := by simp only [beq_eq_false_iff_ne]; omega
      have h2 : ¬ (800 : Int) < (x.size : Int) := by omega
      have hx1 : 0 < x.size := by omega
      clear e0 e1 f0 f1
      go_wp2_with fail
      go_loopw [4, 5] (fun dv lv wr => ∃ (t : Nat) (l : List Int) (y : ByteArray), dv = .string y ∧ y.size = t ∧ t ≤ 800 ∧ y.data.toList = (digits S).take t ∧ l ++ pd ((digits S).take t) = pd (digits S) ∧ dOk l ∧ wr.ownsRow (w.heap.size + 1) 3 1 lv l.length (ints l) ∧ Below w.heap.size w wr ∧ Bk 35 wr w.heap.size #[.bool false, .slice none 0 0] ∧ w.heap.size + 1 ≤ wr.heap.size) (fun dv _ _ => match dv with | .string y => y.size | _ => 0)
      case atStart => exact ⟨x.size, [], x, rfl, rfl, by omega, by rw [HXL.out, List.take_length]; exact HD.out, by rw [HXL.out, List.take_length, List.nil_append], dOk_nil, own_nil _ _, BW.out, X1.out, hsz0⟩
      case round =>
        obtain ⟨t, l, y, rfl, hyt, ht8, hy, hl, hdl, hown, hbw, hbk, hsw⟩ := hrel
        have HY := Lib.hid hy
        have HL := Lib.hid hl
        have HDL := Lib.hid hdl
        have HO := Lib.hid hown
        have BW := Lib.hid hbw
        have X1 := Lib.hid hbk
        have hll : l.length ≤ 1000 := by
          have := congrArg List.length hl
          rw [List.length_append] at this
          have h2 := pd_len (digits S)
          have h3 := HXL.out
          omega
        subst hyt
        clear hy hl hdl hbw hbk h1 h2 hb
        by_cases h0 : 0 < y.size
        · have HPD : Hid (pd ((digits S).take y.size) = dg ((y.data.toList.take y.size).drop (y.size - 4)) :: pd ((digits S).take (y.size - 4))) := by
            have hlen : ((digits S).take y.size).length = y.size := by
              rw [← HY.out]; exact (Lib.size_eq y).symm
            have := pd_cons (l := (digits S).take y.size) (fun e => by rw [e] at hlen; simp at hlen; omega)
            rw [hlen, List.take_take, Nat.min_eq_left (by omega)] at this
            rw [← HY.out] at this ⊢
            show pd _ = _
            rw [this]
            congr 3
            exact (List.take_of_length_le (by have : y.size = y.data.toList.length := Lib.size_eq y; omega)).symm
          have e0 : wr.cell? ⟨w.heap.size, 0, none⟩ = some (.bool false) := X1.out.c 0 rfl
          have e1 : wr.cell? ⟨w.heap.size, 1, none⟩ = some (.slice none 0 0) := X1.out.c 1 rfl
          have f0 := X1.out.fz 0
          have f1 := X1.out.fz 1
          clear hown
          go_wp2_with fail
          go_loop [7, 8] (fun nv iv => ∃ (j : Nat) (v : Int), y.size - 4 ≤ j ∧ j ≤ y.size ∧ iv = .int .i64 (j : Int) ∧ nv = .int .i64 v ∧ v = dg ((y.data.toList.take j).drop (y.size - 4)) ∧ 0 ≤ v ∧ v ≤ (10 : Int) ^ (j - (y.size - 4)) - 1) (fun _ iv => y.size - (intOf iv).toNat)
          case atStart =>
            refine ⟨y.size - 4, 0, Nat.le_refl _, by omega, ?_, rfl, ?_, by omega, by rw [Nat.sub_self]; decide⟩
            · congr 1; omega
            · rw [List.drop_of_length_le (by rw [List.length_take]; omega), dg_nil]
          case round =>
            obtain ⟨j, v, hj1, hj2, rfl, rfl, hv, v0, v1⟩ := hrel
            have hp4 := pow4 (m := j - (y.size - 4)) (by omega)
            have v2 : v ≤ 9999 := by omega
            have HV := Lib.hid hv
            have HV1 := Lib.hid v1
            clear hv v1 hp4
            by_cases hlt : j < y.size
            · have HE := Lib.hid (dg_grow (k := y.size - 4) hlt hj1)
              have HM := Lib.hid (byte_at HY.out hlt)
              by_cases b1 : (y[j].toNat : Int) < 48
              · have PN := Lib.hid (no_byte HM.out (.inl (by omega)))
                go_wp2_with fail
                refine bodyPost_ret (v := .tuple #[.agg #[.bool false, .slice none 0 0], .bool false]) (by simp [results, Tryd.results39, go_sem, *]) rfl (parse_no_mk PN.out (below_set2 BW.out (by omega) _ _))
              · by_cases b2 : 57 < (y[j].toNat : Int)
                · have PN := Lib.hid (no_byte HM.out (.inr (by omega)))
                  have b1' : decide ((y[j].toNat : Int) < 48) = false := decide_eq_false b1
                  go_wp2_with fail
                  refine bodyPost_ret (v := .tuple #[.agg #[.bool false, .slice none 0 0], .bool false]) (by simp [results, Tryd.results39, go_sem, *]) rfl (parse_no_mk PN.out (below_set2 BW.out (by omega) _ _))
                · have b1' : decide ((y[j].toNat : Int) < 48) = false := decide_eq_false b1
                  have b2' : decide (57 < (y[j].toNat : Int)) = false := decide_eq_false b2
                  clear e0 e1 f0 f1
                  go_wp2_with fail
                  go_round
                  case rel =>
                    refine ⟨j + 1, 10 * v + ((y[j].toNat : Int) - 48), by omega, by omega, by go_num, rfl, ?_, by omega, ?_⟩
                    · rw [HE.out, ← HV.out]; omega
                    · have h1 := HV1.out
                      rw [show j + 1 - (y.size - 4) = (j - (y.size - 4)) + 1 by omega, Int.pow_succ]
                      omega
                  case measure => simp [intOf] <;> omega
            · obtain rfl : j = y.size := by omega
              clear e0 e1 f0 f1
              go_wp2_with (at_builtin; refine wpList_append_own_at _ rfl _ _ 33 rfl (w.heap.size + 1) 3 i0 (.int .i64 0) 1 8 Tryd.underlying33 hi hz0 hz1 hz2 rfl (by decide) _ _ _ rfl (HO.out.alloc _) ⟨wr.heap.size, 0, none⟩ 1 1 [.int .i64 v] rfl rfl ?c1 ?c2 ?c3 ?c4 ?c5 ?_)
              try (case c1 => exact one_cell wr _)
              case c2 => first | exact ints_one [_] | rfl
              case c3 => unfold maxLen; omega
              case c4 => omega
              case c5 => first | (rw [alloc_sz]; omega) | omega
              intro v' w' hown' hg hnn hat
              have HO' : Hid (w'.ownsRow (w.heap.size + 1) 3 1 v' (l ++ [v]).length (ints (l ++ [v]))) := by
                show w'.ownsRow _ _ _ _ _ _
                rw [List.length_append, ints_app]
                exact hown'
              have HR := Lib.hid (fun k hk => own_row_ge HO.out (k := k) hk)
              have HG := Lib.hid hg
              clear hown' hg hnn hat
              go_wp2_with fail
              go_roundw
              case rel =>
                have hK : (max 0 ((y.size : Int) - 4)).toNat = y.size - 4 := by omega
                refine ⟨y.size - 4, l ++ [v], y.extract 0 (y.size - 4), by rw [hK], by rw [ByteArray.size_extract]; omega, by omega, ?_, ?_, dOk_snoc HDL.out v0 (by omega), HO'.out, ?_, ?_, ?_⟩
                · rw [chunk_list, List.drop_zero, HY.out, List.take_take, Nat.min_eq_left (by omega)]
                · rw [← HL.out, HPD.out, List.append_assoc, ← HV.out]; rfl
                · exact (BW.out.alloc BW.out.size _).grown HG.out (by rw [alloc_sz]; have := BW.out.size; omega) (fun k hk => by have := HR.out k hk; omega)
                · exact (HG.out.block _ (X1.out.alloc _).lt (fun e => by have := HR.out _ e.symm; omega)).trans (X1.out.alloc _)
                · have := HG.out.size
                  rw [alloc_sz] at this
                  omega
              case measure =>
                show (y.extract 0 (max 0 ((y.size : Int) - 4)).toNat).size < y.size
                rw [ByteArray.size_extract]; omega
        · have hy0 : y.size = 0 := by omega
          have HLE : Hid (l = pd (digits S)) := by
            have := HL.out
            rw [hy0, List.take_zero, pd_nil, List.append_nil] at this
            exact this
          have hp : 0 < s.size := by
            have h1 := digits_le S
            have h2 := HXL.out
            have h3 := HSS.out
            omega
          obtain ⟨A, c, rfl, hsl⟩ := sl_of_own hown
          have HSL := Lib.hid hsl
          have htop := hsl.top
          have hcap := hsl.cap
          clear hsl hown HO hy0
          cases neg with
          | true =>
            have hx0 := first_byte (x := s) (by rw [HS.out]; exact neg_cons HNEG.out) hp
            go_wp2_with fail
            ((with_reducible refine (number_any true A l.length c l (val l).toNat _ HSL.out (by omega) HDL.out (by have := (val_bd HDL.out).1; omega)).mono ?_); rintro e w5 ⟨T, k, r, rfl, hs2, hb2⟩)
            obtain ⟨zz, hzz⟩ : ∃ zz, sgn true ((val l).toNat : Nat) = zz := ⟨_, rfl⟩
            have HE : Hid (sgn (isNeg S) ((val (pd (digits S))).toNat : Nat) = zz) := by show _ = _; rw [HNEG.out, ← HLE.out, hzz]
            rw [hzz] at hs2 ⊢
            have S5 := Lib.hid hs2
            have X1 := Lib.hid (X1.out.below hb2)
            have BW := Lib.hid (below_on BW.out hb2)
            have hsw2 : w.heap.size + 1 ≤ w5.heap.size := Nat.le_trans hsw hb2.size
            clear hs2 hb2 hzz
            go_upto_region 19 with fail
            have Y1 := Lib.hid (Bk.new 35 w5 #[.bool (nOf (fitZ zz)), .slice T k r])
            have S5 := Lib.hid (S5.out.alloc (.cells #[.bool (nOf (fitZ zz)), .slice T k r] 35))
            have X1 := Lib.hid (X1.out.alloc (.cells #[.bool (nOf (fitZ zz)), .slice T k r] 35))
            have BW := Lib.hid (BW.out.alloc BW.out.size (.cells #[.bool (nOf (fitZ zz)), .slice T k r] 35))
            obtain ⟨yb, hyb⟩ : ∃ yb, w5.heap.size = yb := ⟨_, rfl⟩
            rw [hyb] at Y1 ⊢ hsw2
            obtain ⟨W6, hW6⟩ : ∃ W6, (w5.alloc (.cells #[.bool (nOf (fitZ zz)), .slice T k r] 35)) = W6 := ⟨_, rfl⟩
            rw [hW6] at Y1 S5 X1 BW ⊢
            clear hW6 hyb
            rcases Bool.eq_false_or_eq_true (fitB zz) with hf | hf
            · have HF := Lib.hid hf
              rw [fitZ_of hf] at Y1 S5
              rw [hf]
              clear hf
              have d0 : W6.cell? ⟨yb, 0, none⟩ = some (.bool (nOf zz)) := Y1.out.c 0 rfl
              have d1 : W6.cell? ⟨yb, 1, none⟩ = some (.slice T k r) := Y1.out.c 1 rfl
              go_wp2_with fail
              have TC := Lib.hid (r2text_any (nOf zz) T k r (lOf zz) _ S5.out)
              rw [zOf_lOf HF.out] at TC
              ((with_reducible refine (TC.out).mono ?_); rintro e w7 ⟨rfl, hb2⟩)
              clear TC d0 d1
              have S5 := Lib.hid (S5.out.below hb2)
              have X1 := Lib.hid (X1.out.below hb2)
              have Y1 := Lib.hid (Y1.out.below hb2)
              have BW := Lib.hid (below_on BW.out hb2)
              clear hb2
              have d0 : w7.cell? ⟨yb, 0, none⟩ = some (.bool (nOf zz)) := Y1.out.c 0 rfl
              have d1 : w7.cell? ⟨yb, 1, none⟩ = some (.slice T k r) := Y1.out.c 1 rfl
              have e0 : w7.cell? ⟨w.heap.size, 0, none⟩ = some (.bool false) := X1.out.c 0 rfl
              have e1 : w7.cell? ⟨w.heap.size, 1, none⟩ = some (.slice none 0 0) := X1.out.c 1 rfl
              have f0 := X1.out.fz 0
              have f1 := X1.out.fz 1
              cases he : (Lib.itoa zz == s.toList) with
              | true =>
                have YT : Hid (PSpec S true zz) := .inl ⟨rfl, HF.out, by rw [← HS.out, ← ByteArray.toList_eq]; exact beq_iff_eq.1 he⟩
                go_wp2_with fail
                refine bodyPost_ret (v := .tuple #[.agg #[.bool (nOf zz), .slice T k r], .bool true]) (by simp [results, Tryd.results39, go_sem, *]) rfl (parse_yes_mk (S5.out.bk2 X1.out _ _) YT.out (below_set2 BW.out (by omega) _ _))
              | false =>
                have PN := Lib.hid (no_text (S := S) (by
                  rw [HE.out, ← HS.out, ← ByteArray.toList_eq]
                  intro h; rw [h] at he; simp at he))
                go_wp2_with fail
                refine bodyPost_ret (v := .tuple #[.agg #[.bool false, .slice none 0 0], .bool false]) (by simp [results, Tryd.results39, go_sem, *]) rfl (parse_no_mk PN.out (below_set2 BW.out (by omega) _ _))
            · have PN := Lib.hid (no_fit (S := S) (by rw [HE.out]; exact hf))
              rw [hf]
              clear hf
              have e0 : W6.cell? ⟨w.heap.size, 0, none⟩ = some (.bool false) := X1.out.c 0 rfl
              have e1 : W6.cell? ⟨w.heap.size, 1, none⟩ = some (.slice none 0 0) := X1.out.c 1 rfl
              have f0 := X1.out.fz 0
              have f1 := X1.out.fz 1
              go_wp2_with fail
              refine bodyPost_ret (v := .tuple #[.agg #[.bool false, .slice none 0 0], .bool false]) (by simp [results, Tryd.results39, go_sem, *]) rfl (parse_no_mk PN.out (below_set2 BW.out (by omega) _ _))
          | false =>
            have hS0 : ∃ c0 cs, S = c0 :: cs ∧ c0 ≠ 45 := by
              cases hSc : S with
              | nil => have h3 := HSS.out; rw [hSc] at h3; rw [h3] at hp; exact absurd hp (by simp)
              | cons c0 cs =>
                refine ⟨c0, cs, rfl, fun e => ?_⟩
                have h1 := HNEG.out
                rw [hSc, e, (digits_neg cs).2] at h1
                cases h1
            obtain ⟨c0, cs, hSc, hc0⟩ := hS0
            have hx0 := first_byte (x := s) (by rw [HS.out]; exact hSc) hp
            have hcb : ((c0.toNat : Int) == 45) = false := by
              simp only [beq_eq_false_iff_ne]
              intro e
              exact hc0 (UInt8.toNat_inj.1 (by have h48 : (45 : UInt8).toNat = 45 := rfl; omega))
            clear hSc hc0
            go_wp2_with fail
            ((with_reducible refine (number_any false A l.length c l (val l).toNat _ HSL.out (by omega) HDL.out (by have := (val_bd HDL.out).1; omega)).mono ?_); rintro e w5 ⟨T, k, r, rfl, hs2, hb2⟩)
            obtain ⟨zz, hzz⟩ : ∃ zz, sgn false ((val l).toNat : Nat) = zz := ⟨_, rfl⟩
            have HE : Hid (sgn (isNeg S) ((val (pd (digits S))).toNat : Nat) = zz) := by show _ = _; rw [HNEG.out, ← HLE.out, hzz]
            rw [hzz] at hs2 ⊢
            have S5 := Lib.hid hs2
            have X1 := Lib.hid (X1.out.below hb2)
            have BW := Lib.hid (below_on BW.out hb2)
            have hsw2 : w.heap.size + 1 ≤ w5.heap.size := Nat.le_trans hsw hb2.size
            clear hs2 hb2 hzz
            go_upto_region 19 with fail
            have Y1 := Lib.hid (Bk.new 35 w5 #[.bool (nOf (fitZ zz)), .slice T k r])
            have S5 := Lib.hid (S5.out.alloc (.cells #[.bool (nOf (fitZ zz)), .slice T k r] 35))
            have X1 := Lib.hid (X1.out.alloc (.cells #[.bool (nOf (fitZ zz)), .slice T k r] 35))
            have BW := Lib.hid (BW.out.alloc BW.out.size (.cells #[.bool (nOf (fitZ zz)), .slice T k r] 35))
            obtain ⟨yb, hyb⟩ : ∃ yb, w5.heap.size = yb := ⟨_, rfl⟩
            rw [hyb] at Y1 ⊢ hsw2
            obtain ⟨W6, hW6⟩ : ∃ W6, (w5.alloc (.cells #[.bool (nOf (fitZ zz)), .slice T k r] 35)) = W6 := ⟨_, rfl⟩
            rw [hW6] at Y1 S5 X1 BW ⊢
            clear hW6 hyb
            rcases Bool.eq_false_or_eq_true (fitB zz) with hf | hf
            · have HF := Lib.hid hf
              rw [fitZ_of hf] at Y1 S5
              rw [hf]
              clear hf
              have d0 : W6.cell? ⟨yb, 0, none⟩ = some (.bool (nOf zz)) := Y1.out.c 0 rfl
              have d1 : W6.cell? ⟨yb, 1, none⟩ = some (.slice T k r) := Y1.out.c 1 rfl
              go_wp2_with fail
              have TC := Lib.hid (r2text_any (nOf zz) T k r (lOf zz) _ S5.out)
              rw [zOf_lOf HF.out] at TC
              ((with_reducible refine (TC.out).mono ?_); rintro e w7 ⟨rfl, hb2⟩)
              clear TC d0 d1
              have S5 := Lib.hid (S5.out.below hb2)
              have X1 := Lib.hid (X1.out.below hb2)
              have Y1 := Lib.hid (Y1.out.below hb2)
              have BW := Lib.hid (below_on BW.out hb2)
              clear hb2
              have d0 : w7.cell? ⟨yb, 0, none⟩ = some (.bool (nOf zz)) := Y1.out.c 0 rfl
              have d1 : w7.cell? ⟨yb, 1, none⟩ = some (.slice T k r) := Y1.out.c 1 rfl
              have e0 : w7.cell? ⟨w.heap.size, 0, none⟩ = some (.bool false) := X1.out.c 0 rfl
              have e1 : w7.cell? ⟨w.heap.size, 1, none⟩ = some (.slice none 0 0) := X1.out.c 1 rfl
              have f0 := X1.out.fz 0
              have f1 := X1.out.fz 1
              cases he : (Lib.itoa zz == s.toList) with
              | true =>
                have YT : Hid (PSpec S true zz) := .inl ⟨rfl, HF.out, by rw [← HS.out, ← ByteArray.toList_eq]; exact beq_iff_eq.1 he⟩
                go_wp2_with fail
                refine bodyPost_ret (v := .tuple #[.agg #[.bool (nOf zz), .slice T k r], .bool true]) (by simp [results, Tryd.results39, go_sem, *]) rfl (parse_yes_mk (S5.out.bk2 X1.out _ _) YT.out (below_set2 BW.out (by omega) _ _))
              | false =>
                have PN := Lib.hid (no_text (S := S) (by
                  rw [HE.out, ← HS.out, ← ByteArray.toList_eq]
                  intro h; rw [h] at he; simp at he))
                go_wp2_with fail
                refine bodyPost_ret (v := .tuple #[.agg #[.bool false, .slice none 0 0], .bool false]) (by simp [results, Tryd.results39, go_sem, *]) rfl (parse_no_mk PN.out (below_set2 BW.out (by omega) _ _))
            · have PN := Lib.hid (no_fit (S := S) (by rw [HE.out]; exact hf))
              rw [hf]
              clear hf
              have e0 : W6.cell? ⟨w.heap.size, 0, none⟩ = some (.bool false) := X1.out.c 0 rfl
              have e1 : W6.cell? ⟨w.heap.size, 1, none⟩ = some (.slice none 0 0) := X1.out.c 1 rfl
              have f0 := X1.out.fz 0
              have f1 := X1.out.fz 1
              go_wp2_with fail
              refine bodyPost_ret (v := .tuple #[.agg #[.bool false, .slice none 0 0], .bool false]) (by simp [results, Tryd.results39, go_sem, *]) rfl (parse_no_mk PN.out (below_set2 BW.out (by omega) _ _))
end Go.Proofs.YtfenmogbellhdaaDoor
