/-
  THE STATEMENT LexLines IS PROVED: for every text and every uint8 (the listed tables holding what the program's text lays, tied by the card), the law returns true and its arguments read as before.
-/
import Derived.Test.YtblakndpionmgaaDoorCards
import Derived.Test.YtblakndpionmgaaDoorTie
import Derived.Test.YtblakndpionmgaaDoorLxLaid
import Derived.Test.YtblakndpionmgaaDoorLxLM
import Derived.Test.YtblakndpionmgaaDoorLxV
namespace Go.Proofs.YtblakndpionmgaaDoor.lexLines
open Go.ChangeShapes Go.WideShapes Go.ChangeAt Go.RowKit
open Go.ChangeMaps (open_string shut_string)

theorem lcat_list (x y : ByteArray) : (x ++ y).data.toList = x.data.toList ++ y.data.toList := by simp
theorem linesI_le (xs : List Int) : (linesI xs).length ≤ xs.length := by
  have h : ∀ (xs acc : List Int), (xs.foldl addI acc).length ≤ acc.length + xs.length := by
    intro xs
    induction xs with
    | nil => intro acc; simp
    | cons x xs ih =>
      intro acc
      have h1 := ih (addI acc x)
      have h2 : (addI acc x).length ≤ acc.length + 1 := by unfold addI; split <;> simp
      rw [List.foldl_cons, List.length_cons]
      omega
  have := h xs []
  simpa [linesI] using this
theorem belowD (w : World) (k : Nat) : Below w.heap.size w (w.drewN k) := ⟨rfl, rfl, rfl, Nat.le_refl _, fun _ _ => rfl⟩
set_option maxRecDepth 100000 in
set_option maxHeartbeats 4000000 in
theorem walk_nat (s : ByteArray) (m : Nat) (hm255 : m ≤ 255) (w : World) (htab : Tabx w) (hst : St w) : Calls Tryd.prog 8 #[.string s, .int .u8 (m : Int)] w fun e w' => e = .returned (.bool true) ∧ Below w.heap.size w w' := by
  have HT := Lib.hid htab
  have HS := Lib.hid hst
  have HB0 : Hid (Below w.heap.size w w) := Below.refl _ _
  clear htab hst
  by_cases h3 : s.size ≤ 3000
  · have q3 : ¬ (3000 : Int) < (s.size : Int) := by omega
    have K1 := tokens_any s w HT.out HS.out
    have hln := (tokens_lines (l := s.data.toList) (by rw [← size_list]; omega)).1
    have hkn := tokens_kind (l := s.data.toList) (by rw [← size_list]; omega)
    have hn3 := tokens_count (l := s.data.toList) (by rw [← size_list]; exact h3)
    have hwf : 0 < (tokens s.data.toList).1.length → wfT 1 (tokens s.data.toList).1 := by
      intro h
      rcases hkn with ⟨he, -⟩ | ⟨-, he⟩
      · obtain ⟨-, -, -, hw⟩ := round_trip (s := s.data.toList) (by rw [← size_list]; exact h3) he
        exact hw
      · rw [he] at h; simp at h
    obtain ⟨ts, z1, z2, hr⟩ : ∃ ts z1 z2, tokens s.data.toList = (ts, z1, z2) := ⟨_, _, _, rfl⟩
    rw [hr] at K1 hln hn3 hwf
    simp only at hln hn3 hwf
    have HLT := Lib.hid hln
    have HN3 := Lib.hid hn3
    have HWFT := Lib.hid hwf
    clear hr hln hn3 hkn hwf
    go_enter Tryd.func8, Tryd.ntmps8
    go_wp2_with fail
    (refine K1.mono ?_); rintro e w1 ⟨A, n, c, rfl, hts, hb⟩
    have HA := Lib.hid (show Ts w1 A n c ts from hts)
    have HB1 := Lib.hid hb
    have HLN := Lib.hid HA.out.len
    have h47 : n ≤ 9223372036854775807 := Nat.le_trans HA.out.cap HA.out.top
    have WFT : Hid (0 < n → wfT 1 ts) := fun h => HWFT.out (by rw [HLN.out]; exact h)
    clear hts hb K1
    go_wp2_with fail
    go_loopw [8, 9] (fun lv iv wr => ∃ k q : Nat, k ≤ n ∧ iv = .int .i64 (k : Int) ∧ lv = .int .i64 (((linesI (keysL (ts.take k))).length : Nat) : Int) ∧ wr = w1.drewN q) (fun _ iv _ => n - (intOf iv).toNat)
    case atStart => exact ⟨0, 0, Nat.zero_le _, rfl, rfl, rfl⟩
    case round =>
      obtain ⟨k, q, hk, rfl, rfl, rfl⟩ := hrel
      by_cases hlt : k < n
      · obtain ⟨g, o, x, rfl, -, c0, c1, c2, c3, -⟩ := HA.out.at_ hlt
        have hkl : k < ts.length := by rw [HLN.out]; exact hlt
        have hbd := (HLT.out _ (getD_mem_tk hkl))
        have hcl : (linesI (keysL (ts.take k))).length ≤ 3001 := by
          have h1 := keys_len (ts.take k)
          have h2 := linesI_le (keysL (ts.take k))
          have h3 := HN3.out
          rw [List.length_take] at h1
          omega
        have HKL := Lib.hid hkl
        obtain ⟨t, ht⟩ : ∃ t, ts.getD k tk0 = t := ⟨_, rfl⟩
        rw [ht] at c0 c2 c3 hbd
        have HTK := Lib.hid ht
        obtain ⟨cn, hcn⟩ : ∃ cn, (linesI (keysL (ts.take k))).length = cn := ⟨_, rfl⟩
        rw [hcn] at hcl ⊢
        have HCN := Lib.hid hcn
        have r1 : (k : Int) < (n : Int) := by omega
        have gl : decide (t.line < 1) = false := decide_eq_false (by omega)
        have gl2 : ¬ t.line < 1 := by omega
        clear hkl ht hcn
        by_cases hkd : t.kind = 0
        · have gk : (t.kind == 0) = true := by rw [hkd]; rfl
          have gk2 : (t.kind != 0) = false := by rw [bne, gk]; rfl
          have HC : Hid ((linesI (keysL (ts.take (k + 1)))).length = cn) := by show _ = _; rw [keys_skip HKL.out (by rw [HTK.out]; exact hkd)]; exact HCN.out
          clear hkd
          by_cases hk0 : k = 0
          · subst hk0
            have g0 : decide ((0 : Int) < ((0 : Nat) : Int)) = false := rfl
            have c00 : w1.cell? ⟨g, o, none⟩ = some (.int .i64 t.kind) := by simpa using c0
            have c03 : w1.cell? ⟨g, o + 3, none⟩ = some (.int .i64 t.line) := by simpa using c3
            go_upto_region 8 with fail
            go_quiet (fail)
            go_upto_region 10 with fail
            go_quiet (fail)
            go_wp2_with fail
            go_roundw
            case rel => exact ⟨0 + 1, _, by omega, by go_num, by rw [HC.out], rfl⟩
            case measure => simp [intOf] <;> omega
          · have hprev := hk0
            have g0 : decide ((0 : Int) < (k : Int)) = true := decide_eq_true (by omega)
            have g1 : (0 : Int) < (k : Int) := by omega
            have g2 : 0 < k := by omega
            have gz : ((k : Int) == 0) = false := beq_eq_false_iff_ne.2 (by omega)
            obtain ⟨m, hm⟩ : ∃ m, k = m + 1 := ⟨k - 1, by omega⟩
            obtain ⟨g', o', x', hgo, -, -, -, -, f3, -⟩ := HA.out.at_ (k := m) (by omega)
            cases hgo
            have hwf := WFT.out (by omega)
            have hadj := ((wf_adj hwf).2 m (by rw [HLN.out]; omega)).1
            have hmk : k - 1 = m := by omega
            obtain ⟨p, hp⟩ : ∃ p, (ts.getD m tk0).line = p := ⟨_, rfl⟩
            rw [show m + 1 = k from hm.symm, HTK.out, hp] at hadj
            rw [hp] at f3
            have gp : decide (t.line < p) = false := decide_eq_false (by omega)
            have gp2 : ¬ t.line < p := by omega
            have hkm : (k : Int) - 1 = (m : Int) := by omega
            have r2 : (m : Int) < (n : Int) := by omega
            clear hm hp hwf hadj hmk hprev
            go_upto_region 8 with fail
            go_quiet (fail)
            go_upto_region 10 with fail
            go_quiet (fail)
            go_wp2_with fail
            go_roundw
            case rel => exact ⟨k + 1, _, by omega, by go_num, by rw [HC.out], rfl⟩
            case measure => simp [intOf] <;> omega
        · have gk : (t.kind == 0) = false := beq_eq_false_iff_ne.2 hkd
          have gk2 : (t.kind != 0) = true := by rw [bne, gk]; rfl
          have HKD := Lib.hid hkd
          clear hkd
          by_cases hk0 : k = 0
          · have hwf := WFT.out (by omega)
            have HC : Hid ((linesI (keysL (ts.take (k + 1)))).length = cn + 1) := by
              show _ = _
              rw [lines_new hwf HKL.out (by rw [HTK.out]; exact HKD.out) (.inl hk0), HCN.out]
            subst hk0
            have g0 : decide ((0 : Int) < ((0 : Nat) : Int)) = false := rfl
            have c00 : w1.cell? ⟨g, o, none⟩ = some (.int .i64 t.kind) := by simpa using c0
            have c03 : w1.cell? ⟨g, o + 3, none⟩ = some (.int .i64 t.line) := by simpa using c3
            clear hwf
            go_upto_region 8 with fail
            go_quiet (fail)
            go_upto_region 10 with fail
            go_quiet (fail)
            go_wp2_with fail
            go_roundw
            case rel => exact ⟨0 + 1, _, by omega, by go_num, by rw [HC.out, Int.natCast_add, Int.natCast_one], rfl⟩
            case measure => simp [intOf] <;> omega
          · have hprev := hk0
            have g0 : decide ((0 : Int) < (k : Int)) = true := decide_eq_true (by omega)
            have g1 : (0 : Int) < (k : Int) := by omega
            have g2 : 0 < k := by omega
            have gz : ((k : Int) == 0) = false := beq_eq_false_iff_ne.2 (by omega)
            obtain ⟨m, hm⟩ : ∃ m, k = m + 1 := ⟨k - 1, by omega⟩
            obtain ⟨g', o', x', hgo, -, -, -, -, f3, -⟩ := HA.out.at_ (k := m) (by omega)
            cases hgo
            have hwf := WFT.out (by omega)
            have hadj := ((wf_adj hwf).2 m (by rw [HLN.out]; omega)).1
            have hmk : k - 1 = m := by omega
            obtain ⟨p, hp⟩ : ∃ p, (ts.getD m tk0).line = p := ⟨_, rfl⟩
            rw [show m + 1 = k from hm.symm, HTK.out, hp] at hadj
            rw [hp] at f3
            have gp : decide (t.line < p) = false := decide_eq_false (by omega)
            have gp2 : ¬ t.line < p := by omega
            have hkm : (k : Int) - 1 = (m : Int) := by omega
            have r2 : (m : Int) < (n : Int) := by omega
            by_cases hl : p < t.line
            · have HC : Hid ((linesI (keysL (ts.take (k + 1)))).length = cn + 1) := by
                show _ = _
                rw [lines_new hwf HKL.out (by rw [HTK.out]; exact HKD.out) (.inr (by rw [hmk, HTK.out, hp]; exact hl)), HCN.out]
              have gg : decide (p < t.line) = true := decide_eq_true hl
              clear hm hp hwf hadj hmk hprev
              go_upto_region 8 with fail
              go_quiet (fail)
              go_upto_region 10 with fail
              go_quiet (fail)
              go_wp2_with fail
              go_roundw
              case rel => exact ⟨k + 1, _, by omega, by go_num, by rw [HC.out, Int.natCast_add, Int.natCast_one], rfl⟩
              case measure => simp [intOf] <;> omega
            · have HC : Hid ((linesI (keysL (ts.take (k + 1)))).length = cn) := by
                show _ = _
                rw [lines_old hwf HKL.out (by rw [HTK.out]; exact HKD.out) (by omega) (by rw [hmk, HTK.out, hp]; exact hl), HCN.out]
              have gg : decide (p < t.line) = false := decide_eq_false hl
              clear hm hp hwf hadj hmk hprev
              go_upto_region 8 with fail
              go_quiet (fail)
              go_upto_region 10 with fail
              go_quiet (fail)
              go_wp2_with fail
              go_roundw
              case rel => exact ⟨k + 1, _, by omega, by go_num, by rw [HC.out], rfl⟩
              case measure => simp [intOf] <;> omega
      · have hke : k = n := by omega
        have HCE : Hid ((linesI (keysL (ts.take k))).length = linesN ts) := by
          show _ = _
          rw [hke, List.take_of_length_le (by rw [HLN.out]; exact Nat.le_refl _)]; rfl
        rw [HCE.out]
        obtain ⟨lz, hlz⟩ : ∃ lz, linesN ts = lz := ⟨_, rfl⟩
        rw [hlz]
        have HLZ := Lib.hid hlz
        clear hlz
        have r1 : ¬ (k : Int) < (n : Int) := by omega
        have HBQ := Lib.hid (below_dn HB1.out q)
        have HAQ := Lib.hid (show Ts (w1.drewN q) A n c ts from HA.out.below (belowD w1 q))
        clear hke
        generalize w1.drewN q = W at *
        go_wp2_with fail
        go_loop [10, 11] (fun tv iv => ∃ (j : Nat) (tx : ByteArray), j ≤ m ∧ iv = .int .i64 (j : Int) ∧ tv = .string tx ∧ tx.data.toList = repW j) (fun _ iv => m - (intOf iv).toNat)
        case atStart => exact ⟨0, ⟨#[]⟩, Nat.zero_le _, rfl, rfl, rfl⟩
        case round =>
          obtain ⟨j, tx, hj, rfl, rfl, htx⟩ := hrel
          have HTX := Lib.hid htx
          have htz : tx.size = 3 * j := by rw [size_list, htx, repW_len]
          clear htx
          by_cases hjm : j < m
          · have q1 : (j : Int) < (m : Int) := by omega
            have HX2 : Hid ((tx ++ ⟨#[120, 49, 10]⟩ : ByteArray).data.toList = repW (j + 1)) := by show _ = _; rw [lcat_list, HTX.out]; exact repW_snoc j
            go_wp2_with fail
            go_round
            case rel => exact ⟨j + 1, _, by omega, by go_num, rfl, HX2.out⟩
            case measure => simp [intOf] <;> omega
          · have hje : j = m := by omega
            have q1 : ¬ (j : Int) < (m : Int) := by omega
            subst hje
            have K2 := fun W h1 h2 => tokens_any tx W h1 h2
            rw [HTX.out, words_tokens hm255] at K2
            have CL1 := fun W (h : Ts W A n c ts) => lines_any A n c ts W h (by rw [← HLN.out]; have := HN3.out; omega) (fun u hu => by have := HLT.out u hu; omega)
            rw [HLZ.out] at CL1
            go_wp2_with fail
            (refine (K2 _ (tabx_on HT.out HBQ.out) (HS.out.below HBQ.out)).mono ?_); rintro e w2 ⟨B, n2, c2, rfl, hts, hb⟩
            have HC2 := Lib.hid (show Ts w2 B n2 c2 (wtoks j 1) from hts)
            have HA2 := Lib.hid (HAQ.out.below hb)
            have HB2 := Lib.hid (nbelow_on HBQ.out hb)
            have hn2 : n2 = j + 1 := by rw [← HC2.out.len, wtoks_len]
            subst hn2
            have bl : ((lz : Int) == (lz : Int)) = true := beq_self_eq_true _
            clear hts hb K2
            go_wp2_with fail
            (refine (CL1 w2 HA2.out).mono ?_); rintro e w3 ⟨rfl, hb⟩
            have HC3 := Lib.hid (HC2.out.below hb)
            have HB3 := Lib.hid (nbelow_on HB2.out hb)
            have CL2 := lines_any B (j + 1) c2 (wtoks j 1) w3 HC3.out (by omega) (fun u hu => by have := words_bd j 1 (by omega) u hu; omega)
            rw [words_lines] at CL2
            have bj : ((j : Int) == (j : Int)) = true := beq_self_eq_true _
            have bn : ((j + 1 : Nat) : Int) = (j : Int) + 1 := by omega
            have bn2 : ((j : Int) + 1 == (j : Int) + 1) = true := beq_self_eq_true _
            clear hb CL1
            go_wp2_with fail
            (refine CL2.mono ?_); rintro e w4 ⟨rfl, hb⟩
            have HB4 := Lib.hid (nbelow_on HB3.out hb)
            clear hb CL2
            go_wp2_with fail
            (refine (awake_any w4 (tabx_on HT.out HB4.out) (HS.out.below HB4.out)).mono ?_); rintro e w9 ⟨rfl, hb⟩
            have HB9 := Lib.hid (nbelow_on HB4.out hb)
            clear hb
            go_wp2_with fail
            go_ret
            exact ⟨rfl, HB9.out⟩
  · have q3 : (3000 : Int) < (s.size : Int) := by omega
    go_enter Tryd.func8, Tryd.ntmps8
    go_wp2_with fail
    (refine (awake_any w (tabx_on HT.out HB0.out) (HS.out.below HB0.out)).mono ?_); rintro e w9 ⟨rfl, hb⟩
    have HB9 := Lib.hid (nbelow_on HB0.out hb)
    clear hb
    go_wp2_with fail
    go_ret
    exact ⟨rfl, HB9.out⟩
theorem walk (s : ByteArray) (a : Int) (ha : 0 ≤ a ∧ a ≤ 255) (w : World) (htab : Tabx w) (hst : St w) : Calls Tryd.prog 8 #[.string s, .int .u8 a] w fun e w' => e = .returned (.bool true) ∧ Below w.heap.size w w' := by
  obtain ⟨m, rfl⟩ : ∃ m : Nat, a = (m : Int) := ⟨a.toNat, by omega⟩
  exact walk_nat s m (by omega) w htab hst

set_option maxRecDepth 100000 in
theorem contract (H : Type) (enc : TypeId × Value → H) (W : World) (base : Nat) (args : Array Value) (ds gs : List (DataW H)) (before : List MemPlace)
    (hval : ∀ (j : Nat) t v, Tryd.f8.params[j]? = some t → args[j]? = some v → Value.okWide Tryd.prog W .any base t v)
    (hW : DataW.Whole enc Tryd.prog Tryd.f8.params.toList Rows.lexLinesSpec.vars false W args.toList ds gs before) (hL : laidMetH Tryd.prog Rows.lexLinesRow.laid W) (_hSh : W.ShapedOpen Tryd.prog) :
    Calls Tryd.prog 8 args W fun e W' => ∃ v, e = .returned v ∧ Rows.lexLinesSpec.post enc Tryd.prog Tryd.f8 false true false false W args v W' := by
  have hW' := hW
  obtain ⟨p, q, hA0, hV, rfl, hfz, hnd⟩ := hW
  have hA : DataW.TrodAll enc Tryd.prog W 0 (fun _ => true) true Tryd.f8.params.toList args.toList ds p := hA0
  have hlt : ∀ x ∈ p, x.block < W.heap.size := fun x hx => hW'.lt x (by simp [hx])
  have hAll := hA
  rw [Tryd.params8] at hA hval
  obtain ⟨v0, vs0, d0, ds0, p0, q0, hargs, rfl, rfl, h0, r0⟩ := trodAll_cons hA
  obtain ⟨v1, vs1, d1, ds1, p1, q1, rfl, rfl, rfl, h1, r1⟩ := trodAll_cons r0
  obtain ⟨rfl, rfl, rfl⟩ := trodAll_nil r1
  obtain rfl : args = #[v0, v1] := by cases args; simp_all
  obtain ⟨rfl, rfl⟩ := trodVars_none hV
  obtain ⟨t1, rfl, _, _, g1⟩ := open_string Tryd.underlying9 (hval 0 9 v0 rfl rfl) h0
  obtain ⟨a2, rfl, _, _, g2⟩ := open_int Tryd.underlying5 (hval 1 5 v1 rfl rfl) h1
  refine (walk t1 a2 (u8_wf g2) W (tabx_of_laid hL) (st_of_laid hL)).mono fun e W' ⟨he, hg⟩ => ?_
  subst he
  refine ⟨_, rfl, _, _, _, [], _, [], hW', trodAll_mk1 (shut_bool Tryd.underlying4 _), trodAll_below hg (fun t ht => ?_) hAll hlt, rfl, hg.frame _, fun h => by cases h⟩
  rw [Tryd.params8] at ht
  simp only [List.mem_cons, List.not_mem_nil, or_false] at ht
  rcases ht with rfl | rfl
  · exact read_string
  · exact read_u8

set_option maxRecDepth 100000 in
theorem reads (os : Os) {H : Type} (enc : TypeId × Value → H) : ∃ places, DataW.whole enc Tryd.prog ((World.laidAll Tryd.prog os laidNames).forCall (fun _ _ => 0) ⟨#[], #[Value.string ByteArray.empty, Value.int .u8 0], []⟩).memory Tryd.f8.params.toList Rows.lexLinesSpec.vars false #[Value.string ByteArray.empty, Value.int .u8 0].toList 8 = some ([.lit (.string []), .lit (.int .u8 0)], [], places) :=
  ⟨[], by kernel_rfl⟩

set_option maxRecDepth 100000 in
theorem lifted (os : Os) (started : os.Started) (H : Type) (enc : TypeId × Value → H) (F : Stop.Interp) :
    ReturnsInHanded {} Tryd.checked os 8 .any ((OpenSpec.ofChange Rows.lexLinesSpec).preRow enc Tryd.prog Tryd.f8 Rows.lexLinesRow.domain false Rows.lexLinesRow.laid) (((OpenSpec.ofChange Rows.lexLinesSpec).at F).post enc Tryd.prog Tryd.f8 false true false false) := by
  obtain ⟨places, hx⟩ := reads os enc
  refine returnsInHanded_of_row (C := Tryd.checked) (s := OpenSpec.ofChange Rows.lexLinesSpec) own started (by kernel_rfl) Tryd.func8
    (witness_row_at (enc := enc) (C := Tryd.checked) false (World.laidAll Tryd.prog os laidNames) #[Value.string ByteArray.empty, Value.int .u8 0] rfl (by kernel_rfl) (by kernel_rfl) (by kernel_rfl)
      (OpenSpec.preRow_of_cond 8 hx (by kernel_rfl) (fun k hk => by cases hk) (by kernel_rfl) (laid_met os _))) ?_
  intro W base args ds gs before hval hW _ _ _ hL hSh _
  exact contract H enc W base args ds gs before hval hW hL hSh

theorem said : Rows.LexLinesSaid :=
  OpenClaim.holds_of_cond 8 Tryd.f8 rfl rfl rfl rfl rfl rfl rfl ⟨rfl, rfl, rfl, rfl, rfl⟩ rfl rfl rfl rfl rfl (by kernel_rfl) Tryd.func8 (by kernel_rfl)
    (of_decide_eq_true (by kernel_rfl)) (by unfold Func.isWrapper; first | (rw [if_pos (by decide +kernel)]; kernel_rfl) | (rw [if_neg (by decide +kernel)]; exact ⟨rfl, rfl⟩))
    (fun os started H enc _ F => by rw [OpenClaim.pre_eq_preRow]; exact lifted os started H enc F)

theorem plain (f : FuncId) (fn : Func) (hf : Tryd.pinned.checked.prog.funcNamed "liquidcheck/liquidchecklaw05.LexLines" = some f) (hfn : Tryd.pinned.checked.prog.funcs[f]? = some fn) :
    false = Tryd.pinned.checked.prog.looks [] ∧ ∀ (j : Nat) t, fn.params[j]? = some t → Tryd.pinned.checked.prog.wantsStandIn t = false := by
  obtain rfl : f = 8 := Option.some.inj ((show Tryd.prog.funcNamed "liquidcheck/liquidchecklaw05.LexLines" = some 8 by kernel_rfl).symm.trans hf) |>.symm
  obtain rfl : fn = Tryd.f8 := (Option.some.inj (Tryd.func8.symm.trans hfn)).symm
  refine ⟨by kernel_rfl, fun j t ht => ?_⟩
  rw [Tryd.params8] at ht
  have hm := Array.mem_of_getElem? ht
  simp only [List.mem_toArray, List.mem_cons, List.not_mem_nil, or_false] at hm
  rcases hm with rfl | rfl
  · exact (show Tryd.prog.wantsStandIn 9 = false by kernel_rfl)
  · exact (show Tryd.prog.wantsStandIn 5 = false by kernel_rfl)

theorem card : Rows.LexLinesCardSaid :=
  Claim7.holds_tied_plain_at .later [] _ _ _ _ said (fun _ h => by cases h) (by kernel_rfl) (fun _ h => by cases h) lexLines_row_tie rfl ⟨rfl, rfl⟩ (by kernel_rfl) rfl plain (by kernel_rfl)
end Go.Proofs.YtblakndpionmgaaDoor.lexLines
