/-
  Contracts of the program's digitOf and Parse.
-/
import Derived.Test.YtfenmogbellhdaaDoorBigU
import Derived.Test.YtfenmogbellhdaaDoorBigJ
namespace Go.Proofs.YtfenmogbellhdaaDoor
open Go.RowKit

theorem take_snoc (s : ByteArray) (k : Nat) (h : k < s.size) : s.data.toList.take (k + 1) = s.data.toList.take k ++ [s[k]] := by
  rw [List.take_succ_eq_append_getElem (by simpa using h)]; rfl

set_option maxHeartbeats 400000 in
theorem digitOf_any (s : ByteArray) (w : World) (hs : s.size ≤ 4) :
    Calls Tryd.prog 82 #[.string s] w fun e w' => e = .returned (.int .i64 (dg s.data.toList)) ∧ w = w' := by
  go_enter Tryd.func82, Tryd.ntmps82
  go_wp2_with fail
  go_loop [3, 7] (fun v i => ∃ k : Nat, k ≤ s.size ∧ i = .int .i64 (k : Int) ∧ v = .int .i64 (dg (s.data.toList.take k))) (fun _ i => s.size - (intOf i).toNat)
  case atStart => exact ⟨0, Nat.zero_le _, rfl, rfl⟩
  case round =>
    obtain ⟨k, hk, rfl, rfl⟩ := hrel
    have hb := dg_le (l := s.data.toList.take k) (by rw [List.length_take]; omega)
    obtain ⟨b1, b2⟩ := hb
    by_cases hlt : k < s.size
    · have HE : Hid (dg (s.data.toList.take (k + 1)) = 10 * dg (s.data.toList.take k) + ((s[k].toNat : Int) - 48) % 256) := by
        show dg _ = _
        rw [take_snoc s k hlt, dg_snoc]
      generalize dg (s.data.toList.take k) = v at *
      go_wp2_with fail
      go_round
      case rel => exact ⟨k + 1, by omega, by go_num, by rw [HE.out]⟩
      case measure => simp [intOf] <;> omega
    · have HE : Hid (s.data.toList.take k = s.data.toList) := List.take_of_length_le (by have : s.size = s.data.toList.length := Lib.size_eq s; omega)
      go_wp2_with fail
      go_ret
      exact ⟨ret_int (by rw [HE.out]), rfl⟩

/-! ### Parse -/
theorem trim_eq {xs : List Int} {m : Nat} (hd : dOk xs) (h3 : val (xs.take m) = val xs) (hm : m ≤ xs.length) (h5 : m = 0 ∨ xs.getD (m - 1) 0 ≠ 0) : xs.take m = digs (val xs).toNat := by
  rw [← h3]
  refine (digs_val (dOk_take hd m) ?_).symm
  rcases h5 with rfl | h5
  · rw [List.take_zero]; simp [topOk]
  · rcases Nat.eq_zero_or_pos m with h0 | h0
    · subst h0; rw [List.take_zero]; simp [topOk]
    · obtain ⟨m', rfl⟩ : ∃ m', m = m' + 1 := ⟨m - 1, by omega⟩
      rw [Nat.add_sub_cancel] at h5
      rw [take_succ_at xs (by omega)]
      refine topOk_snoc ?_
      simpa [List.getD, show m' < xs.length by omega] using h5
/-- What is read of the text of a number. -/
theorem parse_of {S : List UInt8} {m : Nat} {x : Int} (hx : Lib.itoa x = S) (h3 : val ((pd (digits S)).take m) = val (pd (digits S))) (hm : m ≤ (pd (digits S)).length) (h5 : m = 0 ∨ (pd (digits S)).getD (m - 1) 0 ≠ 0) :
    (isNeg S && decide (0 < m)) = nOf x ∧ (pd (digits S)).take m = lOf x := by
  subst hx
  obtain ⟨c1, c2⟩ := itoa_cut x
  rw [c2] at h3 hm h5 ⊢
  rw [c1]
  obtain ⟨p1, p2⟩ := pd_dec_ok x.natAbs
  have e := trim_eq p1 h3 hm h5
  rw [p2, Int.toNat_natCast] at e
  have hl : ((pd (Lib.decDigits x.natAbs)).take m).length = m := by rw [List.length_take]; omega
  rw [e] at hl
  refine ⟨?_, e⟩
  cases hn : nOf x with
  | false => rfl
  | true =>
    have := nOf_true hn
    have hm0 : 0 < m := by
      refine Nat.pos_of_ne_zero fun h0 => ?_
      rw [h0] at hl
      have := digs_eq_nil.1 (List.eq_nil_of_length_eq_zero hl)
      omega
    simp [hm0]
theorem parse_no {S : List UInt8} {m : Nat} (h3 : val ((pd (digits S)).take m) = val (pd (digits S))) (hm : m ≤ (pd (digits S)).length) (h5 : m = 0 ∨ (pd (digits S)).getD (m - 1) 0 ≠ 0)
    (h : Lib.itoa (zOf (isNeg S && decide (0 < m)) ((pd (digits S)).take m)) ≠ S) : PSpec S false 0 := by
  refine .inr ⟨rfl, rfl, fun x hf hx => h ?_⟩
  obtain ⟨e1, e2⟩ := parse_of hx h3 hm h5
  rw [e1, e2, zOf_lOf hf, hx]
theorem parse_yes {S : List UInt8} {m : Nat} (h3 : val ((pd (digits S)).take m) = val (pd (digits S))) (hm : m ≤ (pd (digits S)).length) (h5 : m = 0 ∨ (pd (digits S)).getD (m - 1) 0 ≠ 0)
    (h : Lib.itoa (zOf (isNeg S && decide (0 < m)) ((pd (digits S)).take m)) = S) :
    PSpec S true (zOf (isNeg S && decide (0 < m)) ((pd (digits S)).take m)) ∧ (isNeg S && decide (0 < m)) = nOf (zOf (isNeg S && decide (0 < m)) ((pd (digits S)).take m)) ∧ (pd (digits S)).take m = lOf (zOf (isNeg S && decide (0 < m)) ((pd (digits S)).take m)) := by
  obtain ⟨e1, e2⟩ := parse_of h h3 hm h5
  exact ⟨.inl ⟨rfl, fit_zOf _ _, h⟩, e1, e2⟩

theorem cut_any (s d : ByteArray) (neg : Bool) (w : World) (hd : d.data.toList = digits s.data.toList) (hn : isNeg s.data.toList = neg) :
    Calls Tryd.prog 81 #[.string s, .string ⟨#[45]⟩] w fun e w' => e = .returned (.tuple #[.string d, .bool neg]) ∧ w = w' := by
  refine (Tryd.strings_CutPrefix s ⟨#[45]⟩ w).mono ?_
  rintro e w' ⟨rfl, rfl⟩
  refine ⟨?_, rfl⟩
  subst hn
  have : d = ⟨(Lib.trimPrefix s.data.toList [45]).toArray⟩ := bytes_eq.2 hd
  rw [this]
  rfl
theorem digits_le (l : List UInt8) : (digits l).length ≤ l.length := by
  unfold digits Lib.trimPrefix; split <;> simp
theorem chunk_list (d : ByteArray) (a e : Nat) : (d.extract a e).data.toList = (d.data.toList.take e).drop a := by
  rw [ByteArray.data_extract, Array.toList_extract]
  simp [List.extract_eq_take_drop, List.drop_take]

set_option maxRecDepth 100000 in
set_option maxHeartbeats 2000000 in
theorem parse_big (s : ByteArray) (w : World) (hs : s.size ≤ 1000) (htab : Tab w) :
    Calls Tryd.prog 38 #[.string s] w fun e w' => ∃ (z : Int) (ok : Bool) (T : Option Addr) (k r : Nat), e = .returned (.tuple #[.agg #[.bool (nOf z), .slice T k r], .bool ok]) ∧ Sl w' T k r (lOf z) ∧ PSpec s.data.toList ok z ∧ Below w.heap.size w w' := by
  obtain ⟨i0, hi, hz0, hz1, hz2⟩ := info_parts int_info
  obtain ⟨d, hd⟩ : ∃ d : ByteArray, d.data.toList = digits s.data.toList := ⟨⟨(digits s.data.toList).toArray⟩, by simp⟩
  obtain ⟨neg, hn⟩ : ∃ neg, isNeg s.data.toList = neg := ⟨_, rfl⟩
  have hds : d.size ≤ 1000 := by
    have h1 : d.size = d.data.toList.length := Lib.size_eq d
    have h2 : s.size = s.data.toList.length := Lib.size_eq s
    have := digits_le s.data.toList
    rw [h1, hd]; omega
  have hdl : d.data.toList.length = d.size := (Lib.size_eq d).symm
  have HDL := Lib.hid hdl
  have HD := Lib.hid hd
  have HN := Lib.hid hn
  have HT := Lib.hid htab
  clear hd hn htab hdl
  go_enter Tryd.func38, Tryd.ntmps38
  go_wp2_with fail
  (refine (cut_any s d neg _ HD.out HN.out).mono ?_; rintro e w' ⟨rfl, rfl⟩)
  go_wp2_with fail
  go_loopw [6, 7] (fun dv iv wr => ∃ (t : Int) (l : List Int), iv = .int .i64 t ∧ t ≤ d.size ∧ -4 ≤ t ∧ l ++ pd (d.data.toList.take t.toNat) = pd d.data.toList ∧ wr.ownsRow (w.heap.size + 1) 3 1 dv l.length (ints l) ∧ Below w.heap.size w wr ∧ Bx wr w.heap.size (.bool false) (.slice none 0 0)) (fun _ iv _ => (intOf iv).toNat)
  case atStart => exact ⟨(d.size : Int), [], rfl, Int.le_refl _, by omega, by rw [List.nil_append, Int.toNat_natCast, List.take_of_length_le (by rw [HDL.out]; exact Nat.le_refl _)], own_nil _ _, (Below.refl _ _).alloc (Nat.le_refl _) _, Bx.new _ _ _⟩
  case round =>
    obtain ⟨t, l, rfl, htd, ht4, hl, hown, hbw, hbx⟩ := hrel
    have HL := Lib.hid hl
    have HO := Lib.hid hown
    have HB := Lib.hid hbw
    have HX := Lib.hid hbx
    clear hl hbw hbx
    by_cases ht : 0 < t
    · obtain ⟨E, rfl⟩ := Int.eq_ofNat_of_zero_le (Int.le_of_lt ht)
      have hE : E ≤ d.size := by omega
      have hE0 : 0 < E := by omega
      rw [Int.toNat_natCast] at HL
      have HPD : Hid (pd (d.data.toList.take E) = dg ((d.data.toList.take E).drop (E - 4)) :: pd (d.data.toList.take (E - 4))) := by
        have hlen : (d.data.toList.take E).length = E := by rw [List.length_take, HDL.out]; omega
        have := pd_cons (l := d.data.toList.take E) (fun e => by rw [e] at hlen; simp at hlen; omega)
        rw [hlen, List.take_take, Nat.min_eq_left (by omega)] at this
        exact this
      have hll : l.length ≤ 1000 := by
        have := congrArg List.length HL.out
        rw [List.length_append] at this
        have h2 := pd_len d.data.toList
        rw [HDL.out] at h2
        omega
      have HC := Lib.hid (chunk_list d (E - 4) E)
      have hcs : (d.extract (E - 4) E).size ≤ 4 := by rw [ByteArray.size_extract]; omega
      clear hown
      go_wp2_with fail
      rw [show (max ((E : Int) - 4) 0).toNat = E - 4 from by omega]
      (refine (digitOf_any (d.extract (E - 4) E) _ hcs).mono ?_; rintro e w3 ⟨rfl, rfl⟩)
      rw [HC.out]
      go_wp2_with (at_builtin; refine wpList_append_own_at _ rfl _ _ 33 rfl (w.heap.size + 1) 3 i0 (.int .i64 0) 1 8 Tryd.underlying33 hi hz0 hz1 hz2 rfl (by decide) _ _ _ rfl (HO.out.alloc _) ⟨wr.heap.size, 0, none⟩ 1 1 [.int .i64 (dg ((d.data.toList.take E).drop (E - 4)))] rfl rfl ?c1 ?c2 ?c3 ?c4 ?c5 ?_)
      case c1 => exact one_cell wr _
      case c2 => exact ints_one [_]
      case c3 => unfold maxLen; omega
      case c4 => omega
      case c5 => rw [alloc_sz]; have := HX.out.lt; omega
      intro v' w' hown' hg hnn hat
      have HO' := Lib.hid hown'
      have HG := Lib.hid hg
      have HR := Lib.hid (fun k hk => own_row_ge HO.out (k := k) hk)
      clear hown' hg hnn hat
      go_wp2_with fail
      go_roundw
      case rel =>
        refine ⟨(E : Int) - 4, l ++ [dg ((d.data.toList.take E).drop (E - 4))], by go_num, by omega, by omega, ?_, ?_, ?_, ?_⟩
        · rw [← HL.out, HPD.out, List.append_assoc, show ((E : Int) - 4).toNat = E - 4 from by omega]; rfl
        · have := HO'.out
          rw [List.length_append, ints_app]
          exact this
        · exact (HB.out.alloc HB.out.size _).grown HG.out (by rw [alloc_sz]; have := HB.out.size; omega) (fun k hk => by have := HR.out k hk; omega)
        · exact (HX.out.alloc _).grown HG.out (fun e => by have := HR.out _ e; omega)
      case measure => simp [intOf] <;> omega
    · have ht0 : t.toNat = 0 := by omega
      rw [ht0, List.take_zero, pd_nil, List.append_nil] at HL
      obtain ⟨A, c, rfl, hsl⟩ := sl_of_own hown
      have HS := Lib.hid hsl
      have htop := hsl.top
      have hcap := hsl.cap
      clear hsl hown HO ht0
      go_wp2_with fail
      (refine (trimmed_gen A l.length c l _ HS.out).mono ?_; rintro e w3 ⟨R, k, r, rfl, hR, _, h3, hk, h5, rfl⟩)
      rw [HL.out] at hR h3 h5
      have hkl : k ≤ (pd d.data.toList).length := by rw [← HL.out]; exact hk
      have HR := Lib.hid hR
      have H3 := Lib.hid h3
      have H5 := Lib.hid h5
      clear hR h3 h5
      go_wp2_with fail
      (refine (signed_gen neg R k r ((pd d.data.toList).take k) _ HR.out).mono ?_; rintro e w4 ⟨rfl, hR, hb⟩)
      have HR4 := Lib.hid hR
      have HX4 := Lib.hid (HX.out.below hb)
      have HB4 := Lib.hid (HB.out.trans (hb.mono HB.out.size))
      have htop4 := hR.top
      have hcap4 := hR.cap
      clear hR hb
      have PN := Lib.hid (parse_no (S := s.data.toList) (m := k) (by rw [← HD.out]; exact H3.out) (by rw [← HD.out]; exact hkl) (by rw [← HD.out]; exact H5.out))
      have PY := Lib.hid (parse_yes (S := s.data.toList) (m := k) (by rw [← HD.out]; exact H3.out) (by rw [← HD.out]; exact hkl) (by rw [← HD.out]; exact H5.out))
      rw [HN.out, ← HD.out] at PN PY
      generalize hnb : (neg && decide (0 < k)) = nb at *
      clear hnb H3 H5 hkl
      generalize (pd d.data.toList).take k = xs at *
      have TB : Hid (Tab (w4.alloc (.cells #[.bool nb, .slice R k r] 35))) := tab_on HT.out (HB4.out.alloc HB4.out.size _)
      have XN := Lib.hid (Bx.new w4 (.bool nb) (.slice R k r))
      have HRN := Lib.hid (HR4.out.alloc (.cells #[.bool nb, .slice R k r] 35))
      have HXN := Lib.hid (HX4.out.alloc (.cells #[.bool nb, .slice R k r] 35))
      have HBN : Hid (Below w.heap.size w (w4.alloc (.cells #[.bool nb, .slice R k r] 35))) := HB4.out.alloc HB4.out.size _
      go_wp2_with fail
      generalize w4.alloc (.cells #[.bool nb, .slice R k r] 35) = W at *
      (refine (text_big nb R k r xs _ HRN.out TB.out).mono ?_; rintro e w5 ⟨rfl, hb5⟩)
      have HR5 := Lib.hid (HRN.out.below hb5)
      have HX5 := Lib.hid (HXN.out.below hb5)
      have X5 := Lib.hid (XN.out.below hb5)
      have HB5 := Lib.hid (HBN.out.trans (hb5.mono HBN.out.size))
      have d1 := HX5.out.c0
      have d2 := HX5.out.c1
      have d3 := HX5.out.fz 0
      have d4 := HX5.out.fz 1
      have d5 := X5.out.c0
      have d6 := X5.out.c1
      clear hb5
      cases he : (Lib.itoa (zOf nb xs) == s.toList) with
      | true =>
        have hy : Lib.itoa (zOf nb xs) = s.data.toList := (beq_iff_eq.1 he).trans (ByteArray.toList_eq s)
        have Y := Lib.hid (PY.out hy)
        clear hy
        go_wp2_with fail
        refine bodyPost_ret (v := .tuple #[.agg #[.bool nb, .slice R k r], .bool true]) (by simp [results, Tryd.results38, go_sem, *]) rfl ⟨zOf nb xs, true, R, k, r, ?_, ?_, Y.out.1, ?_⟩
        · rw [← Y.out.2.1]
        · have := HR5.out.box HX5.out.box (.bool nb) (.slice R k r)
          rw [← Y.out.2.2]
          exact this
        · exact (HB5.out.setCell (p := ⟨w.heap.size, 0, none⟩) (by simp) _).setCell (p := ⟨w.heap.size, 1, none⟩) (by simp) _
      | false =>
        have hy : ¬ Lib.itoa (zOf nb xs) = s.data.toList := by
          intro h; exact absurd (h.trans (ByteArray.toList_eq s).symm) (by simpa using he)
        have Y := Lib.hid (PN.out hy)
        clear hy
        go_wp2_with fail
        refine bodyPost_ret (v := .tuple #[.agg #[.bool false, .slice none 0 0], .bool false]) (by simp [results, Tryd.results38, go_sem, *]) rfl ⟨0, false, none, 0, 0, rfl, ?_, Y.out, ?_⟩
        · rw [lOf_zero]; exact Sl.nil _
        · exact (HB5.out.setCell (p := ⟨w.heap.size, 0, none⟩) (by simp) _).setCell (p := ⟨w.heap.size, 1, none⟩) (by simp) _
end Go.Proofs.YtfenmogbellhdaaDoor
