/-
  Contracts of num.Text and the program's Text.
-/
import Derived.Test.YtfenmogbellhdaaDoorBigTextMath
import Derived.Test.YtfenmogbellhdaaDoorBigT
import Derived.Lib.AppendIntMem
import Derived.Lib.Hide
import Derived.WalkSpells
import Derived.Deep.DeepCutAuto
namespace Go.Proofs.YtfenmogbellhdaaDoor
open Go.RowKit

abbrev Tab (w : World) : Prop := Lib.TabIs Tryd.prog w "internal/strconv.uint64pow10" .u64 Lib.pow10Tab
theorem tab_on {w w' : World} (h : Tab w) (hb : Below w.heap.size w w') : Tab w' := Lib.tabBelow_of_tabIs h w' hb
theorem ret_str {x y : ByteArray} (h : x = y) : Ending.returned (.string x) = .returned (.string y) := by rw [h]
theorem bytes_eq {x y : ByteArray} : x = y ↔ x.data.toList = y.data.toList := by
  constructor
  · rintro rfl; rfl
  · intro h; cases x; cases y; simp only at h; congr 1; exact Array.toList_inj.1 h

theorem ntext_any (n : Int) (w : World) (h1 : -9223372036854775808 ≤ n) (h2 : n ≤ 9223372036854775807) (htab : Tab w) :
    Calls Tryd.prog 85 #[.int .i64 n] w fun e w' => e = .returned (.string ⟨(Lib.itoa n).toArray⟩) ∧ Below w.heap.size w w' := by
  go_enter Tryd.func85, Tryd.ntmps85
  go_wp2_with fail
  refine (Tryd.strconv_Itoa n h1 h2 _ htab).mono ?_
  rintro e w' ⟨rfl, k, os, rfl⟩
  go_wp2_with fail
  go_ret
  exact ⟨rfl, Lib.below_grow _ _ (Nat.le_refl _) _ _⟩

theorem own_below {w w' : World} {base : Nat} {e : TypeId} {size n : Nat} {v : Value} {xs : List Value} (h : w.ownsRow base e size v n xs) (hb : Below w.heap.size w w') : w'.ownsRow base e size v n xs := by
  refine ⟨h.1, ?_⟩
  rcases h.2 with h0 | ⟨g, cap, cur, hv, h1, hg, h2⟩
  · exact .inl h0
  · refine .inr ⟨g, cap, cur, hv, h1, ?_, h2⟩
    have hlt : g < w.heap.size := by
      rcases Nat.lt_or_ge g w.heap.size with hlt | hge
      · exact hlt
      · rw [Array.getElem?_eq_none hge] at hg; cases hg
    rw [hb.block g hlt]; exact hg
theorem builderAt_below {T e : TypeId} {B b : Nat} {p : Value} {bs : List Value} {w w' : World} (h : Lib.BuilderAt T e B b p bs w) (hb : Below w.heap.size w w') : Lib.BuilderAt T e B b p bs w' := by
  have hlt := h.lt
  obtain ⟨hB, v, hbk, hown, hne⟩ := h
  exact ⟨hB, v, by rw [hb.block b hlt]; exact hbk, own_below hown hb, hne⟩
theorem isBuilder_below {T e : TypeId} {B b : Nat} {bs : List Value} {w w' : World} (h : Lib.IsBuilder T e B b bs w) (hb : Below w.heap.size w w') : Lib.IsBuilder T e B b bs w' := by
  rcases h with h | h
  · exact .inl (builderAt_below h hb)
  · exact .inr (builderAt_below h hb)

/-! ### What is written -/
theorem acc_first {xs : List Int} {k : Nat} {x : Int} (hl : k + 1 = xs.length) (hx : xs.getD k 0 = x) (h0 : 0 < x) : dig0 (val (xs.drop k)).toNat = Lib.itoa x ∧ dig0 (val (xs.drop (k + 1))).toNat = [] := by
  have e : xs.drop k = [x] := by
    rw [List.drop_eq_getElem_cons (by omega), List.drop_of_length_le (by omega)]
    congr 1
    simpa [List.getD, show k < xs.length by omega] using hx
  constructor
  · rw [e, val_one, dig0_pos (by omega)]
    rw [itoa_form, if_neg (by omega)]; congr 1; omega
  · rw [List.drop_of_length_le (by omega)]; rfl
theorem acc_step {xs : List Int} {k : Nat} {x : Int} (hd : dOk xs) (ht : topOk xs) (hl : k + 1 < xs.length) (hx : xs.getD k 0 = x) :
    dig0 (val (xs.drop k)).toNat = dig0 (val (xs.drop (k + 1))).toNat ++ (([48, 48, 48, 48] : List UInt8).drop (Lib.itoa x).length ++ Lib.itoa x) ∧ (Lib.itoa x).length ≤ 4 := by
  have bx := dOk_getD hd k
  rw [hx] at bx
  have hv := val_bd (dOk_drop hd (k + 1))
  have htop := val_top (dOk_drop hd (k + 1)) (by
    unfold topOk at ht ⊢
    rw [List.getLast?_drop, if_neg (by omega)]
    exact ht) (fun e => by have := congrArg List.length e; rw [List.length_drop] at this; simp at this; omega)
  have hp := pw_pos ((xs.drop (k + 1)).length - 1)
  have e : val (xs.drop k) = x + 10000 * val (xs.drop (k + 1)) := by
    rw [List.drop_eq_getElem_cons (by omega), val]
    congr 1
    simpa [List.getD, show k < xs.length by omega] using hx
  have ei : Lib.itoa x = Lib.decDigits x.toNat := by rw [itoa_form, if_neg (by omega)]; congr 1; omega
  have h4 : (Lib.decDigits x.toNat).length ≤ 4 := dec_len4 (by omega)
  refine ⟨?_, by rw [ei]; exact h4⟩
  rw [dig0_pos (by omega), dig0_pos (by omega), ei, show (val (xs.drop k)).toNat = x.toNat + 10000 * (val (xs.drop (k + 1))).toNat by omega, dec_pad (by omega) (by omega), ← pad_dec (show x.toNat < 10000 by omega)]
  congr 2
  have : ([48, 48, 48, 48] : List UInt8) = List.replicate 4 48 := rfl
  rw [this, List.drop_replicate]
theorem acc_len {u : Nat} (h : (digs u).length ≤ 200) : (dig0 u).length ≤ 1000 := by
  have key : ∀ (m u : Nat), (digs u).length ≤ m → (dig0 u).length ≤ 4 * m := by
    intro m
    induction m with
    | zero =>
      intro u hu
      have := digs_eq_nil.1 (List.eq_nil_of_length_eq_zero (by omega : (digs u).length = 0))
      subst this; rw [dig0_zero]; simp
    | succ m ih =>
      intro u hu
      by_cases h0 : u = 0
      · subst h0; rw [dig0_zero]; simp
      · rw [dig0_pos h0]
        by_cases hs : u < 10000
        · have := dec_len4 hs; omega
        · have e : Lib.decDigits u = Lib.decDigits (u / 10000) ++ pad4 (u % 10000) := by
            rw [← dec_pad (by omega) (by omega)]; congr 1; omega
          rw [digs_pos h0, List.length_cons] at hu
          have := ih (u / 10000) (by omega)
          rw [dig0_pos (by omega)] at this
          rw [e, List.length_append]
          have : (pad4 (u % 10000)).length = 4 := rfl
          omega
  have := key 200 u h
  omega
theorem drop_digs {xs : List Int} (hd : dOk xs) (h : xs.length ≤ 200) (k : Nat) : (dig0 (val (xs.drop k)).toNat).length ≤ 1000 := by
  refine acc_len (digs_len_le ?_)
  have h1 := val_bd (dOk_drop hd k)
  have h2 := pw_mono (show (xs.drop k).length ≤ 200 by rw [List.length_drop]; omega)
  omega
theorem itoa_len4 {x : Int} (h0 : 0 ≤ x) (h1 : x < 10000) : (Lib.itoa x).length ≤ 4 := by
  rw [itoa_form, if_neg (by omega)]; exact dec_len4 (by omega)
/-- What is written ahead of the digits. -/
def pre (z : Int) : List UInt8 := if nOf z then [45] else []
theorem text_end {z : Int} (h : z ≠ 0) : pre z ++ dig0 (val ((lOf z).drop 0)).toNat = Lib.itoa z := by
  rw [List.drop_zero, val_lOf, Int.toNat_natCast, dig0_pos (by omega), itoa_form]
  unfold pre nOf
  by_cases h : z < 0 <;> simp [h]
theorem zeros_extract {k : Nat} (h : k ≤ 4) : ((⟨#[48, 48, 48, 48]⟩ : ByteArray).extract k 4).data.toList = ([48, 48, 48, 48] : List UInt8).drop k := by
  have : k = 0 ∨ k = 1 ∨ k = 2 ∨ k = 3 ∨ k = 4 := by omega
  rcases this with rfl | rfl | rfl | rfl | rfl <;> decide
theorem itoa_ne (z : Int) : Lib.itoa z ≠ [] := by
  rw [itoa_form]; split
  · simp
  · exact dec_ne _

set_option maxRecDepth 100000 in
set_option maxHeartbeats 2000000 in
theorem text_big (na : Bool) (A : Option Addr) (n c : Nat) (xs : List Int) (w : World) (ha : Sl w A n c xs) (htab : Tab w) :
    Calls Tryd.prog 40 #[.agg #[.bool na, .slice A n c]] w fun e w' => e = .returned (.string ⟨(Lib.itoa (zOf na xs)).toArray⟩) ∧ Below w.heap.size w w' := by
  have HA := Lib.hid ha
  have HF := Lib.hid (fit_zOf na xs)
  have HT := Lib.hid htab
  clear ha htab
  go_enter Tryd.func40, Tryd.ntmps40
  go_wp2_with fail
  have X1 := Lib.hid (Bx.new w (.bool na) (.slice A n c))
  have BW : Hid (Below w.heap.size w (w.alloc (.cells #[.bool na, .slice A n c] 35))) := (Below.refl _ _).alloc (Nat.le_refl _) _
  generalize w.alloc (.cells #[.bool na, .slice A n c] 35) = W at *
  (refine (sound_any na A n c xs _ (HA.out.below BW.out)).mono ?_; rintro e w1 ⟨B, m, d, rfl, hs, hb⟩)
  have Y1 := X1.out.below hb
  have HS := Lib.hid (hs.box Y1.box (.bool (nOf (zOf na xs))) (.slice B m d))
  have BW1 := Lib.hid (((below_up BW.out hb).setCell (p := ⟨w.heap.size, 0, none⟩) (Nat.le_refl _) (.bool (nOf (zOf na xs)))).setCell (p := ⟨w.heap.size, 1, none⟩) (Nat.le_refl _) (.slice B m d))
  have Z1 := Lib.hid (Y1.set_ (.bool (nOf (zOf na xs))) (.slice B m d))
  have c1 := Y1.c0
  have c2 := Y1.c1
  have f1 := Y1.fz 0
  have f2 := Y1.fz 1
  have hfit := HS.out.fit HF.out
  have hlen := Lib.hid HS.out.len
  have htop := HS.out.top
  have hcap := HS.out.cap
  have HT2 := Lib.hid (tab_on HT.out BW1.out)
  clear hs hb Y1 X1 BW
  go_upto_region 2 with fail
  clear c1 c2 f1 f2
  generalize (w1.setCell ⟨w.heap.size, 0, none⟩ (.bool (nOf (zOf na xs)))).setCell ⟨w.heap.size, 1, none⟩ (.slice B m d) = W2 at *
  generalize hz : zOf na xs = z at *
  have HZ := Lib.hid hz
  clear hz
  have c1 := Z1.out.c0
  have c2 := Z1.out.c1
  rcases Nat.eq_zero_or_pos m with h0 | h0
  · subst h0
    have HZ0 : Hid (z = 0) := lOf_nil.1 (List.eq_nil_of_length_eq_zero hlen.out)
    go_wp2_with fail
    go_ret
    exact ⟨ret_str (by rw [HZ.out, HZ0.out, itoa_form, if_neg (by omega), dec_small (by decide)]; rfl), BW1.out⟩
  · have hz0 : z ≠ 0 := fun e => by
      have := hlen.out
      rw [e, lOf_zero] at this; simp at this; omega
    have HZN := Lib.hid hz0
    have z0 : ((m : Int) == 0) = false := by simp; omega
    clear hz0
    have HIS := Lib.hid (Lib.fresh_isBuilder 84 5 W2)
    have HB0 : Hid (Below W2.heap.size W2 (W2.alloc (.cells #[.pointer none, .slice none 0 0] 84))) := (Below.refl _ _).alloc (Nat.le_refl _) _
    have hsz : W2.heap.size ≤ (W2.alloc (.cells #[.pointer none, .slice none 0 0] 84)).heap.size := by rw [alloc_sz]; omega
    go_upto_region 5 with fail
    obtain ⟨b, hb⟩ : ∃ b, W2.heap.size = b := ⟨_, rfl⟩
    have hzl := Z1.out.lt
    have hwl := BW1.out.size
    rw [hb] at HIS HB0 hsz hzl hwl ⊢
    have HB := Lib.hid hb
    have HT3 : Hid (Tab (W2.alloc (.cells #[.pointer none, .slice none 0 0] 84))) := tab_on HT2.out ((Below.refl _ _).alloc (Nat.le_refl _) _)
    generalize W2.alloc (.cells #[.pointer none, .slice none 0 0] 84) = W3 at *
    clear hb
    have X3 : Bx W3 w.heap.size (.bool (nOf z)) (.slice B m d) := Z1.out.below (by rw [HB.out]; exact HB0.out)
    clear c1 c2
    have c3 := X3.c0
    have c4 := X3.c1
    clear X3
    go_upto_if 14 with fail
    go_cut [] (fun wx => Lib.IsBuilder 84 5 b b (Lib.byteCells (pre z)) wx ∧ Below b W2 wx)
    case first =>
      cases hn : nOf z with
      | true =>
        rw [hn] at c3
        have HP : Hid (pre z = [] ++ [45]) := by show pre z = _; unfold pre; rw [hn]; rfl
        go_wp2_with fail
        (refine (writeByte_any b b [] 45 _ _ rfl HIS.out (by simp) hsz).mono ?_; rintro e w4 ⟨rfl, h1, h2⟩)
        have H1 := Lib.hid h1
        have H2 := Lib.hid (HB0.out.trans h2)
        clear h1 h2
        go_wp2_with fail
        go_meet
        exact ⟨by rw [HP.out]; exact H1.out, H2.out⟩
      | false =>
        rw [hn] at c3
        have HP : Hid (pre z = []) := by show pre z = _; unfold pre; rw [hn]; rfl
        go_wp2_with fail
        go_meet
        exact ⟨by rw [HP.out]; exact HIS.out, HB0.out⟩
    case rest =>
      obtain ⟨hib, hbw⟩ := hcut
      have HIB := Lib.hid hib
      have HBW := Lib.hid hbw
      have HTC : Hid (Tab wc) := tab_on HT2.out (by rw [HB.out]; exact hbw)
      have hszc : b ≤ wc.heap.size := by have := hbw.size; rw [HB.out] at this; exact this
      have X4 : Bx wc w.heap.size (.bool (nOf z)) (.slice B m d) := Z1.out.below (by rw [HB.out]; exact hbw)
      clear c3 c4 HIS HB0 HT3 hsz hib hbw
      have c3 := X4.c0
      have c4 := X4.c1
      clear X4
      go_wp2_with fail
      clear c3 c4
      go_loopw [5] (fun i wr => ∃ k : Nat, k ≤ m ∧ i = .int .i64 ((k : Int) - 1) ∧ Lib.IsBuilder 84 5 b b (Lib.byteCells (pre z ++ dig0 (val ((lOf z).drop k)).toNat)) wr ∧ Below b W2 wr ∧ Tab wr) (fun i _ => (intOf i + 1).toNat)
      case atStart => exact ⟨m, Nat.le_refl _, rfl, by rw [List.drop_of_length_le (by rw [hlen.out]; exact Nat.le_refl _)]; simpa [val, dig0] using HIB.out, HBW.out, HTC.out⟩
      case round =>
        obtain ⟨k, hk, rfl, hib, hbw, htr⟩ := hrel
        have HIB := Lib.hid hib
        have HBW := Lib.hid hbw
        have HTR := Lib.hid htr
        have hszr : b ≤ wr.heap.size := by have := hbw.size; rw [HB.out] at this; exact this
        have X4 : Bx wr w.heap.size (.bool (nOf z)) (.slice B m d) := Z1.out.below (by rw [HB.out]; exact hbw)
        have HLN : Hid ((pre z ++ dig0 (val ((lOf z).drop k)).toNat).length ≤ 1001) := by
          have h1 := drop_digs (lOf_ok z) (by rw [hlen.out]; exact hfit) k
          have h2 : (pre z).length ≤ 1 := by unfold pre; split <;> simp
          show (pre z ++ _).length ≤ 1001
          rw [List.length_append]; omega
        clear hib hbw htr
        by_cases hk0 : 0 < k
        · obtain ⟨i, rfl⟩ : ∃ i, k = i + 1 := ⟨k - 1, by omega⟩
          obtain ⟨g, o, x, rfl, hg, hcx, hx⟩ := (HS.out.below (by rw [HB.out]; exact HBW.out)).at_ (show i < m by omega)
          have c3 := X4.c0
          have c4 := X4.c1
          have bx := dOk_getD (lOf_ok z) i
          rw [hx.out] at bx
          obtain ⟨b1, b2⟩ := bx
          rw [show ((i + 1 : Nat) : Int) - 1 = (i : Int) from by omega]
          have hi4 := itoa_len4 b1 b2
          by_cases hlast : i + 1 = m
          · have HL := Lib.hid hlast
            have p1 : (m : Int) - 1 ≤ (i : Int) := by omega
            have AF := Lib.hid (acc_first (by rw [hlen.out]; exact hlast) hx.out (by
              have ht := lOf_top z
              rcases Int.lt_or_eq_of_le b1 with h | h
              · exact h
              · exfalso
                unfold topOk at ht
                rw [List.getLast?_eq_getElem?] at ht
                have : (lOf z).length - 1 = i := by rw [hlen.out]; omega
                rw [this] at ht
                have hxx := hx.out
                have hil : i < (lOf z).length := by rw [hlen.out]; omega
                simp [List.getD, hil] at hxx ht
                omega))
            clear hlast
            go_wp2_with fail
            (refine (ntext_any x _ (by omega) (by omega) HTR.out).mono ?_; rintro e w5 ⟨rfl, hb5⟩)
            have H5 := Lib.hid (isBuilder_below HIB.out hb5)
            have BW5 := Lib.hid (HBW.out.trans (hb5.mono hszr))
            have T5 := Lib.hid (tab_on HTR.out hb5)
            have hsz5 : b ≤ w5.heap.size := Nat.le_trans hszr hb5.size
            clear hb5 c3 c4
            go_wp2_with fail
            (refine (writeString_any b b _ _ _ H5.out (by have := HLN.out; omega) (by show (Lib.itoa x).toArray.size ≤ _; simp; omega) hsz5).mono ?_; rintro e w6 ⟨rfl, h6, hb6⟩)
            have H6 : Hid (Lib.IsBuilder 84 5 b b (Lib.byteCells (pre z ++ dig0 (val ((lOf z).drop i)).toNat)) w6) := by
              rw [AF.out.1]
              rw [AF.out.2, List.append_nil] at h6
              exact h6
            have BW6 := Lib.hid (BW5.out.trans hb6)
            have T6 := Lib.hid (tab_on HT2.out (by rw [HB.out]; exact BW6.out))
            clear h6 hb6
            go_wp2_with fail
            go_roundw
            case rel => exact ⟨i, by omega, by go_num, H6.out, BW6.out, T6.out⟩
            case measure => simp [intOf] <;> omega
          · have p1 : (i : Int) < (m : Int) - 1 := by omega
            have AS := Lib.hid (acc_step (lOf_ok z) (lOf_top z) (by rw [hlen.out]; omega) hx.out)
            clear hlast
            go_wp2_with fail
            (refine (ntext_any x _ (by omega) (by omega) HTR.out).mono ?_; rintro e w5 ⟨rfl, hb5⟩)
            have H5 := Lib.hid (isBuilder_below HIB.out hb5)
            have BW5 := Lib.hid (HBW.out.trans (hb5.mono hszr))
            have hsz5 : b ≤ w5.heap.size := Nat.le_trans hszr hb5.size
            clear hb5 c3 c4
            go_wp2_with fail
            have EX := Lib.hid (zeros_extract AS.out.2)
            (refine (writeString_any b b _ _ _ H5.out (by have := HLN.out; omega) (by rw [Lib.size_eq, EX.out, List.length_drop]; simp; omega) hsz5).mono ?_; rintro e w6 ⟨rfl, h6, hb6⟩)
            rw [EX.out] at h6
            have H6 := Lib.hid h6
            have BW6 := Lib.hid (BW5.out.trans hb6)
            have hsz6 : b ≤ w6.heap.size := Nat.le_trans hsz5 hb6.size
            clear h6 hb6
            go_wp2_with fail
            (refine (writeString_any b b _ _ _ H6.out (by have := HLN.out; rw [List.length_append, List.length_drop]; simp only [List.length_cons, List.length_nil]; omega) (by show (Lib.itoa x).toArray.size ≤ _; simp; omega) hsz6).mono ?_; rintro e w7 ⟨rfl, h7, hb7⟩)
            have H7 : Hid (Lib.IsBuilder 84 5 b b (Lib.byteCells (pre z ++ dig0 (val ((lOf z).drop i)).toNat)) w7) := by
              rw [AS.out.1, ← List.append_assoc, ← List.append_assoc]
              exact h7
            have BW7 := Lib.hid (BW6.out.trans hb7)
            have T7 := Lib.hid (tab_on HT2.out (by rw [HB.out]; exact BW7.out))
            clear h7 hb7
            go_wp2_with fail
            go_roundw
            case rel => exact ⟨i, by omega, by go_num, H7.out, BW7.out, T7.out⟩
            case measure => simp [intOf] <;> omega
        · obtain rfl : k = 0 := by omega
          have HE := Lib.hid (text_end HZN.out)
          go_wp2_with fail
          (refine (Tryd.Builder_String b b (Lib.itoa z) _ (by rw [← HE.out]; exact HIB.out) (itoa_ne z)).mono ?_; rintro e w5 ⟨rfl, hb5⟩)
          go_wp2_with fail
          go_ret
          exact ⟨ret_str (by rw [HZ.out]), BW1.out.trans ((HBW.out.trans hb5).mono hwl)⟩
end Go.Proofs.YtfenmogbellhdaaDoor
