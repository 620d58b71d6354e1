/-
  Contract of Tokens.
-/
import Derived.Test.YtblakndpionmgaaDoorLxA
import Derived.Test.YtblakndpionmgaaDoorLxF
namespace Go.Proofs.YtblakndpionmgaaDoor
open Go.RowKit

def svSize : Value → Nat
  | .string x => x.size
  | _ => 0
theorem ext_drop (x : ByteArray) (n : Nat) : (x.extract n x.size).data.toList = x.data.toList.drop n := by
  rw [ByteArray.data_extract, Array.toList_extract]
  simp only [List.extract_eq_take_drop]
  rw [List.take_of_length_le (by rw [List.length_drop, ← size_list]; exact Nat.le_refl _)]
theorem ext_take0 (x : ByteArray) (n : Nat) : (x.extract 0 n).data.toList = x.data.toList.take n := by
  rw [ByteArray.data_extract, Array.toList_extract]
  simp [List.extract_eq_take_drop]
/-- What Tokens hands back. -/
def TokP (r : List Tk × Int × Int) (w : World) (e : Ending) (w' : World) : Prop := ∃ A n c, e = .returned (.tuple #[.slice A n c, .int .i64 r.2.1, .int .i64 r.2.2]) ∧ Ts w' A n c r.1 ∧ Below w.heap.size w w'
theorem tok_nil {r : List Tk × Int × Int} {w w' : World} {n e : Int} (h : r = ([], n, e)) (hb : Below w.heap.size w w') : TokP r w (.returned (.tuple #[.slice none 0 0, .int .i64 n, .int .i64 e])) w' := by
  subst h; exact ⟨none, 0, 0, rfl, Ts.nil _, hb⟩
theorem tok_row {r : List Tk × Int × Int} {w w' : World} {v : Value} {ts : List Tk} (h : r = (ts, 0, 0)) (hr : w'.ownsRow w.heap.size 36 4 v ts.length (ts.flatMap encTk)) (hb : Below w.heap.size w w') : TokP r w (.returned (.tuple #[v, .int .i64 0, .int .i64 0])) w' := by
  subst h
  obtain ⟨A, c, rfl, h2⟩ := Ts.of_row rfl hr
  exact ⟨A, _, c, rfl, h2, hb⟩
theorem own_set {w : World} {base : Nat} {e : TypeId} {size n : Nat} {v : Value} {xs : List Value} (h : w.ownsRow base e size v n xs) {b : Nat} (hb : ∀ q, v.ownBlock = some q → base ≤ q ∧ q < b) (k : Nat) (u : Value) : (w.setCell ⟨b, k, none⟩ u).ownsRow base e size v n xs := by
  refine ⟨h.1, ?_⟩
  rcases h.2 with h0 | ⟨g, cap, cur, rfl, h1, hg, rest⟩
  · exact .inl h0
  · exact .inr ⟨g, cap, cur, rfl, h1, (Below.heap_setCell w ⟨b, k, none⟩ u g (by have := (hb g rfl).2; show g ≠ b; omega)).trans hg, rest⟩
theorem own_set4 {w : World} {base : Nat} {e : TypeId} {size n : Nat} {v : Value} {xs : List Value} (h : w.ownsRow base e size v n xs) {b : Nat} (hb : ∀ q, v.ownBlock = some q → base ≤ q ∧ q < b) (u1 u2 u3 u4 : Value) :
    ((((w.setCell ⟨b, 0, none⟩ u1).setCell ⟨b, 1, none⟩ u2).setCell ⟨b, 2, none⟩ u3).setCell ⟨b, 3, none⟩ u4).ownsRow base e size v n xs := own_set (own_set (own_set (own_set h hb 0 u1) hb 1 u2) hb 2 u3) hb 3 u4
theorem bk_tok {w : World} {b : Nat} (hb : b = w.heap.size) {k n l : Int} {x : ByteArray} {t : Txt} (ht : x.data.toList = t) : Bk 36 (w.alloc (.cells #[.int .i64 k, .string x, .int .i64 n, .int .i64 l] 36)) b (encTk ⟨k, t, n, l⟩).toArray := by
  subst hb; subst ht
  unfold encTk
  rw [eta_txt]
  exact Bk.new 36 w _

set_option maxRecDepth 100000 in
set_option maxHeartbeats 8000000 in
theorem tokens_short (s : ByteArray) (w : World) (hsz : s.size ≤ 40000) (htab : Tabx w) (hst : St w) : Calls Tryd.prog 19 #[.string s] w fun e w' => TokP (toksF (s.size + 1) false 1 s.data.toList []) w e w' := by
  have HT := Lib.hid htab
  have HS := Lib.hid hst
  have p40 : ¬ (40000 : Int) < (s.size : Int) := by omega
  have HSZ := Lib.hid hsz
  clear htab hst
  obtain ⟨RES, hres⟩ : ∃ R, toksF (s.size + 1) false 1 s.data.toList [] = R := ⟨_, rfl⟩
  rw [hres]
  have HR := Lib.hid hres
  clear hres
  go_enter Tryd.func19, Tryd.ntmps19
  go_wp2_with fail
  go_loopw [0, 5, 6] (fun sv lv nv wr => ∃ (x : ByteArray) (acc : List Tk) (f : Nat) (line : Int), sv = .string x ∧ nv = .int .i64 line ∧ wr.ownsRow w.heap.size 36 4 lv acc.length (acc.flatMap encTk) ∧ Below w.heap.size w wr ∧ x.size < f ∧ toksF f false line x.data.toList acc = RES ∧ 1 ≤ line ∧ line + x.size ≤ 40001 ∧ acc.length + x.size ≤ 40000) (fun sv _ _ _ => svSize sv)
  case atStart => exact ⟨s, [], s.size + 1, 1, rfl, rfl, trow_nil _ _, Below.refl _ _, Nat.lt_succ_self _, HR.out, by omega, by omega, by simpa using HSZ.out⟩
  case round =>
    obtain ⟨x, acc, f, line, rfl, rfl, ho, hb, hf, hR, hl1, hl2, hacc⟩ := hrel
    have HO := Lib.hid ho
    have HB := Lib.hid hb
    have HRR := Lib.hid hR
    have HF := Lib.hid hf
    clear ho hb hR hf p40
    obtain ⟨n, hn⟩ : ∃ n, gapN false x.data.toList = n := ⟨_, rfl⟩
    have hnl : n ≤ x.size := by rw [← hn, size_list]; exact gapN_le _ _
    have HN := Lib.hid hn
    have CG := fun W => gap_any x W
    rw [hn] at CG
    clear hn
    have q1 : (0 : Int) ≤ (n : Int) ∧ (n : Int) ≤ (x.size : Int) := by omega
    have CC := fun W => Tryd.strings_Count_one (x.extract 0 n) 10 W
    obtain ⟨d, hd⟩ : ∃ d : Nat, Lib.countByte (x.extract 0 n).data.toList 10 = d := ⟨_, rfl⟩
    rw [hd] at CC
    have hdl : lfs (x.data.toList.take n) = (d : Int) := by
      rw [← hd, ext_take0]; rfl
    have hd0 : (d : Int) ≤ (n : Int) := by
      have := (lfs_le (x.data.toList.take n)).2
      rw [hdl, List.length_take] at this
      omega
    have HDL := Lib.hid hdl
    clear hd hdl
    obtain ⟨y, hy⟩ : ∃ y, x.extract n x.size = y := ⟨_, rfl⟩
    have hyl : y.data.toList = x.data.toList.drop n := by rw [← hy, ext_drop]
    have hys : y.size + n = x.size := by rw [size_list, hyl, List.length_drop, ← size_list]; omega
    have HYL := Lib.hid hyl
    have HY := Lib.hid hy
    have b1 : -9223372036854775808 ≤ line + (d : Int) := by omega
    have b2 : line + (d : Int) ≤ 9223372036854775807 := by omega
    clear hy
    cases f with
    | zero => exact absurd HF.out (by omega)
    | succ f =>
      by_cases h0 : y.data.toList = []
      · have TB1 : (y.toList == []) = true := by rw [tolist_eq, h0]; rfl
        have TB2 : y.toList.isEmpty = true := by rw [tolist_eq, h0]; rfl
        have hE := toks_end (f := f) (cm := false) (line := line) (l := x.data.toList) (acc := acc) (by rw [HN.out, ← hyl]; exact h0)
        rw [HN.out, HDL.out, HRR.out] at hE
        have HE := Lib.hid hE
        clear hE h0 hyl
        go_wp2_with fail
        (refine (CG _).mono ?_); rintro e wx ⟨rfl, pos, rfl⟩
        have HB1 := Lib.hid (show Below w.heap.size w (wr.iter x pos) from HB.out.alloc HB.out.size (.stringIter x pos))
        have HO1 := Lib.hid (trow_below (w' := wr.iter x pos) HO.out ((Below.refl _ _).alloc (Nat.le_refl _) (.stringIter x pos)))
        generalize wr.iter x pos = W1 at *
        go_wp2_with fail
        ((with_reducible refine (CC _).mono ?_); rintro e wx ⟨rfl, rfl⟩)
        go_upto_region 8 with fail
        rw [HY.out]
        have HBW := Lib.hid (HB1.out.alloc HB1.out.size (.cells #[.int .i64 0, .string ⟨#[]⟩, .int .i64 0, .int .i64 (line + (d : Int))] 36))
        have HOW := Lib.hid (trow_below HO1.out ((Below.refl _ _).alloc (Nat.le_refl _) (.cells #[.int .i64 0, .string ⟨#[]⟩, .int .i64 0, .int .i64 (line + (d : Int))] 36)))
        go_wp2_with (at_builtin; refine wpList_append_tk _ rfl _ _ rfl w.heap.size HBW.out.size _ acc rfl HOW.out _ ⟨0, [], 0, line + (d : Int)⟩ rfl (Bk.new 36 _ _) (by omega) ?_; intro v5 w5 hr5 hg5 ho5)
        have HB5 : Hid (Below w.heap.size w w5) := HBW.out.grown hg5 HBW.out.size (fun q hq => trow_ge HOW.out hq)
        have HR5 := Lib.hid hr5
        clear hr5 hg5 ho5
        go_wp2_with fail
        go_ret3
        exact tok_row HE.out HR5.out HB5.out
      · have TB1 : (y.toList == []) = false := by rw [tolist_eq]; exact beq_eq_false_iff_ne.2 h0
        have TB2 : y.toList.isEmpty = false := by rw [tolist_eq]; cases hq : y.data.toList with | nil => exact absurd hq h0 | cons a r => rfl
        have CF := fun W h1 h2 => first_any y W (by omega) h1 h2
        cases hft : firstT y.data.toList with
        | none =>
          have hE := toks_bad (f := f) (cm := false) (line := line) (l := x.data.toList) (acc := acc) (by rw [HN.out, ← hyl]; exact h0) (by rw [HN.out, ← hyl]; exact hft)
          rw [HN.out, HDL.out, HRR.out] at hE
          have HE := Lib.hid hE
          rw [hft, show encT none = .tuple #[.agg #[.int .i64 0, .string ⟨#[]⟩, .int .i64 0, .int .i64 0], .bool false] from rfl] at CF
          clear hE h0 hyl hft
          go_wp2_with fail
          (refine (CG _).mono ?_); rintro e wx ⟨rfl, pos, rfl⟩
          have HB1 := Lib.hid (show Below w.heap.size w (wr.iter x pos) from HB.out.alloc HB.out.size (.stringIter x pos))
          have HO1 := Lib.hid (trow_below (w' := wr.iter x pos) HO.out ((Below.refl _ _).alloc (Nat.le_refl _) (.stringIter x pos)))
          generalize wr.iter x pos = W1 at *
          go_wp2_with fail
          ((with_reducible refine (CC _).mono ?_); rintro e wx ⟨rfl, rfl⟩)
          go_upto_region 8 with fail
          rw [HY.out]
          go_wp2_with fail
          (refine (CF _ (tabx_on HT.out HB1.out) (HS.out.below HB1.out)).mono ?_); rintro e W2 ⟨rfl, hb⟩
          have HB2 := Lib.hid (nbelow_on HB1.out hb)
          have HO2 := Lib.hid (trow_below HO1.out hb)
          clear hb
          have BK := Lib.hid (Bk.new 36 W2 #[.int .i64 0, .string ⟨#[]⟩, .int .i64 0, .int .i64 0])
          have HB4 := Lib.hid (HB2.out.alloc HB2.out.size (.cells #[.int .i64 0, .string ⟨#[]⟩, .int .i64 0, .int .i64 0] 36))
          have HO4 := Lib.hid (trow_below HO2.out ((Below.refl _ _).alloc (Nat.le_refl _) (.cells #[.int .i64 0, .string ⟨#[]⟩, .int .i64 0, .int .i64 0] 36)))
          go_wp2_with fail
          go_ret3
          exact tok_nil HE.out HB4.out
        | some t =>
          obtain ⟨ht1, ht2, ht3, -, -, -, -⟩ := first_facts hft
          have hE := toks_go (f := f) (cm := false) (line := line) (l := x.data.toList) (acc := acc) (by rw [HN.out, ← hyl]; exact hft)
          rw [HN.out, HDL.out, HRR.out, ← hyl] at hE
          rw [hft] at CF
          obtain ⟨tx, htx⟩ : ∃ tx : ByteArray, tx = ⟨t.text.toArray⟩ := ⟨_, rfl⟩
          have htl : tx.data.toList = t.text := by rw [htx]
          have htz : tx.size = t.text.length := by rw [size_list, htl]
          obtain ⟨tk, tt, tn, tl⟩ := t
          simp only at htx htl htz ht1 ht2 ht3 hE
          unfold encT tkVal at CF
          simp only [← htx] at CF
          rw [← htz] at ht1 ht2 hE
          rw [← size_list] at ht2
          rw [← ext_drop] at hE
          have HE := Lib.hid hE
          have HTL := Lib.hid htl
          have q2 : (0 : Int) ≤ (tx.size : Int) ∧ (tx.size : Int) ≤ (y.size : Int) := by omega
          obtain ⟨z, hz⟩ : ∃ z, y.extract tx.size y.size = z := ⟨_, rfl⟩
          have hzs : z.size + tx.size = y.size := by rw [← hz, ByteArray.size_extract]; omega
          have HZ := Lib.hid hz
          clear hE h0 hyl hft htx htl htz ht3 hz
          go_wp2_with fail
          (refine (CG _).mono ?_); rintro e wx ⟨rfl, pos, rfl⟩
          have HB1 := Lib.hid (show Below w.heap.size w (wr.iter x pos) from HB.out.alloc HB.out.size (.stringIter x pos))
          have HO1 := Lib.hid (trow_below (w' := wr.iter x pos) HO.out ((Below.refl _ _).alloc (Nat.le_refl _) (.stringIter x pos)))
          generalize wr.iter x pos = W1 at *
          go_wp2_with fail
          ((with_reducible refine (CC _).mono ?_); rintro e wx ⟨rfl, rfl⟩)
          go_upto_region 8 with fail
          rw [HY.out]
          go_wp2_with fail
          (refine (CF _ (tabx_on HT.out HB1.out) (HS.out.below HB1.out)).mono ?_); rintro e W2 ⟨rfl, hb⟩
          have HB2 := Lib.hid (nbelow_on HB1.out hb)
          have HO2 := Lib.hid (trow_below HO1.out hb)
          clear hb
          have BK := Lib.hid (Bk.new 36 W2 #[.int .i64 tk, .string tx, .int .i64 tn, .int .i64 (line + (d : Int))])
          have HB4 := Lib.hid (HB2.out.alloc HB2.out.size (.cells #[.int .i64 tk, .string tx, .int .i64 tn, .int .i64 (line + (d : Int))] 36))
          have HO4 := Lib.hid (trow_below HO2.out ((Below.refl _ _).alloc (Nat.le_refl _) (.cells #[.int .i64 tk, .string tx, .int .i64 tn, .int .i64 (line + (d : Int))] 36)))
          have HBW := Lib.hid (HB4.out.alloc HB4.out.size (.cells #[.int .i64 tk, .string tx, .int .i64 tn, .int .i64 (line + (d : Int))] 36))
          have HOW := Lib.hid (trow_below HO4.out ((Below.refl _ _).alloc (Nat.le_refl _) (.cells #[.int .i64 tk, .string tx, .int .i64 tn, .int .i64 (line + (d : Int))] 36)))
          have BW2 := Lib.hid (BK.out.alloc (.cells #[.int .i64 tk, .string tx, .int .i64 tn, .int .i64 (line + (d : Int))] 36))
          have HBO := Lib.hid (fun q hq => (HO2.out.lt q hq).2)
          go_wp2_with (at_builtin; refine wpList_append_tk _ rfl _ _ rfl w.heap.size HBW.out.size _ acc rfl HOW.out _ ⟨tk, tt, tn, line + (d : Int)⟩ rfl (bk_tok (by simp) HTL.out) (by omega) ?_; intro v5 w5 hr5 hg5 ho5; have BF : Hid (Bk 36 w5 W2.heap.size #[.int .i64 tk, .string tx, .int .i64 tn, .int .i64 (line + (d : Int))]) := (hg5.block W2.heap.size BW2.out.lt (fun e => Nat.lt_irrefl _ (HBO.out _ e.symm))).trans BW2.out; have e1 := BF.out.c 1 (v := .string tx) rfl)
          have HB6 : Hid (Below w.heap.size w w5) := HBW.out.grown hg5 HBW.out.size (fun q hq => trow_ge HOW.out hq)
          have HR5 := Lib.hid hr5
          clear hr5 hg5 ho5 e1
          rw [HZ.out]
          go_roundw
          case rel => exact ⟨z, _, f, line + (d : Int), rfl, rfl, HR5.out, HB6.out, by have := HF.out; omega, by rw [HE.out, HZ.out], by omega, by omega, by rw [List.length_append]; simp; omega⟩
          case measure => simp [svSize] <;> omega

theorem tokens_any (s : ByteArray) (w : World) (htab : Tabx w) (hst : St w) : Calls Tryd.prog 19 #[.string s] w fun e w' => TokP (tokens s.data.toList) w e w' := by
  by_cases h : s.size ≤ 40000
  · have e : tokens s.data.toList = toksF (s.size + 1) false 1 s.data.toList [] := by
      unfold tokens
      rw [if_neg (by rw [← size_list]; omega), ← size_list]
    rw [e]
    exact tokens_short s w h htab hst
  · have HE : Hid (tokens s.data.toList = ([], 0, 7)) := by
      show _ = _
      unfold tokens
      rw [if_pos (by rw [← size_list]; omega)]
    have p40 : (40000 : Int) < (s.size : Int) := by omega
    clear h htab hst
    go_enter Tryd.func19, Tryd.ntmps19
    go_wp2_with fail
    go_ret3
    exact tok_nil HE.out (Below.refl _ _)
end Go.Proofs.YtblakndpionmgaaDoor
