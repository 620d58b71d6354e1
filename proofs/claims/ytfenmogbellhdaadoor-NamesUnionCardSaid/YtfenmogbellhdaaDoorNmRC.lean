/-
  The reference's put and Union.
-/
import Derived.Test.YtfenmogbellhdaaDoorNmN
import Derived.Test.YtfenmogbellhdaaDoorNmRA
namespace Go.Proofs.YtfenmogbellhdaaDoor
open Go.RowKit

theorem put_split {l : List Txt} {s : Txt} {k : Nat} (hk : k ≤ l.length) (h1 : ∀ y ∈ l.take k, y < s) (h2 : ∀ x, l[k]? = some x → ¬ x < s) :
    putB l s = l.take k ++ s :: (if l[k]? = some s then l.drop (k + 1) else l.drop k) := by
  induction l generalizing k with
  | nil =>
    have : k = 0 := by simpa using hk
    subst this
    simp [putB]
  | cons x l ih =>
    cases k with
    | zero =>
      have hx := h2 x (by simp)
      unfold putB
      rw [if_neg hx]
      by_cases e : x = s
      · rw [if_pos e]
        subst e
        simp
      · rw [if_neg e]
        simp [e]
    | succ k =>
      have hx : x < s := h1 x (by simp)
      unfold putB
      rw [if_pos hx, ih (k := k) (by simpa using hk) (fun y hy => h1 y (by simp [hy])) (fun y hy => h2 y (by simpa using hy))]
      simp
theorem one_txt {w : World} (x : ByteArray) : Ss (w.alloc (.cells #[.string x] 9)) (some ⟨w.heap.size, 0, none⟩) 1 1 [x.data.toList] := ss_lit _ (by simp [strVal]) rfl (by omega)
theorem bl_txt {s x : ByteArray} {l : Txt} (hx : x.data.toList = l) : Op.bytesLess x.toList s.toList = decide (l < s.data.toList) := by
  rw [Proofs.bytesLess_eq, tolist_eq, tolist_eq, hx]
/-- The slice value from its k-th text on. -/
theorem Ss.drop {w : World} {g o n c : Nat} {ss : List Txt} (h : Ss w (some ⟨g, o, none⟩) n c ss) {k : Nat} (hk : k ≤ n) : Ss w (some ⟨g, o + k, none⟩) (n - k) (c - k) (ss.drop k) := by
  refine ⟨by rw [List.length_drop, h.len], by have := h.cap; omega, by have := h.top; omega, fun hn => ?_⟩
  obtain ⟨g', o', e, hg, hc⟩ := h.cells (by omega)
  cases e
  refine ⟨g, o + k, rfl, hg, fun i hi => ?_⟩
  have := hc (k + i) (by omega)
  rw [Nat.add_assoc, this]
  have e1 : k + i < ss.length := by rw [h.len]; omega
  have e2 : i < (ss.drop k).length := by rw [List.length_drop]; omega
  simp [List.getD]

theorem str_size : (Tryd.prog.info? 9).map (·.size) = some 1 := by kernel_rfl
theorem slice_from {w : World} {A : Option Addr} {n c : Nat} {ss : List Txt} (h : Ss w A n c ss) {k : Nat} (hk : k ≤ n) (i : Int) (hik : i = (k : Int)) : ∃ B m d, (∀ W, (Instr.slice 26 (.slice A n c) (some (.int .i64 i)) none none).run Tryd.prog W = .ok (.slice B m d) W) ∧ Ss w B m d (ss.drop k) := by
  subst hik
  obtain ⟨i0, hi, hz0, hz1, hz2⟩ := info_parts str_info
  refine ⟨if c = k then A else A.map (·.add (k * 1)), n - k, c - k, fun W => ?_, ?_⟩
  · have he : Tryd.prog.elem 26 = 9 := by kernel_rfl
    rw [run_slice_l (t := 26) (a := A) (len := n) (cap := c) (ht := by rw [he]; exact Tryd.underlying26) (kl := .i64) (l := (k : Int)) (h0 := by omega) (h1 := by omega), he]
    simp [sizeOf, typeInfo, hi, hz1, sliced, Result.andThen, go_sem]
  · rcases Nat.eq_zero_or_pos (n - k) with h0 | h0
    · rw [h0]
      have : ss.drop k = [] := List.drop_eq_nil_of_le (by rw [h.len]; omega)
      rw [this]
      exact Ss.empty w _ (by have := h.top; omega)
    · have hc := h.cap
      rw [if_neg (by omega)]
      obtain ⟨g, o, e, _, _⟩ := h.cells (by omega)
      subst e
      have e2 : (some (⟨g, o, none⟩ : Addr)).map (·.add (k * 1)) = some ⟨g, o + k, none⟩ := by simp [Addr.add]
      rw [e2]
      exact h.drop hk

set_option maxRecDepth 100000 in
set_option maxHeartbeats 4000000 in
theorem put_any (A : Option Addr) (n c : Nat) (ls : List Txt) (s : ByteArray) (w : World) (hs : Ss w A n c ls) (hn : n ≤ 100000) :
    Calls Tryd.prog 64 #[.slice A n c, .string s] w fun e w' => ∃ C k q, e = .returned (.slice C k q) ∧ Ss w' C k q (putB ls s.data.toList) ∧ Below w.heap.size w w' := by
  have HS := Lib.hid hs
  have HL := Lib.hid hs.len
  clear hs
  go_enter Tryd.func64, Tryd.ntmps64
  go_wp2_with fail
  go_loopw [5, 6] (fun ov iv wr => ∃ k : Nat, k ≤ n ∧ iv = .int .i64 (k : Int) ∧ wr.ownsRow w.heap.size 9 1 ov (ls.take k).length ((ls.take k).map encStr) ∧ Below w.heap.size w wr ∧ ∀ y ∈ ls.take k, y < s.data.toList) (fun _ iv _ => n - (intOf iv).toNat)
  case atStart => exact ⟨0, Nat.zero_le _, rfl, by simpa using row_nil w w.heap.size, Below.refl _ _, by simp⟩
  case round =>
    obtain ⟨k, hk, rfl, ho, hb, hall⟩ := hrel
    have HO := Lib.hid ho
    have HB := Lib.hid hb
    have HA := Lib.hid hall
    have HSR := Lib.hid (HS.out.below hb)
    have hlk : (ls.take k).length ≤ 100000 := by rw [List.length_take]; omega
    clear ho hb hall
    by_cases hlt : k < n
    · obtain ⟨g, o, x, rfl, hg, hc0, hx⟩ := HS.out.at_ hlt
      have hc := (HB.out.cell (p := ⟨g, o + k, none⟩) hg).trans hc0
      have hkl : k < ls.length := by rw [HL.out]; exact hlt
      have HKL := Lib.hid hkl
      have HX := Lib.hid hx.out
      have BL := bl_txt (s := s) hx.out
      have q1 : (k : Int) < n := by omega
      have HCW := Lib.hid hc0
      clear hc0 HSR
      have HGL := Lib.hid hg
      clear hx hkl hg
      by_cases hd : ls.getD k [] < s.data.toList
      · have HD := Lib.hid hd
        rw [decide_eq_true hd] at BL
        clear hd
        have HBS := Lib.hid (below_alloc (w := wr) (.cells #[.string x] 9))
        have HOS := Lib.hid (row_below HO.out HBS.out)
        have HBW := Lib.hid (HB.out.trans (HBS.out.mono HB.out.size))
        go_wp2_with (at_builtin; refine wpList_append_txts _ rfl _ _ rfl w.heap.size HBW.out.size _ (ls.take k) rfl HOS.out _ 1 1 [x.data.toList] rfl (one_txt x) (by simp; omega) ?_; intro v2 w2 hr2 hg2 ho2)
        rw [HX.out, ← take_snoc HKL.out] at hr2
        have HR2 := Lib.hid hr2
        have HB2 : Hid (Below w.heap.size w w2) := HBW.out.grown hg2 HBW.out.size (fun q hq => row_ge HOS.out hq)
        have HA2 : Hid (∀ y ∈ ls.take (k + 1), y < s.data.toList) := by
          show ∀ y ∈ ls.take (k + 1), y < s.data.toList
          rw [take_snoc HKL.out]
          intro y hy
          rcases List.mem_append.1 hy with h | h
          · exact HA.out y h
          · rw [List.mem_singleton.1 h]; exact HD.out
        clear hr2 hg2 ho2
        go_wp2_with fail
        go_round
        case rel => exact ⟨k + 1, by omega, by go_num, HR2.out, HB2.out, HA2.out⟩
        case measure => simp [intOf] <;> omega
      · have HD := Lib.hid hd
        rw [decide_eq_false hd] at BL
        clear hd
        have HG : Hid (ls[k]? = some (ls.getD k [])) := by show ls[k]? = some _; simp [List.getD, HKL.out]
        by_cases he : ls.getD k [] = s.data.toList
        · have TB : (x.toList == s.toList) = true := txt_beq2 HX.out (decide_eq_true he.symm)
          have HPS : Hid (putB ls s.data.toList = ls.take k ++ [s.data.toList] ++ ls.drop (k + 1)) := by
            show _ = _
            rw [put_split (k := k) (Nat.le_of_lt HKL.out) HA.out (by rw [HG.out]; intro y hy; cases hy; exact HD.out), HG.out]
            rw [if_pos (by rw [he])]
            simp
          clear he
          have HBS := Lib.hid (below_alloc (w := wr) (.cells #[.string s] 9))
          have HOS := Lib.hid (row_below HO.out HBS.out)
          have HBW := Lib.hid (HB.out.trans (HBS.out.mono HB.out.size))
          obtain ⟨B, m, d, RS, hss⟩ := slice_from HS.out (k := k + 1) (by omega) ((k : Int) + 1) (by omega)
          have HSS := Lib.hid hss
          clear hss
          go_wp2_with (at_builtin; first
            | (refine wpList_append_txts _ rfl _ _ rfl w.heap.size HBW.out.size _ (ls.take k) rfl HOS.out _ 1 1 [s.data.toList] rfl (one_txt s) (by have := HL.out; simp; omega) ?_; intro v2 w2 hr2 hg2 ho2; have HR2 := Lib.hid hr2; have HB2 : Hid (Below w.heap.size w w2) := HBW.out.grown hg2 HBW.out.size (fun q hq => row_ge HOS.out hq); clear hr2 hg2 ho2; have hc2 := (HB2.out.cell (p := ⟨g, o + k, none⟩) HGL.out).trans HCW.out; have RR := hc2)
            | (refine wpList_append_txts _ rfl _ _ rfl w.heap.size HB2.out.size _ (ls.take k ++ [s.data.toList]) rfl HR2.out B m d (ls.drop (k + 1)) rfl (HSS.out.below HB2.out) (by have := HL.out; simp; omega) ?_; intro v3 w3 hr3 hg3 ho3))
          have HB3 : Hid (Below w.heap.size w w3) := HB2.out.grown hg3 HB2.out.size (fun q hq => row_ge HR2.out hq)
          obtain ⟨C, q, rfl, hres⟩ := Ss.of_row rfl hr3
          have HRES := Lib.hid hres
          clear hr3 hg3 ho3 hres
          go_wp2_with fail
          go_ret
          exact ⟨C, _, q, rfl, by rw [HPS.out]; simpa using HRES.out, HB3.out⟩
        · have TB : (x.toList == s.toList) = false := txt_beq2 HX.out (decide_eq_false (fun e => he e.symm))
          have HPS : Hid (putB ls s.data.toList = ls.take k ++ [s.data.toList] ++ ls.drop (k)) := by
            show _ = _
            rw [put_split (k := k) (Nat.le_of_lt HKL.out) HA.out (by rw [HG.out]; intro y hy; cases hy; exact HD.out), HG.out]
            rw [if_neg (by intro e; exact he (Option.some.inj e))]
            simp
          clear he
          have HBS := Lib.hid (below_alloc (w := wr) (.cells #[.string s] 9))
          have HOS := Lib.hid (row_below HO.out HBS.out)
          have HBW := Lib.hid (HB.out.trans (HBS.out.mono HB.out.size))
          obtain ⟨B, m, d, RS, hss⟩ := slice_from HS.out (k := k) (by omega) ((k : Int)) (by omega)
          have HSS := Lib.hid hss
          clear hss
          go_wp2_with (at_builtin; first
            | (refine wpList_append_txts _ rfl _ _ rfl w.heap.size HBW.out.size _ (ls.take k) rfl HOS.out _ 1 1 [s.data.toList] rfl (one_txt s) (by have := HL.out; simp; omega) ?_; intro v2 w2 hr2 hg2 ho2; have HR2 := Lib.hid hr2; have HB2 : Hid (Below w.heap.size w w2) := HBW.out.grown hg2 HBW.out.size (fun q hq => row_ge HOS.out hq); clear hr2 hg2 ho2; have hc2 := (HB2.out.cell (p := ⟨g, o + k, none⟩) HGL.out).trans HCW.out; have RR := hc2)
            | (refine wpList_append_txts _ rfl _ _ rfl w.heap.size HB2.out.size _ (ls.take k ++ [s.data.toList]) rfl HR2.out B m d (ls.drop (k)) rfl (HSS.out.below HB2.out) (by have := HL.out; simp; omega) ?_; intro v3 w3 hr3 hg3 ho3))
          have HB3 : Hid (Below w.heap.size w w3) := HB2.out.grown hg3 HB2.out.size (fun q hq => row_ge HR2.out hq)
          obtain ⟨C, q, rfl, hres⟩ := Ss.of_row rfl hr3
          have HRES := Lib.hid hres
          clear hr3 hg3 ho3 hres
          go_wp2_with fail
          go_ret
          exact ⟨C, _, q, rfl, by rw [HPS.out]; simpa using HRES.out, HB3.out⟩
    · have hke : k = n := by omega
      subst hke
      have q1 : decide ((k : Int) < (k : Int)) = false := decide_eq_false (by omega)
      have HPS : Hid (putB ls s.data.toList = ls.take k ++ [s.data.toList] ++ ls.drop k) := by
        show _ = _
        have hnone : ls[k]? = none := List.getElem?_eq_none (by rw [HL.out]; exact Nat.le_refl _)
        rw [put_split (k := k) (by rw [HL.out]; exact Nat.le_refl _) HA.out (by rw [hnone]; intro x hx; cases hx), hnone]
        simp
      have HBS := Lib.hid (below_alloc (w := wr) (.cells #[.string s] 9))
      have HOS := Lib.hid (row_below HO.out HBS.out)
      have HBW := Lib.hid (HB.out.trans (HBS.out.mono HB.out.size))
      obtain ⟨B, m, d, RS, hss⟩ := slice_from HS.out (k := k) (by omega) ((k : Int)) (by omega)
      have HSS := Lib.hid hss
      clear hss
      go_wp2_with (at_builtin; first
        | (refine wpList_append_txts _ rfl _ _ rfl w.heap.size HBW.out.size _ (ls.take k) rfl HOS.out _ 1 1 [s.data.toList] rfl (one_txt s) (by have := HL.out; simp; omega) ?_; intro v2 w2 hr2 hg2 ho2; have HR2 := Lib.hid hr2; have HB2 : Hid (Below w.heap.size w w2) := HBW.out.grown hg2 HBW.out.size (fun q hq => row_ge HOS.out hq); clear hr2 hg2 ho2)
        | (refine wpList_append_txts _ rfl _ _ rfl w.heap.size HB2.out.size _ (ls.take k ++ [s.data.toList]) rfl HR2.out B m d (ls.drop (k)) rfl (HSS.out.below HB2.out) (by have := HL.out; simp; omega) ?_; intro v3 w3 hr3 hg3 ho3))
      have HB3 : Hid (Below w.heap.size w w3) := HB2.out.grown hg3 HB2.out.size (fun q hq => row_ge HR2.out hq)
      obtain ⟨C, q, rfl, hres⟩ := Ss.of_row rfl hr3
      have HRES := Lib.hid hres
      clear hr3 hg3 ho3 hres
      go_wp2_with fail
      go_ret
      exact ⟨C, _, q, rfl, by rw [HPS.out]; simpa using HRES.out, HB3.out⟩
end Go.Proofs.YtfenmogbellhdaaDoor
