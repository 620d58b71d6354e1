/-
  Contract of Text.
-/
import Derived.Test.YtblakndpionmgaaDoorLxD
import Derived.Test.YtblakndpionmgaaDoorLxBT
namespace Go.Proofs.YtblakndpionmgaaDoor
open Go.RowKit

/-- What Text hands back. -/
def TextP (r : Txt × Int) (w : World) (e : Ending) (w' : World) : Prop := e = .returned (.tuple #[.string ⟨r.1.toArray⟩, .int .i64 r.2]) ∧ Below w.heap.size w w'
theorem text_bad {r : Txt × Int} {w w' : World} {e : Int} (h : r = ([], e)) (hb : Below w.heap.size w w') : TextP r w (.returned (.tuple #[.string ⟨#[]⟩, .int .i64 e])) w' := by
  subst h; exact ⟨rfl, hb⟩
theorem text_good {r : Txt × Int} {w w' : World} {l : Txt} (h : r = (l, 0)) (hb : Below w.heap.size w w') : TextP r w (.returned (.tuple #[.string ⟨l.toArray⟩, .int .i64 0])) w' := by
  subst h; exact ⟨rfl, hb⟩
theorem rep_list (d : Nat) : Lib.repeatL [10] d = List.replicate d 10 := by
  induction d with
  | zero => rfl
  | succ d ih => rw [Lib.repeatL, ih]; rfl
theorem bk_kept {w w' : World} {g b : Nat} {l : Array Value} (h : Bk 36 w g l) (hk : Lib.OthersKept 5 (some b) w w') (hg : g ≠ b) : Bk 36 w' g l :=
  hk g _ h (fun e => hg (Option.some.inj e)) (fun c fz e => by injection e with _ e2 _; revert e2; decide)
theorem getD_mem_tk {ts : List Tk} {k : Nat} (h : k < ts.length) : ts.getD k tk0 ∈ ts := by
  have e : ts.getD k tk0 = ts[k] := by simp [List.getD, h]
  rw [e]; exact List.getElem_mem h
theorem text_check {ts : List Tk} (h : checkF 1 ts ≠ 0) : textR ts = ([], checkF 1 ts) := by unfold textR; rw [if_pos h]
theorem text_none {ts : List Tk} (h : checkF 1 ts = 0) (h2 : textF true 1 [] ts = none) : textR ts = ([], 7) := by unfold textR; rw [if_neg (by simp [h]), h2]
theorem text_some {ts : List Tk} {o : Txt} (h : checkF 1 ts = 0) (h2 : textF true 1 [] ts = some o) : textR ts = (o, 0) := by unfold textR; rw [if_neg (by simp [h]), h2]
set_option maxRecDepth 100000 in
set_option maxHeartbeats 16000000 in
theorem ltext_any (A : Option Addr) (n c : Nat) (ts : List Tk) (w : World) (hs : Ts w A n c ts) (hbd : ∀ t ∈ ts, t.line ≤ 9223372036854775807) (htab : Tabx w) (hst : St w) : Calls Tryd.prog 23 #[.slice A n c] w fun e w' => TextP (textR ts) w e w' := by
  have HT := Lib.hid htab
  have HS := Lib.hid hst
  have HTS := Lib.hid hs
  have HL := Lib.hid hs.len
  have HBD := Lib.hid hbd
  have h47 : n ≤ 9223372036854775807 := Nat.le_trans hs.cap hs.top
  have CK := check_any A n c ts w hs htab hst
  clear htab hst hs hbd
  by_cases hck : checkF 1 ts = 0
  · have HCK := Lib.hid hck
    rw [hck] at CK
    clear hck
    go_enter Tryd.func23, Tryd.ntmps23
    go_wp2_with fail
    (refine CK.mono ?_); rintro e w1 ⟨rfl, hb⟩
    have HB1 := Lib.hid hb
    clear hb CK
    go_upto_region 5 with fail
    have hfb := Lib.fresh_isBuilder 57 5 w1
    have HBA := Lib.hid (HB1.out.alloc HB1.out.size (.cells #[.pointer none, .slice none 0 0] 57))
    have hbz : w1.heap.size < (w1.alloc (.cells #[.pointer none, .slice none 0 0] 57)).heap.size := by simp
    have hwb : w.heap.size ≤ w1.heap.size := HB1.out.size
    generalize w1.alloc (.cells #[.pointer none, .slice none 0 0] 57) = W1 at *
    generalize w1.heap.size = b at *
    have HFB := Lib.hid hfb
    have HBZ := Lib.hid hbz
    have HWB := Lib.hid hwb
    clear hfb HB1 hbz hwb
    go_wp2_with fail
    go_loopw [6, 17] (fun lv iv wr => b < wr.heap.size ∧ ∃ (k : Nat) (line : Int) (out : Txt), k ≤ n ∧ iv = .int .i64 (k : Int) ∧ lv = .int .i64 line ∧ Lib.IsBuilder 57 5 b b (Lib.byteCells (out)) wr ∧ Below w.heap.size w wr ∧ textF (decide (k = 0)) line out (ts.drop k) = textF true 1 [] ts ∧ okFrom line (ts.drop k) ∧ out.length ≤ 40000 ∧ 1 ≤ line) (fun _ iv _ => n - (intOf iv).toNat)
    case atStart => exact ⟨HBZ.out, 0, 1, [], Nat.zero_le _, rfl, rfl, HFB.out, HBA.out, rfl, ok_of_check HCK.out, by simp, by omega⟩
    case round =>
      obtain ⟨hbr, k, line, out, hk, rfl, rfl, hib, hb, htx, hok, hol, hl1⟩ := hrel
      have HIB := Lib.hid hib
      have HB := Lib.hid hb
      have HTX := Lib.hid htx
      have HOK := Lib.hid hok
      have HBR := Lib.hid hbr
      clear hib hb htx hok hbr
      by_cases hlt : k < n
      · obtain ⟨g, o, x, rfl, hg, c0, c1, c2, c3, hx⟩ := HTS.out.at_ hlt
        have hkl : k < ts.length := by rw [HL.out]; exact hlt
        have HKL := Lib.hid hkl
        have HX := Lib.hid hx.out
        have hok3 := ok_at (p := line) (l := ts) (k := k) hkl HOK.out
        have hst := text_step (b := decide (k = 0)) (line := line) (out := out) (l := ts) (k := k) hkl
        rw [HTX.out] at hst
        have hbt := HBD.out (ts.getD k tk0) (getD_mem_tk hkl)
        obtain ⟨t, ht⟩ : ∃ t, ts.getD k tk0 = t := ⟨_, rfl⟩
        rw [show ts.getD k ⟨0, [], 0, 0⟩ = t from ht] at hst hok3
        rw [ht] at c0 c2 c3 hbt
        have HXT : Hid (x.data.toList = t.text) := by show _ = _; rw [HX.out, ht]
        obtain ⟨hfit, hlp, hok2⟩ := hok3
        have hfl := fit_line hfit
        have HOK2 := Lib.hid hok2
        have HST := Lib.hid hst
        have hxs : x.size ≤ 40000 := by rw [size_list, HXT.out]; exact hfl.2
        obtain ⟨d, hd⟩ : ∃ d : Nat, t.line - line = (d : Int) := ⟨(t.line - line).toNat, by omega⟩
        have hln := hfl.1
        have d0 := (HB.out.cell (p := ⟨g, o + k * 4, none⟩) hg).trans c0
        have d1 := (HB.out.cell (p := ⟨g, o + k * 4 + 1, none⟩) hg).trans c1
        have d2 := (HB.out.cell (p := ⟨g, o + k * 4 + 2, none⟩) hg).trans c2
        have d3 := (HB.out.cell (p := ⟨g, o + k * 4 + 3, none⟩) hg).trans c3
        have q1 : (k : Int) < n := by omega
        have q2 : -9223372036854775808 ≤ t.line - line := by omega
        have q3 : t.line - line ≤ 9223372036854775807 := by omega
        have BK := Lib.hid (Bk.new 36 wr #[.int .i64 t.kind, .string x, .int .i64 t.n, .int .i64 t.line])
        have e0 := BK.out.c 0 (v := .int .i64 t.kind) rfl
        have e1 := BK.out.c 1 (v := .string x) rfl
        have e2 := BK.out.c 2 (v := .int .i64 t.n) rfl
        have e3 := BK.out.c 3 (v := .int .i64 t.line) rfl
        have HB1 := Lib.hid (HB.out.alloc HB.out.size (.cells #[.int .i64 t.kind, .string x, .int .i64 t.n, .int .i64 t.line] 36))
        have HI1 := Lib.hid (isBuilder_below HIB.out ((Below.refl _ _).alloc (Nat.le_refl _) (.cells #[.int .i64 t.kind, .string x, .int .i64 t.n, .int .i64 t.line] 36)))
        have hbx : wr.heap.size ≠ b := by have := HBR.out; omega
        have hba : b ≤ (wr.alloc (.cells #[.int .i64 t.kind, .string x, .int .i64 t.n, .int .i64 t.line] 36)).heap.size := by have := HBR.out; simp; omega
        have HBX := Lib.hid hbx
        have HBA1 := Lib.hid hba
        rw [hd] at HST
        have HD := Lib.hid hd
        clear c0 c1 c2 c3 hx hkl ht hg hst hfit hlp hok2 hfl hbx hba hbt
        by_cases hbig : 40000 < (d : Int)
        · have HN : Hid (textF true 1 [] ts = none) := by show _ = _; rw [HST.out, if_pos hbig]
          go_wp2_with fail
          go_ret2
          exact text_bad (text_none HCK.out HN.out) HB1.out
        · have hd4 : d ≤ 40000 := by omega
          have HS2 : Hid (textF true 1 [] ts = if 40000 < (out ++ gapT (decide (k = 0)) (d : Int) t ++ t.text).length then none else textF false t.line (out ++ gapT (decide (k = 0)) (d : Int) t ++ t.text) (ts.drop (k + 1))) := by
            show _ = _
            have := HST.out
            rw [if_neg hbig] at this
            exact this
          have CR := fun W => Tryd.strings_Repeat ⟨#[10]⟩ d W (by omega) (by show 1 * d ≤ _; omega)
          obtain ⟨rp, hrp⟩ : ∃ rp : ByteArray, rp = ⟨(Lib.repeatL [10] d).toArray⟩ := ⟨_, rfl⟩
          have hrl : rp.data.toList = List.replicate d 10 := by rw [hrp, ← rep_list]
          have hrz : rp.size ≤ 40000 := by rw [size_list, hrl, List.length_replicate]; exact hd4
          have HRL := Lib.hid hrl
          have HRZ := Lib.hid hrz
          rw [show (⟨#[10]⟩ : ByteArray).data.toList = [10] from rfl, ← hrp] at CR
          clear hrp hrl hrz HST
          obtain ⟨sp, hsp⟩ : ∃ sp, (if decide (k = 0) = false ∧ (d : Int) = 0 ∧ t.kind ≠ 0 then [32] else ([] : Txt)) = sp := ⟨_, rfl⟩
          have HG : Hid (out ++ gapT (decide (k = 0)) (d : Int) t ++ t.text = out ++ rp.data.toList ++ sp ++ x.data.toList) := by
            show _ = _
            unfold gapT
            rw [hsp, HRL.out, HXT.out, Int.toNat_natCast]
            simp
          rw [HG.out] at HS2
          have hsz1 : sp.length ≤ 1 := by rw [← hsp]; split <;> simp
          by_cases hk0 : k = 0
          · have HSP : Hid (sp = []) := by show _ = _; rw [← hsp, if_neg (by simp [hk0])]
            clear hsp
            have g0 : decide ((0 : Int) < (k : Int)) = false := decide_eq_false (by omega)
            have g1 : ¬ (0 : Int) < (k : Int) := by omega
            have g2 : ¬ 0 < k := by omega
            clear hk0
            go_wp2_with fail
            (refine (CR _).mono ?_); rintro e W2 ⟨rfl, hb⟩
            have HI2 := Lib.hid (isBuilder_below HI1.out hb)
            have HB2 := Lib.hid (nbelow_on HB1.out hb)
            have BK2 := Lib.hid (BK.out.below hb)
            have HZ2 : Hid (b ≤ W2.heap.size) := Nat.le_trans HBA1.out hb.size
            clear hb e0 e1 e2 e3 d0 d1 d2 d3
            go_wp2_with fail
            (refine (writeString_any b b out rp _ HI2.out (by omega) (by have := HRZ.out; omega) HZ2.out).mono ?_); rintro e W3 ⟨rfl, hi, hb, ho⟩
            have HI3 := Lib.hid hi
            have HB3 := Lib.hid (HB2.out.trans (hb.mono HWB.out))
            have BK3 := Lib.hid (bk_kept BK2.out ho HBX.out)
            have HZ3 : Hid (b ≤ W3.heap.size) := Nat.le_trans HZ2.out hb.size
            clear hi hb ho
            have e0 := BK3.out.c 0 (v := .int .i64 t.kind) rfl
            have e1 := BK3.out.c 1 (v := .string x) rfl
            go_wp2_with fail
            (refine (writeString_any b b (out ++ rp.data.toList) x _ HI3.out (by have := HRZ.out; simp only [List.length_append, ← size_list]; omega) (by omega) HZ3.out).mono ?_); rintro e W5 ⟨rfl, hi, hb, ho⟩
            have HB5 := Lib.hid (HB3.out.trans (hb.mono HWB.out))
            have HZ5 : Hid (b < W5.heap.size) := by
              have h1 := hi
              rcases h1 with h1 | h1 <;> exact h1.lt
            have hle : out ++ rp.data.toList ++ x.data.toList = out ++ rp.data.toList ++ sp ++ x.data.toList := by rw [HSP.out]; simp
            rw [hle] at hi
            have HI5 := Lib.hid hi
            have CL := Tryd.Builder_Len_f b b _ W5 (Lib.IsBuilderF.of hi)
            rw [Lib.byteCells_length] at CL
            clear hi hb ho hle
            obtain ⟨tot, htot⟩ : ∃ tot, (out ++ rp.data.toList ++ sp ++ x.data.toList).length = tot := ⟨_, rfl⟩
            have HTOT := Lib.hid htot
            rw [htot] at CL
            clear htot
            by_cases hbg : 40000 < tot
            · have HN : Hid (textF true 1 [] ts = none) := by show _ = _; rw [HS2.out, if_pos (by rw [HTOT.out]; exact hbg)]
              have q9 : (40000 : Int) < (tot : Int) := by omega
              clear hbg
              go_wp2_with fail
              ((with_reducible refine CL.mono ?_); rintro e wx ⟨rfl, rfl⟩)
              go_wp2_with fail
              go_ret2
              exact text_bad (text_none HCK.out HN.out) HB5.out
            · have HN : Hid (textF false t.line (out ++ rp.data.toList ++ sp ++ x.data.toList) (ts.drop (k + 1)) = textF true 1 [] ts) := by
                have := HS2.out
                rw [if_neg (by rw [HTOT.out]; exact hbg)] at this
                exact this.symm
              have q9 : ¬ (40000 : Int) < (tot : Int) := by omega
              have HTL : Hid ((out ++ rp.data.toList ++ sp ++ x.data.toList).length ≤ 40000) := by show _ ≤ _; rw [HTOT.out]; omega
              clear hbg
              go_wp2_with fail
              ((with_reducible refine CL.mono ?_); rintro e wx ⟨rfl, rfl⟩)
              go_wp2_with fail
              go_roundw
              case rel => exact ⟨HZ5.out, k + 1, t.line, _, by omega, by go_num, rfl, HI5.out, HB5.out, by rw [show decide (k + 1 = 0) = false from decide_eq_false (by omega)]; exact HN.out, HOK2.out, HTL.out, by omega⟩
              case measure => simp [intOf] <;> omega
          · have g0 : decide ((0 : Int) < (k : Int)) = true := decide_eq_true (by omega)
            have g1 : (0 : Int) < (k : Int) := by omega
            have g2 : 0 < k := by omega
            by_cases hd0 : d = 0
            · have gd : ((d : Int) == 0) = true := by rw [hd0]; rfl
              by_cases hkd : t.kind = 0
              · have gk : (t.kind == 0) = true := by rw [hkd]; rfl
                have gk2 : (t.kind != 0) = false := by rw [bne, gk]; rfl
                have HSP : Hid (sp = []) := by show _ = _; rw [← hsp, if_neg (by simp [hkd])]
                clear hsp
                clear hk0 hd0 hkd
                go_wp2_with fail
                (refine (CR _).mono ?_); rintro e W2 ⟨rfl, hb⟩
                have HI2 := Lib.hid (isBuilder_below HI1.out hb)
                have HB2 := Lib.hid (nbelow_on HB1.out hb)
                have BK2 := Lib.hid (BK.out.below hb)
                have HZ2 : Hid (b ≤ W2.heap.size) := Nat.le_trans HBA1.out hb.size
                clear hb e0 e1 e2 e3 d0 d1 d2 d3
                go_wp2_with fail
                (refine (writeString_any b b out rp _ HI2.out (by omega) (by have := HRZ.out; omega) HZ2.out).mono ?_); rintro e W3 ⟨rfl, hi, hb, ho⟩
                have HI3 := Lib.hid hi
                have HB3 := Lib.hid (HB2.out.trans (hb.mono HWB.out))
                have BK3 := Lib.hid (bk_kept BK2.out ho HBX.out)
                have HZ3 : Hid (b ≤ W3.heap.size) := Nat.le_trans HZ2.out hb.size
                clear hi hb ho
                have e0 := BK3.out.c 0 (v := .int .i64 t.kind) rfl
                have e1 := BK3.out.c 1 (v := .string x) rfl
                go_wp2_with fail
                (refine (writeString_any b b (out ++ rp.data.toList) x _ HI3.out (by have := HRZ.out; simp only [List.length_append, ← size_list]; omega) (by omega) HZ3.out).mono ?_); rintro e W5 ⟨rfl, hi, hb, ho⟩
                have HB5 := Lib.hid (HB3.out.trans (hb.mono HWB.out))
                have HZ5 : Hid (b < W5.heap.size) := by
                  have h1 := hi
                  rcases h1 with h1 | h1 <;> exact h1.lt
                have hle : out ++ rp.data.toList ++ x.data.toList = out ++ rp.data.toList ++ sp ++ x.data.toList := by rw [HSP.out]; simp
                rw [hle] at hi
                have HI5 := Lib.hid hi
                have CL := Tryd.Builder_Len_f b b _ W5 (Lib.IsBuilderF.of hi)
                rw [Lib.byteCells_length] at CL
                clear hi hb ho hle
                obtain ⟨tot, htot⟩ : ∃ tot, (out ++ rp.data.toList ++ sp ++ x.data.toList).length = tot := ⟨_, rfl⟩
                have HTOT := Lib.hid htot
                rw [htot] at CL
                clear htot
                by_cases hbg : 40000 < tot
                · have HN : Hid (textF true 1 [] ts = none) := by show _ = _; rw [HS2.out, if_pos (by rw [HTOT.out]; exact hbg)]
                  have q9 : (40000 : Int) < (tot : Int) := by omega
                  clear hbg
                  go_wp2_with fail
                  ((with_reducible refine CL.mono ?_); rintro e wx ⟨rfl, rfl⟩)
                  go_wp2_with fail
                  go_ret2
                  exact text_bad (text_none HCK.out HN.out) HB5.out
                · have HN : Hid (textF false t.line (out ++ rp.data.toList ++ sp ++ x.data.toList) (ts.drop (k + 1)) = textF true 1 [] ts) := by
                    have := HS2.out
                    rw [if_neg (by rw [HTOT.out]; exact hbg)] at this
                    exact this.symm
                  have q9 : ¬ (40000 : Int) < (tot : Int) := by omega
                  have HTL : Hid ((out ++ rp.data.toList ++ sp ++ x.data.toList).length ≤ 40000) := by show _ ≤ _; rw [HTOT.out]; omega
                  clear hbg
                  go_wp2_with fail
                  ((with_reducible refine CL.mono ?_); rintro e wx ⟨rfl, rfl⟩)
                  go_wp2_with fail
                  go_roundw
                  case rel => exact ⟨HZ5.out, k + 1, t.line, _, by omega, by go_num, rfl, HI5.out, HB5.out, by rw [show decide (k + 1 = 0) = false from decide_eq_false (by omega)]; exact HN.out, HOK2.out, HTL.out, by omega⟩
                  case measure => simp [intOf] <;> omega
              · have gk : (t.kind == 0) = false := beq_eq_false_iff_ne.2 hkd
                have gk2 : (t.kind != 0) = true := by rw [bne, gk]; rfl
                have HSP : Hid (sp = [32]) := by show _ = _; rw [← hsp, if_pos ⟨decide_eq_false hk0, by omega, hkd⟩]
                clear hsp
                clear hk0 hd0 hkd
                go_wp2_with fail
                (refine (CR _).mono ?_); rintro e W2 ⟨rfl, hb⟩
                have HI2 := Lib.hid (isBuilder_below HI1.out hb)
                have HB2 := Lib.hid (nbelow_on HB1.out hb)
                have BK2 := Lib.hid (BK.out.below hb)
                have HZ2 : Hid (b ≤ W2.heap.size) := Nat.le_trans HBA1.out hb.size
                clear hb e0 e1 e2 e3 d0 d1 d2 d3
                go_wp2_with fail
                (refine (writeString_any b b out rp _ HI2.out (by omega) (by have := HRZ.out; omega) HZ2.out).mono ?_); rintro e W3 ⟨rfl, hi, hb, ho⟩
                have HI3 := Lib.hid hi
                have HB3 := Lib.hid (HB2.out.trans (hb.mono HWB.out))
                have BK3 := Lib.hid (bk_kept BK2.out ho HBX.out)
                have HZ3 : Hid (b ≤ W3.heap.size) := Nat.le_trans HZ2.out hb.size
                clear hi hb ho
                have e0 := BK3.out.c 0 (v := .int .i64 t.kind) rfl
                have e1 := BK3.out.c 1 (v := .string x) rfl
                go_wp2_with fail
                (refine (writeByte_any b b _ 32 32 _ rfl HI3.out (by have := HRZ.out; rw [List.length_append, ← size_list]; omega) HZ3.out).mono ?_); rintro e W4 ⟨rfl, hi, hb, ho⟩
                have HI4 := Lib.hid hi
                have HB4 := Lib.hid (HB3.out.trans (hb.mono HWB.out))
                have BK4 := Lib.hid (bk_kept BK3.out ho HBX.out)
                have HZ4 : Hid (b ≤ W4.heap.size) := Nat.le_trans HZ3.out hb.size
                clear hi hb ho e0 e1
                have e1 := BK4.out.c 1 (v := .string x) rfl
                go_wp2_with fail
                (refine (writeString_any b b (out ++ rp.data.toList ++ [32]) x _ HI4.out (by have := HRZ.out; simp only [List.length_append, ← size_list, List.length_cons, List.length_nil]; omega) (by omega) HZ4.out).mono ?_); rintro e W5 ⟨rfl, hi, hb, ho⟩
                have HB5 := Lib.hid (HB4.out.trans (hb.mono HWB.out))
                have HZ5 : Hid (b < W5.heap.size) := by
                  have h1 := hi
                  rcases h1 with h1 | h1 <;> exact h1.lt
                have hle : out ++ rp.data.toList ++ [32] ++ x.data.toList = out ++ rp.data.toList ++ sp ++ x.data.toList := by rw [HSP.out]
                rw [hle] at hi
                have HI5 := Lib.hid hi
                have CL := Tryd.Builder_Len_f b b _ W5 (Lib.IsBuilderF.of hi)
                rw [Lib.byteCells_length] at CL
                clear hi hb ho hle
                obtain ⟨tot, htot⟩ : ∃ tot, (out ++ rp.data.toList ++ sp ++ x.data.toList).length = tot := ⟨_, rfl⟩
                have HTOT := Lib.hid htot
                rw [htot] at CL
                clear htot
                by_cases hbg : 40000 < tot
                · have HN : Hid (textF true 1 [] ts = none) := by show _ = _; rw [HS2.out, if_pos (by rw [HTOT.out]; exact hbg)]
                  have q9 : (40000 : Int) < (tot : Int) := by omega
                  clear hbg
                  go_wp2_with fail
                  ((with_reducible refine CL.mono ?_); rintro e wx ⟨rfl, rfl⟩)
                  go_wp2_with fail
                  go_ret2
                  exact text_bad (text_none HCK.out HN.out) HB5.out
                · have HN : Hid (textF false t.line (out ++ rp.data.toList ++ sp ++ x.data.toList) (ts.drop (k + 1)) = textF true 1 [] ts) := by
                    have := HS2.out
                    rw [if_neg (by rw [HTOT.out]; exact hbg)] at this
                    exact this.symm
                  have q9 : ¬ (40000 : Int) < (tot : Int) := by omega
                  have HTL : Hid ((out ++ rp.data.toList ++ sp ++ x.data.toList).length ≤ 40000) := by show _ ≤ _; rw [HTOT.out]; omega
                  clear hbg
                  go_wp2_with fail
                  ((with_reducible refine CL.mono ?_); rintro e wx ⟨rfl, rfl⟩)
                  go_wp2_with fail
                  go_roundw
                  case rel => exact ⟨HZ5.out, k + 1, t.line, _, by omega, by go_num, rfl, HI5.out, HB5.out, by rw [show decide (k + 1 = 0) = false from decide_eq_false (by omega)]; exact HN.out, HOK2.out, HTL.out, by omega⟩
                  case measure => simp [intOf] <;> omega
            · have gd : ((d : Int) == 0) = false := beq_eq_false_iff_ne.2 (by omega)
              have HSP : Hid (sp = []) := by show _ = _; rw [← hsp, if_neg (by rintro ⟨_, h, _⟩; omega)]
              clear hsp
              clear hk0 hd0
              go_wp2_with fail
              (refine (CR _).mono ?_); rintro e W2 ⟨rfl, hb⟩
              have HI2 := Lib.hid (isBuilder_below HI1.out hb)
              have HB2 := Lib.hid (nbelow_on HB1.out hb)
              have BK2 := Lib.hid (BK.out.below hb)
              have HZ2 : Hid (b ≤ W2.heap.size) := Nat.le_trans HBA1.out hb.size
              clear hb e0 e1 e2 e3 d0 d1 d2 d3
              go_wp2_with fail
              (refine (writeString_any b b out rp _ HI2.out (by omega) (by have := HRZ.out; omega) HZ2.out).mono ?_); rintro e W3 ⟨rfl, hi, hb, ho⟩
              have HI3 := Lib.hid hi
              have HB3 := Lib.hid (HB2.out.trans (hb.mono HWB.out))
              have BK3 := Lib.hid (bk_kept BK2.out ho HBX.out)
              have HZ3 : Hid (b ≤ W3.heap.size) := Nat.le_trans HZ2.out hb.size
              clear hi hb ho
              have e0 := BK3.out.c 0 (v := .int .i64 t.kind) rfl
              have e1 := BK3.out.c 1 (v := .string x) rfl
              go_wp2_with fail
              (refine (writeString_any b b (out ++ rp.data.toList) x _ HI3.out (by have := HRZ.out; simp only [List.length_append, ← size_list]; omega) (by omega) HZ3.out).mono ?_); rintro e W5 ⟨rfl, hi, hb, ho⟩
              have HB5 := Lib.hid (HB3.out.trans (hb.mono HWB.out))
              have HZ5 : Hid (b < W5.heap.size) := by
                have h1 := hi
                rcases h1 with h1 | h1 <;> exact h1.lt
              have hle : out ++ rp.data.toList ++ x.data.toList = out ++ rp.data.toList ++ sp ++ x.data.toList := by rw [HSP.out]; simp
              rw [hle] at hi
              have HI5 := Lib.hid hi
              have CL := Tryd.Builder_Len_f b b _ W5 (Lib.IsBuilderF.of hi)
              rw [Lib.byteCells_length] at CL
              clear hi hb ho hle
              obtain ⟨tot, htot⟩ : ∃ tot, (out ++ rp.data.toList ++ sp ++ x.data.toList).length = tot := ⟨_, rfl⟩
              have HTOT := Lib.hid htot
              rw [htot] at CL
              clear htot
              by_cases hbg : 40000 < tot
              · have HN : Hid (textF true 1 [] ts = none) := by show _ = _; rw [HS2.out, if_pos (by rw [HTOT.out]; exact hbg)]
                have q9 : (40000 : Int) < (tot : Int) := by omega
                clear hbg
                go_wp2_with fail
                ((with_reducible refine CL.mono ?_); rintro e wx ⟨rfl, rfl⟩)
                go_wp2_with fail
                go_ret2
                exact text_bad (text_none HCK.out HN.out) HB5.out
              · have HN : Hid (textF false t.line (out ++ rp.data.toList ++ sp ++ x.data.toList) (ts.drop (k + 1)) = textF true 1 [] ts) := by
                  have := HS2.out
                  rw [if_neg (by rw [HTOT.out]; exact hbg)] at this
                  exact this.symm
                have q9 : ¬ (40000 : Int) < (tot : Int) := by omega
                have HTL : Hid ((out ++ rp.data.toList ++ sp ++ x.data.toList).length ≤ 40000) := by show _ ≤ _; rw [HTOT.out]; omega
                clear hbg
                go_wp2_with fail
                ((with_reducible refine CL.mono ?_); rintro e wx ⟨rfl, rfl⟩)
                go_wp2_with fail
                go_roundw
                case rel => exact ⟨HZ5.out, k + 1, t.line, _, by omega, by go_num, rfl, HI5.out, HB5.out, by rw [show decide (k + 1 = 0) = false from decide_eq_false (by omega)]; exact HN.out, HOK2.out, HTL.out, by omega⟩
                case measure => simp [intOf] <;> omega
      · have hke : k = n := by omega
        subst hke
        have HN : Hid (textF true 1 [] ts = some out) := by
          have := HTX.out
          rw [List.drop_eq_nil_of_le (by rw [HL.out]; exact Nat.le_refl _)] at this
          exact this.symm
        go_wp2_with fail
        (refine (Tryd.Builder_String_any_f b b out wr (Lib.IsBuilderF.of HIB.out) (Nat.le_of_lt HBR.out)).mono ?_); rintro e W2 ⟨rfl, -, hb⟩
        have HB2 := Lib.hid (HB.out.trans (hb.mono HWB.out))
        clear hb
        go_wp2_with fail
        go_ret2
        exact text_good (text_some HCK.out HN.out) HB2.out
  · have HCK := Lib.hid hck
    obtain ⟨z, hz⟩ : ∃ z, checkF 1 ts = z := ⟨_, rfl⟩
    have HZ := Lib.hid hz
    rw [hz] at CK
    have gz : (z == 0) = false := beq_eq_false_iff_ne.2 (by rw [← hz]; exact hck)
    have gz2 : (z != 0) = true := by rw [bne, gz]; rfl
    clear hck hz
    go_enter Tryd.func23, Tryd.ntmps23
    go_wp2_with fail
    (refine CK.mono ?_); rintro e w1 ⟨rfl, hb⟩
    have HB1 := Lib.hid hb
    clear hb CK
    go_wp2_with fail
    go_ret2
    exact text_bad (by rw [text_check HCK.out, HZ.out]) HB1.out
end Go.Proofs.YtblakndpionmgaaDoor
