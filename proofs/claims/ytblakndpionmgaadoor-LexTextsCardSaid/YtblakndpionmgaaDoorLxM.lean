/-
  Sets of numbers as maps; Lines of lex.
-/
import Derived.Test.YtblakndpionmgaaDoorLxE
import Derived.Maps.OwnSet
import Derived.Maps.OwnOps
import Derived.Maps.Keyed
import Derived.Carry
namespace Go.Proofs.YtblakndpionmgaaDoor
open Go.RowKit

open Go.WideShapes Go.Maps
/-- The map whose keys are these numbers. -/
def miOf (acc : List Int) : DataW Unit := Maps.setOf (.lit (.bool true)) (acc.map (Lit.int .i64))
theorem miOf_snoc (acc : List Int) (x : Int) : miOf (acc ++ [x]) = (miOf acc).put (.int .i64 x) (.lit (.bool true)) := by
  unfold miOf
  rw [List.map_append, List.map_singleton, Maps.setOf_snoc]
theorem Kint : Keyed Tryd.prog 3 := Maps.int_keyed Tryd.underlying3
/-- Block b of w is the set of the numbers acc. -/
def Mi (w : World) (b : Nat) (acc : List Int) : Prop := w.ownsMap Tryd.prog 3 (plainElem Tryd.prog 4) b acc.length (miOf acc)
theorem Mi.made (w : World) : Mi (w.alloc (.map #[] 0)) w.heap.size [] := World.ownsMap_made w _ _ _
theorem Mi.lt {w : World} {b : Nat} {acc : List Int} (h : Mi w b acc) : b < w.heap.size := World.ownsMap.lt h
theorem Mi.keep {w w' : World} {b : Nat} {acc : List Int} (h : Mi w b acc) (hb : Below w.heap.size w w') : Mi w' b acc := by
  have hl := h.lt
  obtain ⟨es, clock, hbl, F, hs, hD⟩ := h
  exact ⟨es, clock, by rw [hb.block _ hl]; exact hbl, F, hs, hD⟩
theorem lit_wf {x : Int} (hx : -9223372036854775808 ≤ x ∧ x ≤ 9223372036854775807) : (Lit.int .i64 x).wf = true := by
  have e1 : IntKind.min .i64 = -9223372036854775808 := by decide
  have e2 : IntKind.max .i64 = 9223372036854775807 := by decide
  show (decide (IntKind.min .i64 ≤ x) && decide (x ≤ IntKind.max .i64)) = true
  rw [e1, e2, decide_eq_true hx.1, decide_eq_true hx.2]; rfl
set_option maxRecDepth 100000 in
theorem Mi.put {w : World} {b : Nat} {acc : List Int} (h : Mi w b acc) (hn : acc.length < maxLen) (x : Int) (hx : -9223372036854775808 ≤ x ∧ x ≤ 9223372036854775807) :
    ∃ w', (Instr.mapUpdate 67 (.map (some b)) (.int .i64 x) (.bool true)).run Tryd.prog w = .ok () w' ∧ Mi w' b (acc ++ [x]) ∧ w.grownBy w' (some b) := by
  obtain ⟨w', hr, ho, hg⟩ := World.ownsMap.update h Kint Tryd.underlying67 hn (Maps.keyOf_int_mk Tryd.underlying3 (lit_wf hx)) (plainElem_bool Tryd.underlying4 true)
  refine ⟨w', hr, ?_, hg⟩
  unfold Mi
  rw [List.length_append, List.length_singleton, miOf_snoc]
  exact ho
theorem run_make_mi (w : World) : (Instr.makeMap 67 none).run Tryd.prog w = .ok (.map (some w.heap.size)) (w.alloc (.map #[] 0)) := by
  simp [Instr.makeMap, go_sem]
def addI (acc : List Int) (x : Int) : List Int := if x ∈ acc then acc else acc ++ [x]
def linesI (l : List Int) : List Int := l.foldl addI []
theorem addI_key (acc : List Int) (x : Int) : Maps.addKey (acc.map (Lit.int .i64)) (.int .i64 x) = (addI acc x).map (Lit.int .i64) := by
  unfold Maps.addKey addI
  have e : (acc.map (Lit.int .i64)).any (fun y => y.sameKey (.int .i64 x)) = decide (x ∈ acc) := by
    rw [Bool.eq_iff_iff, List.any_eq_true, decide_eq_true_iff]
    constructor
    · rintro ⟨y, hy, h⟩
      obtain ⟨z, hz, rfl⟩ := List.mem_map.1 hy
      have : z = x := by simpa [Lit.sameKey] using h
      rw [← this]; exact hz
    · intro h
      exact ⟨_, List.mem_map.2 ⟨x, h, rfl⟩, by simp [Lit.sameKey]⟩
  rw [e]
  by_cases h : x ∈ acc
  · rw [decide_eq_true h, if_pos rfl, if_pos h]
  · rw [decide_eq_false h, if_neg (by simp), if_neg h]; simp
theorem fold_key : ∀ (xs acc : List Int), (xs.map (Lit.int .i64)).foldl Maps.addKey (acc.map (Lit.int .i64)) = (xs.foldl addI acc).map (Lit.int .i64)
  | [], _ => rfl
  | x :: xs, acc => by rw [List.map_cons, List.foldl_cons, List.foldl_cons, addI_key, fold_key xs]
theorem mi_size (acc : List Int) : Maps.size (miOf acc) = (linesI acc).length := by
  unfold miOf
  rw [Maps.size_setOf _ _ (by intro x hx; obtain ⟨y, _, rfl⟩ := List.mem_map.1 hx; trivial)]
  have := fold_key acc []
  rw [List.map_nil] at this
  rw [this, List.length_map]; rfl
def keysL (ts : List Tk) : List Int := (ts.filter (fun t => decide (t.kind ≠ 0))).map (·.line)
def linesN (ts : List Tk) : Nat := (linesI (keysL ts)).length
theorem keys_skip {ts : List Tk} {k : Nat} (hk : k < ts.length) (h : (ts.getD k tk0).kind = 0) : keysL (ts.take (k + 1)) = keysL (ts.take k) := by
  have e : ts.getD k tk0 = ts[k] := by simp [List.getD, hk]
  rw [e] at h
  unfold keysL
  rw [List.take_succ_eq_append_getElem hk, List.filter_append]
  simp [h]
theorem keys_add {ts : List Tk} {k : Nat} (hk : k < ts.length) (h : (ts.getD k tk0).kind ≠ 0) : keysL (ts.take (k + 1)) = keysL (ts.take k) ++ [(ts.getD k tk0).line] := by
  have e : ts.getD k tk0 = ts[k] := by simp [List.getD, hk]
  rw [e] at h ⊢
  unfold keysL
  rw [List.take_succ_eq_append_getElem hk, List.filter_append]
  simp [h]
theorem keys_len (ts : List Tk) : (keysL ts).length ≤ ts.length := by
  unfold keysL
  rw [List.length_map]
  exact List.length_filter_le _ _
set_option maxRecDepth 100000 in
set_option maxHeartbeats 4000000 in
theorem lines_any (A : Option Addr) (n c : Nat) (ts : List Tk) (w : World) (hs : Ts w A n c ts) (hn : n ≤ 1000000) (hbd : ∀ t ∈ ts, -9223372036854775808 ≤ t.line ∧ t.line ≤ 9223372036854775807) : Calls Tryd.prog 26 #[.slice A n c] w fun e w' => e = .returned (.int .i64 ((linesN ts : Nat) : Int)) ∧ Below w.heap.size w w' := by
  have HTS := Lib.hid hs
  have HL := Lib.hid hs.len
  have HBD := Lib.hid hbd
  have RM := run_make_mi w
  clear hs hbd
  go_enter Tryd.func26, Tryd.ntmps26
  go_wp2_with fail
  go_loopw [9] (fun iv wr => ∃ k : Nat, k ≤ n ∧ iv = .int .i64 (k : Int) ∧ Mi wr w.heap.size (keysL (ts.take k)) ∧ Below w.heap.size w wr) (fun iv _ => n - (intOf iv).toNat)
  case atStart => exact ⟨0, Nat.zero_le _, rfl, Mi.made w, (Below.refl _ _).alloc (Nat.le_refl _) _⟩
  case round =>
    obtain ⟨k, hk, rfl, hm, hb⟩ := hrel
    have HM := Lib.hid hm
    have HB := Lib.hid hb
    clear hm hb
    by_cases hlt : k < n
    · obtain ⟨g, o, x, rfl, hg, c0, c1, c2, c3, hx⟩ := HTS.out.at_ hlt
      have hkl : k < ts.length := by rw [HL.out]; exact hlt
      have HKL := Lib.hid hkl
      have hbt := HBD.out _ (getD_mem_tk hkl)
      obtain ⟨t, ht⟩ : ∃ t, ts.getD k tk0 = t := ⟨_, rfl⟩
      rw [ht] at c0 c2 c3 hbt
      have HTK := Lib.hid ht
      have HBT := Lib.hid hbt
      have d0 := (HB.out.cell (p := ⟨g, o + k * 4, none⟩) hg).trans c0
      have d1 := (HB.out.cell (p := ⟨g, o + k * 4 + 1, none⟩) hg).trans c1
      have d2 := (HB.out.cell (p := ⟨g, o + k * 4 + 2, none⟩) hg).trans c2
      have d3 := (HB.out.cell (p := ⟨g, o + k * 4 + 3, none⟩) hg).trans c3
      have q1 : (k : Int) < n := by omega
      have BK := Bk.new 36 wr #[.int .i64 t.kind, .string x, .int .i64 t.n, .int .i64 t.line]
      have e0 := BK.c 0 (v := .int .i64 t.kind) rfl
      have e3 := BK.c 3 (v := .int .i64 t.line) rfl
      have HB1 := Lib.hid (HB.out.alloc HB.out.size (.cells #[.int .i64 t.kind, .string x, .int .i64 t.n, .int .i64 t.line] 36))
      have HM1 := Lib.hid (HM.out.keep ((Below.refl _ _).alloc (Nat.le_refl _) (.cells #[.int .i64 t.kind, .string x, .int .i64 t.n, .int .i64 t.line] 36)))
      clear c0 c1 c2 c3 hx hkl ht hg hbt BK
      by_cases hk0 : t.kind = 0
      · have qk : (t.kind == 0) = true := by rw [hk0]; rfl
        have qk2 : (t.kind != 0) = false := by rw [bne, qk]; rfl
        have HK : Hid (keysL (ts.take (k + 1)) = keysL (ts.take k)) := keys_skip HKL.out (by rw [HTK.out]; exact hk0)
        clear hk0
        go_wp2_with fail
        go_roundw
        case rel => exact ⟨k + 1, by omega, by go_num, by rw [HK.out]; exact HM1.out, HB1.out⟩
        case measure => simp [intOf] <;> omega
      · have qk : (t.kind == 0) = false := beq_eq_false_iff_ne.2 hk0
        have qk2 : (t.kind != 0) = true := by rw [bne, qk]; rfl
        have HK : Hid (keysL (ts.take (k + 1)) = keysL (ts.take k) ++ [t.line]) := by
          have := keys_add HKL.out (by rw [HTK.out]; exact hk0)
          rw [HTK.out] at this
          exact this
        obtain ⟨w2, RU, hm2, hg2⟩ := HM1.out.put (by have := keys_len (ts.take k); rw [List.length_take] at this; unfold maxLen; omega) t.line HBT.out
        have HM2 := Lib.hid hm2
        have HB2 : Hid (Below w.heap.size w w2) := HB1.out.grown hg2 HB1.out.size (fun q hq => by cases hq; exact Nat.le_refl _)
        clear hk0 hm2 hg2
        go_wp2_with fail
        go_roundw
        case rel => exact ⟨k + 1, by omega, by go_num, by rw [HK.out]; exact HM2.out, HB2.out⟩
        case measure => simp [intOf] <;> omega
    · have hke : k = n := by omega
      subst hke
      have hl := fun ty => World.ownsMap.len HM.out Tryd.underlying67 ty
      have hz : Maps.size (miOf (keysL (ts.take k))) = linesN ts := by
        rw [mi_size, List.take_of_length_le (by rw [HL.out]; exact Nat.le_refl _)]; rfl
      rw [hz] at hl
      clear hz
      go_wp2_with fail
      go_ret
      exact ⟨rfl, HB.out⟩
end Go.Proofs.YtblakndpionmgaaDoor
