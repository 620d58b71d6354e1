/-
  What the rows' listed variables give the walks of the package sort (two tables of texts), arguments (sorts, symbols, variables, environments, types), and a world for the witness.
-/
import Derived.Test.YtegognbnphpigaaDoorRows
import Derived.Test.YtegognbnphpigaaDoorSoQ
import Derived.ProofKit
import Derived.OpenShut
import Derived.LaidMore
import Derived.Lay
import Derived.Deep.DeepHandedRow
import Derived.Lib.LaidTab
import Derived.Carry
import Derived.SliceStrings
import Derived.Lib.SmallJoins
import Derived.Stop.LaidErr
import Derived.Deep.Slices
import Derived.ChangeSame
namespace Go.Proofs.YtegognbnphpigaaDoor
open Go.ChangeShapes Go.WideShapes Go.ChangeAt Go.RowKit

theorem own : ownKnob Tryd.prog.godebug = none := by kernel_rfl
theorem gKw : Tryd.prog.globalNamed "liquidcheck/names.keywords" = some 1 := by kernel_rfl
theorem gKwType : (Tryd.prog.globals[1]?).map (·.type) = some 107 := by kernel_rfl
theorem cellsKw : Tryd.prog.cellsOf 107 = 42 := by kernel_rfl
theorem gBt : Tryd.prog.globalNamed "liquidcheck/names.basicTypes" = some 0 := by kernel_rfl
theorem gBtType : (Tryd.prog.globals[0]?).map (·.type) = some 104 := by kernel_rfl
theorem cellsBt : Tryd.prog.cellsOf 104 = 4 := by kernel_rfl
theorem cellsStr : Tryd.prog.cellsOf 9 = 1 := by kernel_rfl

def txtData (ls : List Txt) : DataW Unit := .agg (ls.map fun l => .lit (.string l))
/-- An array of strings that reads as these texts holds them, cell for cell. -/
theorem cells_of_txts {P : Program} {w : World} {base : Nat} {sp : Nat → Bool} {held : Bool} {fuel : Nat} {t e : TypeId} {n : Nat} {enc : TypeId × Value → Unit} {cs : List Value} {ls : List Txt} {p : List MemPlace}
    (ht : P.underlying t = some (.array n e)) (he : P.underlying e = some .string) (hce : P.cellsOf e = 1) (hct : P.cellsOf t = n)
    (h : DataW.trod enc P w base sp held fuel t cs = some (txtData ls, p)) : cs = ls.map strVal := by
  cases fuel with
  | zero => simp [DataW.trod] at h
  | succ fuel =>
    simp only [DataW.trod, ht, hce, hct, Nat.mul_one] at h
    split at h
    · rename_i hl
      obtain ⟨xs, hm, hx⟩ := Option.map_eq_some_iff.1 h
      have hxs : xs.map (·.1) = ls.map fun l => (DataW.lit (.string l) : DataW Unit) := by
        have := congrArg Prod.fst hx
        simpa [txtData] using this
      have hxl : xs.length = n := by simpa using Lib.mapM_length hm
      have hll : ls.length = n := by
        have := congrArg List.length hxs
        simp at this
        omega
      refine List.ext_getElem? fun i => ?_
      rcases Nat.lt_or_ge i n with hi | hi
      · obtain ⟨b, hb, hf⟩ := Lib.mapM_at hm i i (by simp [hi])
        obtain ⟨s, hc, rfl, _⟩ := DataW.trod_string he hf
        have h1 : cs[i]? = some (.string s) := by
          have := congrArg (·[0]?) hc
          simpa [List.getElem?_take, List.getElem?_drop] using this
        have h2 : (xs.map (·.1))[i]? = some (DataW.lit (.string s.data.toList) : DataW Unit) := by simp [hb]
        rw [hxs] at h2
        simp only [List.getElem?_map, Option.map_eq_some_iff, DataW.lit.injEq, Lit.string.injEq] at h2
        obtain ⟨l, hl2, e⟩ := h2
        rw [h1, List.getElem?_map, hl2, e]
        simp [strVal]
      · rw [List.getElem?_eq_none (by omega), List.getElem?_eq_none (by simp; omega)]
    · cases h
theorem block_of_laid {P : Program} {W : World} {name : String} {ls : List Txt} {rest : List (String × DataW Unit)} {g : Nat} {t e : TypeId} {n : Nat}
    (hg : P.globalNamed name = some g) (hty : (P.globals[g]?).map (·.type) = some t) (ht : P.underlying t = some (.array n e)) (he : P.underlying e = some .string) (hce : P.cellsOf e = 1) (hct : P.cellsOf t = n)
    (h : laidMet P ((name, txtData ls) :: rest) W) : ∃ t fr, W.heap[g]? = some (.cells (ls.map strVal).toArray t fr) := by
  obtain ⟨ps, ⟨g', t', cs, fuel, p, q, hg', ht', hvar, hd, _, _⟩, _⟩ := h
  obtain rfl := Option.some.inj (hg.symm.trans hg')
  obtain rfl := Option.some.inj (hty.symm.trans ht')
  have hc := cells_of_txts ht he hce hct hd
  unfold World.var? at hvar
  rw [hg'] at hvar
  simp only [Option.bind_some] at hvar
  split at hvar
  · rename_i cs' t' fr heq
    have : cs' = cs := by simpa using hvar
    exact ⟨t', fr, by rw [heq, this, ← hc]⟩
  · cases hvar

def laidNames : List (String × DataW Unit) := [("unicode/utf8.acceptRanges", Rows.laid_unicode_utf8_acceptRanges), ("liquidcheck/names.keywords", Rows.laid_liquidcheck_names_keywords), ("liquidcheck/names.basicTypes", Rows.laid_liquidcheck_names_basicTypes), ("unicode/utf8.first", Rows.laid_unicode_utf8_first)]
theorem env_of_laid {W : World} (h : laidMetH Tryd.prog laidNames W) (hs : W.ShapedOpen Tryd.prog) : Env W := by
  have h' : laidMet Tryd.prog laidNames W := h
  have h4 : laidMet Tryd.prog (("liquidcheck/names.keywords", txtData kws) :: laidNames.drop 2) W := h'.tail
  have h5 : laidMet Tryd.prog (("liquidcheck/names.basicTypes", txtData bts) :: laidNames.drop 3) W := h'.tail.tail
  exact ⟨⟨block_of_laid gKw gKwType Tryd.underlying107 Tryd.underlying9 cellsStr cellsKw h4, block_of_laid gBt gBtType Tryd.underlying104 Tryd.underlying9 cellsStr cellsBt h5⟩, Tryd.laysM145.s1_3 W hs⟩
theorem laid_met (os : Os) (args : Array Value) : laidMet Tryd.prog laidNames ((World.laidAll Tryd.prog os laidNames).forCall (fun _ _ => 0) ⟨#[], args, []⟩).memory :=
  laidMet_laidAll args (by kernel_rfl) (by kernel_rfl)

/-! ### Arguments -/
theorem addr_addN (g o k : Nat) : (⟨g, o, none⟩ : Addr).add k = ⟨g, o + k, none⟩ := by unfold Addr.add; simp
theorem block_lt_of_cell {w : World} {a : Addr} {v : Value} (h : w.cell? a = some v) : a.block < w.heap.size ∧ a.spot = none := by
  unfold World.cell? at h
  constructor
  · rcases Nat.lt_or_ge a.block w.heap.size with hlt | hge
    · exact hlt
    · rw [Array.getElem?_eq_none hge] at h; cases h
  · cases hs : a.spot with
    | none => rfl
    | some x =>
      rw [hs] at h
      split at h <;> simp at h
theorem trodAll_below {H : Type} {enc : TypeId × Value → H} {W W' : World} (hb : Below W.heap.size W W') : ∀ {ts : List TypeId} {vs : List Value} {ds : List (DataW H)} {p : List MemPlace},
    (∀ t ∈ ts, Tryd.prog.readableRec t = true ∧ t < Tryd.prog.types.size) → DataW.TrodAll enc Tryd.prog W 0 (fun _ => true) true ts vs ds p → (∀ x ∈ p, x.block < W.heap.size) → DataW.TrodAll enc Tryd.prog W' 0 (fun b => decide (b < W.heap.size)) true ts vs ds p
  | [], _, _, _, _, h, _ => by
    obtain ⟨rfl, rfl, rfl⟩ := trodAll_nil h
    exact h
  | t :: ts, _, _, _, ht, h, hp => by
    obtain ⟨v, vs1, d, ds1, a, b, rfl, rfl, rfl, h1, h2⟩ := trodAll_cons h
    exact ⟨a, b, Below.trod (by kernel_rfl) (ht t (by simp)).1 (ht t (by simp)).2 h1 hb (fun x hx => hp x (by simp [hx])), trodAll_below hb (fun t' h' => ht t' (by simp [h'])) h2 (fun x hx => hp x (by simp [hx])), rfl⟩

theorem cellsSort : Tryd.prog.cellsOf 22 = 1 := by kernel_rfl
theorem cellsVar : Tryd.prog.cellsOf 62 = 2 := by kernel_rfl
theorem cellsSym : Tryd.prog.cellsOf 25 = 3 := by kernel_rfl
theorem cellsHole : Tryd.prog.cellsOf 44 = 2 := by kernel_rfl
theorem cellsEnv : Tryd.prog.cellsOf 36 = 3 := by kernel_rfl
theorem cellsType : Tryd.prog.cellsOf 58 = 9 := by kernel_rfl
theorem cellsPred : Tryd.prog.cellsOf 56 = 4 := by kernel_rfl
theorem cSV : Tryd.prog.cellsOf 32 = 1 := by kernel_rfl
theorem cSY : Tryd.prog.cellsOf 33 = 1 := by kernel_rfl
theorem cSH : Tryd.prog.cellsOf 34 = 1 := by kernel_rfl
theorem cSS : Tryd.prog.cellsOf 23 = 1 := by kernel_rfl
theorem cST : Tryd.prog.cellsOf 51 = 1 := by kernel_rfl
theorem cSN : Tryd.prog.cellsOf 52 = 1 := by kernel_rfl
theorem cSP : Tryd.prog.cellsOf 54 = 1 := by kernel_rfl
theorem cOp : Tryd.prog.cellsOf 50 = 1 := by kernel_rfl
theorem cPo : Tryd.prog.cellsOf 53 = 1 := by kernel_rfl
theorem cInt : Tryd.prog.cellsOf 3 = 1 := by kernel_rfl
theorem var_fields : ∃ f0 f1 : Field, Tryd.prog.underlying 62 = some (.struct #[f0, f1]) ∧ (f0.type = 9 ∧ f0.offset = 0) ∧ (f1.type = 22 ∧ f1.offset = 1) :=
  ⟨_, _, Tryd.underlying62, ⟨rfl, rfl⟩, ⟨rfl, rfl⟩⟩
theorem sym_fields : ∃ f0 f1 f2 : Field, Tryd.prog.underlying 25 = some (.struct #[f0, f1, f2]) ∧ (f0.type = 9 ∧ f0.offset = 0) ∧ (f1.type = 23 ∧ f1.offset = 1) ∧ (f2.type = 22 ∧ f2.offset = 2) :=
  ⟨_, _, _, Tryd.underlying25, ⟨rfl, rfl⟩, ⟨rfl, rfl⟩, ⟨rfl, rfl⟩⟩
theorem hole_fields : ∃ f0 f1 : Field, Tryd.prog.underlying 44 = some (.struct #[f0, f1]) ∧ (f0.type = 9 ∧ f0.offset = 0) ∧ (f1.type = 32 ∧ f1.offset = 1) :=
  ⟨_, _, Tryd.underlying44, ⟨rfl, rfl⟩, ⟨rfl, rfl⟩⟩
theorem env_fields : ∃ f0 f1 f2 : Field, Tryd.prog.underlying 36 = some (.struct #[f0, f1, f2]) ∧ (f0.type = 32 ∧ f0.offset = 0) ∧ (f1.type = 33 ∧ f1.offset = 1) ∧ (f2.type = 34 ∧ f2.offset = 2) :=
  ⟨_, _, _, Tryd.underlying36, ⟨rfl, rfl⟩, ⟨rfl, rfl⟩, ⟨rfl, rfl⟩⟩
theorem type_fields : ∃ f0 f1 f2 f3 f4 f5 : Field, Tryd.prog.underlying 58 = some (.struct #[f0, f1, f2, f3, f4, f5]) ∧ (f0.type = 50 ∧ f0.offset = 0) ∧ (f1.type = 9 ∧ f1.offset = 1) ∧ (f2.type = 51 ∧ f2.offset = 2) ∧ (f3.type = 52 ∧ f3.offset = 3) ∧ (f4.type = 56 ∧ f4.offset = 4) ∧ (f5.type = 54 ∧ f5.offset = 8) :=
  ⟨_, _, _, _, _, _, Tryd.underlying58, ⟨rfl, rfl⟩, ⟨rfl, rfl⟩, ⟨rfl, rfl⟩, ⟨rfl, rfl⟩, ⟨rfl, rfl⟩, ⟨rfl, rfl⟩⟩
theorem pred_fields : ∃ f0 f1 f2 f3 : Field, Tryd.prog.underlying 56 = some (.struct #[f0, f1, f2, f3]) ∧ (f0.type = 53 ∧ f0.offset = 0) ∧ (f1.type = 9 ∧ f1.offset = 1) ∧ (f2.type = 3 ∧ f2.offset = 2) ∧ (f3.type = 54 ∧ f3.offset = 3) :=
  ⟨_, _, _, _, Tryd.underlying56, ⟨rfl, rfl⟩, ⟨rfl, rfl⟩, ⟨rfl, rfl⟩, ⟨rfl, rfl⟩⟩

set_option maxRecDepth 100000 in
theorem open_vr {H : Type} {enc : TypeId × Value → H} {W : World} {sp : Nat → Bool} {held : Bool} {fuel base : Nat} {cs : List Value} {x : DataW H × List MemPlace} (h : DataW.trod enc Tryd.prog W base sp held fuel 62 cs = some x) : ∃ v : Vr, cs = encVr v := by
  obtain ⟨f0, f1, hu, ⟨t0, o0⟩, ⟨t1, o1⟩⟩ := var_fields
  obtain ⟨xs, k, -, -, hlen, hxl, hf⟩ := DataW.trod_struct hu h
  rw [cellsVar] at hlen
  match xs, hxl, cs, hlen with
  | [y0, y1], _, [v0, v1], _ =>
    have g0 := hf 0 f0 rfl
    have g1 := hf 1 f1 rfl
    rw [t0, o0, cellsStr] at g0
    rw [t1, o1, cellsSort] at g1
    obtain ⟨a, e0, -, -⟩ := DataW.trod_string Tryd.underlying9 (g0.trans rfl)
    obtain ⟨b, e1, -, -⟩ := DataW.trod_string Tryd.underlying22 (g1.trans rfl)
    have e0' : v0 = .string a := (List.cons.inj e0).1
    have e1' : v1 = .string b := (List.cons.inj e1).1
    refine ⟨⟨a.data.toList, b.data.toList⟩, ?_⟩
    unfold encVr strVal
    rw [e0', e1', eta_txt, eta_txt]
theorem addr_zero {w : World} {a : Addr} {v : Value} (h : w.cell? ((a.add 0).add 0) = some v) : ∃ g o, a = ⟨g, o, none⟩ ∧ g < w.heap.size := by
  have e : (a.add 0).add 0 = a := by simp [Addr.add]
  rw [e] at h
  have ha := block_lt_of_cell h
  obtain ⟨g, o, s⟩ := a
  obtain rfl : s = none := ha.2
  exact ⟨g, o, rfl, ha.1⟩
instance : Inhabited Vr := ⟨vr0⟩
set_option maxRecDepth 100000 in
theorem open_vrs {H : Type} {enc : TypeId × Value → H} {W : World} {sp : Nat → Bool} {held : Bool} {fuel base : Nat} {v : Value} {x : DataW H × List MemPlace} (h : DataW.trod enc Tryd.prog W base sp held fuel 32 [v] = some x) : ∃ A n c vs, v = .slice A n c ∧ Vs W A n c vs := by
  rcases Go.Deep.open_slice Tryd.underlying32 h with ⟨hcs, _⟩ | ⟨a, len, cap, m, n', D, Pl, hcs, _, hl, hm, hmm, _, hx⟩
  · obtain rfl := (List.cons.inj hcs).1
    exact ⟨none, 0, 0, [], rfl, Vs.nil W⟩
  · obtain rfl := (List.cons.inj hcs).1
    have hnm : len ≤ m := by rw [hmm]; split <;> omega
    rw [cellsVar] at hx
    have each : ∀ i, i < len → ∃ t : Vr, ∀ j, j < 2 → W.cell? ((a.add (i * 2)).add j) = some ((encVr t).getD j undef) := by
      intro i hi
      obtain ⟨cs', h1, h2⟩ := hx i (by omega)
      obtain ⟨_, hlen, hcell⟩ := World.cells?_some h1
      obtain ⟨t, rfl⟩ := open_vr h2
      exact ⟨t, fun j hj => by
        rw [hcell j hj]
        have : j = 0 ∨ j = 1 := by omega
        rcases this with rfl | rfl <;> rfl⟩
    obtain ⟨q, hq⟩ := Go.Deep.choose_lt each
    refine ⟨some a, len, cap, (List.range len).map q, rfl, ⟨by simp, hl, by unfold maxLen at hm; omega, fun hn => ?_⟩⟩
    have h0 := hq 0 hn 0 (by omega)
    rw [Nat.zero_mul] at h0
    obtain ⟨g, o, rfl, hg⟩ := addr_zero h0
    refine ⟨g, o, rfl, hg, fun k hk => ?_⟩
    have a0 := hq k hk 0 (by omega)
    have a1 := hq k hk 1 (by omega)
    rw [addr_addN, addr_addN] at a0 a1
    have e : ((List.range len).map q).getD k vr0 = q k := by simp [List.getD, hk]
    rw [e]
    exact ⟨by simpa [encVr] using a0, by simpa [encVr] using a1⟩

theorem open_srts {H : Type} {enc : TypeId × Value → H} {W : World} {sp : Nat → Bool} {held : Bool} {fuel base : Nat} {v : Value} {x : DataW H × List MemPlace} (h : DataW.trod enc Tryd.prog W base sp held fuel 23 [v] = some x) : ∃ A n c ls, v = .slice A n c ∧ Ss W A n c ls := by
  rcases open_strings Tryd.underlying23 Tryd.underlying22 cellsSort h with ⟨hcs, _⟩ | ⟨a, len, cap, zs, hcs, _, hl, hm, hz, _, hcell, -⟩
  · obtain rfl := (List.cons.inj hcs).1
    exact ⟨none, 0, 0, [], rfl, Ss.nil W⟩
  · obtain rfl := (List.cons.inj hcs).1
    have hzl : len ≤ zs.length := by rw [hz]; split <;> omega
    refine ⟨some a, len, cap, (zs.take len).map (·.data.toList), rfl, ⟨by rw [List.length_map, List.length_take]; omega, hl, by simpa [maxLen] using hm, fun hn => ?_⟩⟩
    have h0 := hcell 0 (by omega)
    obtain ⟨g, o, rfl, hg⟩ := addr_zero (a := a) (by rw [show (a.add 0).add 0 = a.add 0 from by simp [Addr.add]]; exact h0)
    refine ⟨g, o, rfl, hg, fun k hk => ?_⟩
    have := hcell k (by omega)
    rw [addr_addN] at this
    rw [this]
    have hk1 : k < zs.length := by omega
    simp [List.getD, hk, hk1]
set_option maxRecDepth 100000 in
theorem open_sy {H : Type} {enc : TypeId × Value → H} {W : World} {sp : Nat → Bool} {held : Bool} {fuel base : Nat} {cs : List Value} {x : DataW H × List MemPlace} (h : DataW.trod enc Tryd.prog W base sp held fuel 25 cs = some x) : ∃ (y : Sy) (B : Option Addr) (m d : Nat), cs = [strVal y.name, .slice B m d, strVal y.res] ∧ Ss W B m d y.args := by
  obtain ⟨f0, f1, f2, hu, ⟨t0, o0⟩, ⟨t1, o1⟩, ⟨t2, o2⟩⟩ := sym_fields
  obtain ⟨xs, k, -, -, hlen, hxl, hf⟩ := DataW.trod_struct hu h
  rw [cellsSym] at hlen
  match xs, hxl, cs, hlen with
  | [y0, y1, y2], _, [v0, v1, v2], _ =>
    have g0 := hf 0 f0 rfl
    have g1 := hf 1 f1 rfl
    have g2 := hf 2 f2 rfl
    rw [t0, o0, cellsStr] at g0
    rw [t1, o1, cSS] at g1
    rw [t2, o2, cellsSort] at g2
    obtain ⟨a, e0, -, -⟩ := DataW.trod_string Tryd.underlying9 (g0.trans rfl)
    obtain ⟨A, n, c, ls, e1, hs⟩ := open_srts (v := v1) (g1.trans rfl)
    obtain ⟨b, e2, -, -⟩ := DataW.trod_string Tryd.underlying22 (g2.trans rfl)
    have e0' : v0 = .string a := (List.cons.inj e0).1
    have e2' : v2 = .string b := (List.cons.inj e2).1
    refine ⟨⟨a.data.toList, ls, b.data.toList⟩, A, n, c, ?_, hs⟩
    unfold strVal
    rw [e0', e1, e2', eta_txt, eta_txt]
set_option maxRecDepth 100000 in
theorem open_ho {H : Type} {enc : TypeId × Value → H} {W : World} {sp : Nat → Bool} {held : Bool} {fuel base : Nat} {cs : List Value} {x : DataW H × List MemPlace} (h : DataW.trod enc Tryd.prog W base sp held fuel 44 cs = some x) : ∃ (y : Ho) (B : Option Addr) (m d : Nat), cs = [strVal y.name, .slice B m d] ∧ Vs W B m d y.ps := by
  obtain ⟨f0, f1, hu, ⟨t0, o0⟩, ⟨t1, o1⟩⟩ := hole_fields
  obtain ⟨xs, k, -, -, hlen, hxl, hf⟩ := DataW.trod_struct hu h
  rw [cellsHole] at hlen
  match xs, hxl, cs, hlen with
  | [y0, y1], _, [v0, v1], _ =>
    have g0 := hf 0 f0 rfl
    have g1 := hf 1 f1 rfl
    rw [t0, o0, cellsStr] at g0
    rw [t1, o1, cSV] at g1
    obtain ⟨a, e0, -, -⟩ := DataW.trod_string Tryd.underlying9 (g0.trans rfl)
    obtain ⟨A, n, c, ls, e1, hs⟩ := open_vrs (v := v1) (g1.trans rfl)
    have e0' : v0 = .string a := (List.cons.inj e0).1

    refine ⟨⟨a.data.toList, ls⟩, A, n, c, ?_, hs⟩
    unfold strVal
    rw [e0', e1, eta_txt]
instance : Inhabited Sy := ⟨sy0⟩
set_option maxRecDepth 100000 in
theorem open_sys {H : Type} {enc : TypeId × Value → H} {W : World} {sp : Nat → Bool} {held : Bool} {fuel base : Nat} {v : Value} {x : DataW H × List MemPlace} (h : DataW.trod enc Tryd.prog W base sp held fuel 33 [v] = some x) : ∃ A n c ys, v = .slice A n c ∧ Ys W A n c ys := by
  rcases Go.Deep.open_slice Tryd.underlying33 h with ⟨hcs, _⟩ | ⟨a, len, cap, m, n', D, Pl, hcs, _, hl, hm, hmm, _, hx⟩
  · obtain rfl := (List.cons.inj hcs).1
    exact ⟨none, 0, 0, [], rfl, Ys.nil W⟩
  · obtain rfl := (List.cons.inj hcs).1
    have hnm : len ≤ m := by rw [hmm]; split <;> omega
    rw [cellsSym] at hx
    have each : ∀ i, i < len → ∃ z : Sy × Option Addr × Nat × Nat, (Ss W z.2.1 z.2.2.1 z.2.2.2 z.1.args) ∧ ∀ j, j < 3 → W.cell? ((a.add (i * 3)).add j) = some (([strVal z.1.name, .slice z.2.1 z.2.2.1 z.2.2.2, strVal z.1.res]).getD j undef) := by
      intro i hi
      obtain ⟨cs', h1, h2⟩ := hx i (by omega)
      obtain ⟨_, hlen, hcell⟩ := World.cells?_some h1
      obtain ⟨y, B, m, d, rfl, hs⟩ := open_sy h2
      exact ⟨(y, B, m, d), hs, fun j hj => by
        rw [hcell j hj]
        have : j = 0 ∨ j = 1 ∨ j = 2 := by omega
        rcases this with rfl | rfl | rfl <;> rfl⟩
    obtain ⟨q, hq⟩ := Go.Deep.choose_lt each
    refine ⟨some a, len, cap, (List.range len).map (fun i => (q i).1), rfl, ⟨by simp, hl, by unfold maxLen at hm; omega, fun hn => ?_⟩⟩
    have h0 := (hq 0 hn).2 0 (by omega)
    rw [Nat.zero_mul] at h0
    obtain ⟨g, o, rfl, hg⟩ := addr_zero h0
    refine ⟨g, o, rfl, hg, fun k hk => ?_⟩
    have a0 := (hq k hk).2 0 (by omega)
    have a1 := (hq k hk).2 1 (by omega)
    have a2 := (hq k hk).2 2 (by omega)
    rw [addr_addN, addr_addN] at a0 a1 a2
    have e : ((List.range len).map (fun i => (q i).1)).getD k sy0 = (q k).1 := by simp [List.getD, hk]
    rw [e]
    exact ⟨(q k).2.1, (q k).2.2.1, (q k).2.2.2, by simpa using a0, by simpa using a1, by simpa using a2, (hq k hk).1⟩
instance : Inhabited Ho := ⟨ho0⟩
set_option maxRecDepth 100000 in
theorem open_hos {H : Type} {enc : TypeId × Value → H} {W : World} {sp : Nat → Bool} {held : Bool} {fuel base : Nat} {v : Value} {x : DataW H × List MemPlace} (h : DataW.trod enc Tryd.prog W base sp held fuel 34 [v] = some x) : ∃ A n c ys, v = .slice A n c ∧ Hs W A n c ys := by
  rcases Go.Deep.open_slice Tryd.underlying34 h with ⟨hcs, _⟩ | ⟨a, len, cap, m, n', D, Pl, hcs, _, hl, hm, hmm, _, hx⟩
  · obtain rfl := (List.cons.inj hcs).1
    exact ⟨none, 0, 0, [], rfl, Hs.nil W⟩
  · obtain rfl := (List.cons.inj hcs).1
    have hnm : len ≤ m := by rw [hmm]; split <;> omega
    rw [cellsHole] at hx
    have each : ∀ i, i < len → ∃ z : Ho × Option Addr × Nat × Nat, (Vs W z.2.1 z.2.2.1 z.2.2.2 z.1.ps) ∧ ∀ j, j < 2 → W.cell? ((a.add (i * 2)).add j) = some (([strVal z.1.name, .slice z.2.1 z.2.2.1 z.2.2.2]).getD j undef) := by
      intro i hi
      obtain ⟨cs', h1, h2⟩ := hx i (by omega)
      obtain ⟨_, hlen, hcell⟩ := World.cells?_some h1
      obtain ⟨y, B, m, d, rfl, hs⟩ := open_ho h2
      exact ⟨(y, B, m, d), hs, fun j hj => by
        rw [hcell j hj]
        have : j = 0 ∨ j = 1 := by omega
        rcases this with rfl | rfl <;> rfl⟩
    obtain ⟨q, hq⟩ := Go.Deep.choose_lt each
    refine ⟨some a, len, cap, (List.range len).map (fun i => (q i).1), rfl, ⟨by simp, hl, by unfold maxLen at hm; omega, fun hn => ?_⟩⟩
    have h0 := (hq 0 hn).2 0 (by omega)
    rw [Nat.zero_mul] at h0
    obtain ⟨g, o, rfl, hg⟩ := addr_zero h0
    refine ⟨g, o, rfl, hg, fun k hk => ?_⟩
    have a0 := (hq k hk).2 0 (by omega)
    have a1 := (hq k hk).2 1 (by omega)
    rw [addr_addN, addr_addN] at a0 a1
    have e : ((List.range len).map (fun i => (q i).1)).getD k ho0 = (q k).1 := by simp [List.getD, hk]
    rw [e]
    exact ⟨(q k).2.1, (q k).2.2.1, (q k).2.2.2, by simpa using a0, by simpa using a1, (hq k hk).1⟩

set_option maxRecDepth 100000 in
/-- An environment that comes in. -/
theorem open_env {H : Type} {enc : TypeId × Value → H} {W : World} {base : Nat} {v : Value} {d : DataW H} {p : List MemPlace} (hv : Value.okWide Tryd.prog W .any base 36 v) (h : DataW.Trod enc Tryd.prog W 0 (fun _ => true) true 36 v d p) :
    ∃ A n c B m d' C p' q e, v = .agg #[.slice A n c, .slice B m d', .slice C p' q] ∧ Vs W A n c (En.vars e) ∧ Ys W B m d' e.syms ∧ Hs W C p' q e.holes := by
  obtain ⟨u0, u1, u2, y0, y1, y2, nf, rfl, -, -, t0, t1, t2⟩ := Go.Joins.open_agg3 Tryd.underlying36 (by kernel_rfl) cellsEnv hv h
  obtain ⟨A, n, c, vs, rfl, h0⟩ := open_vrs t0
  obtain ⟨B, m, d', ys, rfl, h1⟩ := open_sys t1
  obtain ⟨C, p', q, hs, rfl, h2⟩ := open_hos t2
  exact ⟨A, n, c, B, m, d', C, p', q, ⟨vs, ys, hs⟩, rfl, h0, h1, h2⟩
set_option maxRecDepth 100000 in
theorem open_symv {H : Type} {enc : TypeId × Value → H} {W : World} {base : Nat} {v : Value} {d : DataW H} {p : List MemPlace} (hv : Value.okWide Tryd.prog W .any base 25 v) (h : DataW.Trod enc Tryd.prog W 0 (fun _ => true) true 25 v d p) :
    ∃ x A n c y ls, v = .agg #[.string x, .slice A n c, .string y] ∧ Ss W A n c ls := by
  obtain ⟨u0, u1, u2, y0, y1, y2, nf, rfl, -, -, t0, t1, t2⟩ := Go.Joins.open_agg3 Tryd.underlying25 (by kernel_rfl) cellsSym hv h
  obtain ⟨a, e0, -, -⟩ := DataW.trod_string Tryd.underlying9 t0
  obtain ⟨A, n, c, ls, rfl, h1⟩ := open_srts t1
  obtain ⟨b, e2, -, -⟩ := DataW.trod_string Tryd.underlying22 t2
  obtain rfl := (List.cons.inj e0).1
  obtain rfl := (List.cons.inj e2).1
  exact ⟨a, A, n, c, b, ls, rfl, h1⟩
set_option maxRecDepth 100000 in
theorem open_varv {H : Type} {enc : TypeId × Value → H} {W : World} {base : Nat} {v : Value} {d : DataW H} {p : List MemPlace} (hv : Value.okWide Tryd.prog W .any base 62 v) (h : DataW.Trod enc Tryd.prog W 0 (fun _ => true) true 62 v d p) :
    ∃ x y, v = .agg #[.string x, .string y] := by
  obtain ⟨u0, u1, y0, y1, nf, rfl, -, -, t0, t1⟩ := Go.Joins.open_agg2 Tryd.underlying62 (by kernel_rfl) cellsVar hv h
  obtain ⟨a, e0, -, -⟩ := DataW.trod_string Tryd.underlying9 t0
  obtain ⟨b, e1, -, -⟩ := DataW.trod_string Tryd.underlying22 t1
  obtain rfl := (List.cons.inj e0).1
  obtain rfl := (List.cons.inj e1).1
  exact ⟨a, b, rfl⟩
theorem array9 {α : Type} {a : Array α} (h : a.size = 9) : ∃ c0 c1 c2 c3 c4 c5 c6 c7 c8, a = #[c0, c1, c2, c3, c4, c5, c6, c7, c8] := by
  obtain ⟨l⟩ := a
  match l, h with
  | [c0, c1, c2, c3, c4, c5, c6, c7, c8], _ => exact ⟨c0, c1, c2, c3, c4, c5, c6, c7, c8, rfl⟩
theorem open_any {H : Type} {enc : TypeId × Value → H} {W : World} {sp : Nat → Bool} {held : Bool} {fuel base : Nat} {t e : TypeId} (ht : Tryd.prog.underlying t = some (.slice e)) {v : Value} {x : DataW H × List MemPlace} (h : DataW.trod enc Tryd.prog W base sp held fuel t [v] = some x) : ∃ A n c, v = .slice A n c ∧ n ≤ 9223372036854775807 := by
  rcases Go.Deep.open_slice ht h with ⟨hcs, _⟩ | ⟨a, len, cap, m, n', D, Pl, hcs, _, hl, hm, _⟩
  · exact ⟨none, 0, 0, (List.cons.inj hcs).1, by omega⟩
  · exact ⟨some a, len, cap, (List.cons.inj hcs).1, by unfold maxLen at hm; omega⟩
set_option maxRecDepth 100000 in
theorem open_type {H : Type} {enc : TypeId × Value → H} {W : World} {base : Nat} {v : Value} {d : DataW H} {p : List MemPlace} (hv : Value.okWide Tryd.prog W .any base 58 v) (h : DataW.Trod enc Tryd.prog W 0 (fun _ => true) true 58 v d p) :
    ∃ op nm A n c A3 n3 c3 o4 s5 i6 A7 n7 c7 A8 n8 c8, v = .agg #[.int .i64 op, .string nm, .slice A n c, .slice A3 n3 c3, .int .i64 o4, .string s5, .int .i64 i6, .slice A7 n7 c7, .slice A8 n8 c8] := by
  obtain ⟨f0, f1, f2, f3, f4, f5, hu, ⟨t0, o0⟩, ⟨t1, o1⟩, ⟨t2, o2⟩, ⟨t3, o3⟩, ⟨t4, o4⟩, ⟨t5, o5⟩⟩ := type_fields
  obtain ⟨p0, p1, p2, p3, hup, ⟨tp0, op0⟩, ⟨tp1, op1⟩, ⟨tp2, op2⟩, ⟨tp3, op3⟩⟩ := pred_fields
  obtain ⟨cs, rfl, hsz⟩ := okWide_struct hu hv
  obtain ⟨c0, c1, c2, c3, c4, c5, c6, c7, c8, rfl⟩ := array9 (hsz.trans cellsType)
  obtain ⟨fuel, h⟩ := h
  obtain ⟨xs, k, -, -, hlen, hxl, hf⟩ := DataW.trod_struct hu h
  match xs, hxl with
  | [y0, y1, y2, y3, y4, y5], _ =>
    have g0 := hf 0 f0 rfl
    have g1 := hf 1 f1 rfl
    have g2 := hf 2 f2 rfl
    have g3 := hf 3 f3 rfl
    have g4 := hf 4 f4 rfl
    have g5 := hf 5 f5 rfl
    rw [t0, o0, cOp] at g0
    rw [t1, o1, cellsStr] at g1
    rw [t2, o2, cST] at g2
    rw [t3, o3, cSN] at g3
    rw [t4, o4, cellsPred] at g4
    rw [t5, o5, cSP] at g5
    obtain ⟨a, e0, -, -⟩ := DataW.trod_int Tryd.underlying50 (g0.trans rfl)
    obtain ⟨b, e1, -, -⟩ := DataW.trod_string Tryd.underlying9 (g1.trans rfl)
    obtain ⟨A, n, c, e2, -⟩ := open_any Tryd.underlying51 (v := c2) (g2.trans rfl)
    obtain ⟨A3, n3, c3', e3, -⟩ := open_any Tryd.underlying52 (v := c3) (g3.trans rfl)
    obtain ⟨A8, n8, c8', e8, -⟩ := open_any Tryd.underlying54 (v := c8) (g5.trans rfl)
    obtain ⟨xs, k, -, -, hlen, hxl, hf⟩ := DataW.trod_struct hup (g4.trans rfl)
    match xs, hxl with
    | [z0, z1, z2, z3], _ =>
      have g0 := hf 0 p0 rfl
      have g1 := hf 1 p1 rfl
      have g2 := hf 2 p2 rfl
      have g3 := hf 3 p3 rfl
      rw [tp0, op0, cPo] at g0
      rw [tp1, op1, cellsStr] at g1
      rw [tp2, op2, cInt] at g2
      rw [tp3, op3, cSP] at g3
      obtain ⟨a4, e4, -, -⟩ := DataW.trod_int Tryd.underlying53 (g0.trans rfl)
      obtain ⟨b5, e5, -, -⟩ := DataW.trod_string Tryd.underlying9 (g1.trans rfl)
      obtain ⟨a6, e6, -, -⟩ := DataW.trod_int Tryd.underlying3 (g2.trans rfl)
      obtain ⟨A7, n7, c7', e7, -⟩ := open_any Tryd.underlying54 (v := c7) (g3.trans rfl)
      have e0' : c0 = .int .i64 a := (List.cons.inj e0).1
      have e1' : c1 = .string b := (List.cons.inj e1).1
      have e4' : c4 = .int .i64 a4 := (List.cons.inj e4).1
      have e5' : c5 = .string b5 := (List.cons.inj e5).1
      have e6' : c6 = .int .i64 a6 := (List.cons.inj e6).1
      exact ⟨a, b, A, n, c, A3, n3, c3', a4, b5, a6, A7, n7, c7', A8, n8, c8', by rw [e0', e1', e2, e3, e4', e5', e6', e7, e8]⟩
theorem read_sort : Tryd.prog.readableRec 22 = true ∧ 22 < Tryd.prog.types.size := ⟨by kernel_rfl, by decide +kernel⟩
theorem read_string : Tryd.prog.readableRec 9 = true ∧ 9 < Tryd.prog.types.size := ⟨by kernel_rfl, by decide +kernel⟩
theorem read_sym : Tryd.prog.readableRec 25 = true ∧ 25 < Tryd.prog.types.size := ⟨by kernel_rfl, by decide +kernel⟩
theorem read_var : Tryd.prog.readableRec 62 = true ∧ 62 < Tryd.prog.types.size := ⟨by kernel_rfl, by decide +kernel⟩
theorem read_env : Tryd.prog.readableRec 36 = true ∧ 36 < Tryd.prog.types.size := ⟨by kernel_rfl, by decide +kernel⟩
theorem read_type : Tryd.prog.readableRec 58 = true ∧ 58 < Tryd.prog.types.size := ⟨by kernel_rfl, by decide +kernel⟩
end Go.Proofs.YtegognbnphpigaaDoor
