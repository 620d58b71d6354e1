/-
  Arguments that are lists of tokens.
-/
import Derived.Test.YtblakndpionmgaaDoorLxLaid
import Derived.Deep.Slices
import Derived.ChangeSame
namespace Go.Proofs.YtblakndpionmgaaDoor
open Go.ChangeShapes Go.WideShapes Go.ChangeAt Go.RowKit

instance : Inhabited Tk := ⟨tk0⟩
theorem tk_fields : ∃ f0 f1 f2 f3 : Field, Tryd.prog.underlying 36 = some (.struct #[f0, f1, f2, f3]) ∧ (f0.type = 34 ∧ f0.offset = 0) ∧ (f1.type = 9 ∧ f1.offset = 1) ∧ (f2.type = 3 ∧ f2.offset = 2) ∧ (f3.type = 3 ∧ f3.offset = 3) :=
  ⟨_, _, _, _, Tryd.underlying36, ⟨rfl, rfl⟩, ⟨rfl, rfl⟩, ⟨rfl, rfl⟩, ⟨rfl, rfl⟩⟩
theorem cellsTk : Tryd.prog.cellsOf 36 = 4 := by kernel_rfl
theorem cellsInt : Tryd.prog.cellsOf 3 = 1 := by kernel_rfl
theorem cellsKind : Tryd.prog.cellsOf 34 = 1 := by kernel_rfl
theorem i64_wf {n : Int} (h : (Lit.int .i64 n).wf = true) : -9223372036854775808 ≤ n ∧ n ≤ 9223372036854775807 := by
  have e1 : IntKind.min .i64 = -9223372036854775808 := by decide
  have e2 : IntKind.max .i64 = 9223372036854775807 := by decide
  have h2 : (decide (IntKind.min .i64 ≤ n) && decide (n ≤ IntKind.max .i64)) = true := h
  rw [e1, e2] at h2
  simpa using h2
set_option maxRecDepth 100000 in
/-- One token's cells. -/
theorem open_tk {H : Type} {enc : TypeId × Value → H} {W : World} {sp : Nat → Bool} {held : Bool} {fuel : Nat} {cs : List Value} {x : DataW H × List MemPlace} {base : Nat}
    (h : DataW.trod enc Tryd.prog W base sp held fuel 36 cs = some x) : ∃ t : Tk, cs = encTk t ∧ -9223372036854775808 ≤ t.line ∧ t.line ≤ 9223372036854775807 := by
  obtain ⟨f0, f1, f2, f3, hu, ⟨t0, o0⟩, ⟨t1, o1⟩, ⟨t2, o2⟩, ⟨t3, o3⟩⟩ := tk_fields
  obtain ⟨xs, k, -, -, hlen, hxl, hf⟩ := DataW.trod_struct hu h
  rw [cellsTk] at hlen
  match xs, hxl, cs, hlen with
  | [y0, y1, y2, y3], _, [v0, v1, v2, v3], _ =>
    have g0 := hf 0 f0 rfl
    have g1 := hf 1 f1 rfl
    have g2 := hf 2 f2 rfl
    have g3 := hf 3 f3 rfl
    rw [t0, o0, cellsKind] at g0
    rw [t1, o1, cellsStr] at g1
    rw [t2, o2, cellsInt] at g2
    rw [t3, o3, cellsInt] at g3
    obtain ⟨a, e0, -, -⟩ := DataW.trod_int Tryd.underlying34 (g0.trans rfl)
    obtain ⟨s, e1, -, -⟩ := DataW.trod_string Tryd.underlying9 (g1.trans rfl)
    obtain ⟨n, e2, -, -⟩ := DataW.trod_int Tryd.underlying3 (g2.trans rfl)
    obtain ⟨l, e3, -, hw⟩ := DataW.trod_int Tryd.underlying3 (g3.trans rfl)
    have e0' : v0 = .int .i64 a := (List.cons.inj e0).1
    have e1' : v1 = .string s := (List.cons.inj e1).1
    have e2' : v2 = .int .i64 n := (List.cons.inj e2).1
    have e3' : v3 = .int .i64 l := (List.cons.inj e3).1
    refine ⟨⟨a, s.data.toList, n, l⟩, ?_, i64_wf hw⟩
    unfold encTk
    rw [e0', e1', e2', e3', eta_txt]
set_option maxRecDepth 100000 in
/-- A list of tokens that comes in. -/
theorem open_toks {H : Type} {enc : TypeId × Value → H} {W : World} {base : Nat} {v : Value} {d : DataW H} {p : List MemPlace} (hv : Value.okWide Tryd.prog W .any base 26 v) (h : DataW.Trod enc Tryd.prog W 0 (fun _ => true) true 26 v d p) :
    ∃ A n c ts, v = .slice A n c ∧ Ts W A n c ts ∧ ∀ t ∈ ts, -9223372036854775808 ≤ t.line ∧ t.line ≤ 9223372036854775807 := by
  obtain ⟨A, n, c, rfl⟩ := okWide_slice Tryd.underlying26 hv
  obtain ⟨fuel, h⟩ := h
  rcases Go.Deep.open_slice Tryd.underlying26 h with ⟨hcs, _⟩ | ⟨a, len, cap, m, n', D, Pl, hcs, _, hl, hm, hmm, _, hx⟩
  · have e : Value.slice A n c = Value.slice none 0 0 := (List.cons.inj hcs).1
    cases e
    exact ⟨none, 0, 0, [], rfl, Ts.nil W, fun t ht => by cases ht⟩
  · have e : Value.slice A n c = Value.slice (some a) len cap := (List.cons.inj hcs).1
    cases e
    have hnm : n ≤ m := by rw [hmm]; simp; exact hl
    rw [cellsTk] at hx
    have each : ∀ i, i < n → ∃ t : Tk, (-9223372036854775808 ≤ t.line ∧ t.line ≤ 9223372036854775807) ∧ ∀ j, j < 4 → W.cell? ((a.add (i * 4)).add j) = some ((encTk t).getD j undef) := by
      intro i hi
      obtain ⟨cs', h1, h2⟩ := hx i (by omega)
      obtain ⟨_, hlen, hcell⟩ := World.cells?_some h1
      obtain ⟨t, rfl, hb⟩ := open_tk h2
      exact ⟨t, hb, fun j hj => by
        rw [hcell j hj]
        have : j = 0 ∨ j = 1 ∨ j = 2 ∨ j = 3 := by omega
        rcases this with rfl | rfl | rfl | rfl <;> rfl⟩
    obtain ⟨q, hq⟩ := Go.Deep.choose_lt each
    refine ⟨some a, n, c, (List.range n).map q, rfl, ⟨by simp, hl, by unfold maxLen at hm; omega, fun hn => ?_⟩, fun t ht => ?_⟩
    · have h0 := (hq 0 hn).2 0 (by omega)
      have ha := block_lt_of_cell h0
      obtain ⟨g, o, sp⟩ := a
      simp only [Addr.add] at ha
      have hsp : sp = none := by
        have := ha.2
        revert this
        repeat' split
        all_goals simp_all
      subst hsp
      refine ⟨g, o, rfl, by have := ha.1; revert this; repeat' split; all_goals simp, fun k hk j hj => ?_⟩
      have := (hq k hk).2 j hj
      rw [addr_addN, addr_addN, Nat.add_assoc] at this
      rw [this]
      simp [List.getD, hk]
    · obtain ⟨i, hi, rfl⟩ := List.mem_map.1 ht
      exact (hq i (List.mem_range.1 hi)).1
theorem read_toks : Tryd.prog.readableRec 26 = true ∧ 26 < Tryd.prog.types.size := ⟨by kernel_rfl, by decide +kernel⟩
end Go.Proofs.YtblakndpionmgaaDoor
