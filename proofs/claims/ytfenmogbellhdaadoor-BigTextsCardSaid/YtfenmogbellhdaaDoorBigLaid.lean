/-
  What the rows' listed variables give the walks (the table of powers of ten), and a world for the witness, in which the variables hold what the program's text lays.
-/
import Derived.Test.YtfenmogbellhdaaDoorRows
import Derived.Test.YtfenmogbellhdaaDoorBigY
import Derived.ProofKit
import Derived.OpenShut
import Derived.LaidMore
import Derived.Deep.DeepHandedRow
import Derived.Lib.LaidTab
import Derived.Carry
import Derived.Lib.SmallJoins
import Derived.Stop.LaidErr
namespace Go.Proofs.YtfenmogbellhdaaDoor
open Go.ChangeShapes Go.WideShapes Go.ChangeAt Go.RowKit

theorem own : ownKnob Tryd.prog.godebug = none := by kernel_rfl
theorem gTab : Tryd.prog.globalNamed "internal/strconv.uint64pow10" = some 3 := by kernel_rfl
theorem gTabType : (Tryd.prog.globals[3]?).map (·.type) = some 158 := by kernel_rfl
theorem cells47 : Tryd.prog.cellsOf 158 = 20 := by kernel_rfl
theorem cells41 : Tryd.prog.cellsOf 140 = 1 := by kernel_rfl

def laidList : List (String × DataW Unit) := [("math/bits.deBruijn32tab", Rows.laid_math_bits_deBruijn32tab), ("math/bits.deBruijn64tab", Rows.laid_math_bits_deBruijn64tab), ("internal/strconv.uint64pow10", Rows.laid_internal_strconv_uint64pow10)]

theorem tab_of_laid {W : World} (h : laidMetH Tryd.prog laidList W) : Tab W := by
  have h' : laidMet Tryd.prog laidList W := h
  have h2 : laidMet Tryd.prog [("internal/strconv.uint64pow10", Lib.tabData .u64 Lib.pow10Tab)] W := h'.tail.tail
  exact Lib.tabIs_of_head (rest := []) gTab gTabType Tryd.underlying158 Tryd.underlying140 cells41 cells47 h2

theorem laid_met (os : Os) (args : Array Value) : laidMet Tryd.prog laidList ((World.doorLaid Tryd.prog 24 os).forCall (fun _ _ => 0) ⟨#[], args, []⟩).memory :=
  laidMet_of_run' 8 (by kernel_rfl) (by kernel_rfl)


/-! ### Arguments -/
theorem block_lt_of_cell {w : World} {a : Addr} {v : Value} (h : w.cell? a = some v) : a.block < w.heap.size ∧ a.spot = none := by
  unfold World.cell? at h
  constructor
  · rcases Nat.lt_or_ge a.block w.heap.size with hlt | hge
    · exact hlt
    · rw [Array.getElem?_eq_none hge] at h; cases h
  · cases hs : a.spot with
    | none => rfl
    | some x =>
      rw [hs] at h
      split at h <;> simp at h
theorem cells_big : Tryd.prog.cellsOf 35 = 2 := by kernel_rfl
theorem cells_int : Tryd.prog.cellsOf 3 = 1 := by kernel_rfl
set_option maxRecDepth 100000 in
/-- A number that comes in. -/
theorem open_big {H : Type} {enc : TypeId × Value → H} {W : World} {base : Nat} {v : Value} {d : DataW H} {p : List MemPlace} (hv : Value.okWide Tryd.prog W .any base 35 v) (h : DataW.Trod enc Tryd.prog W 0 (fun _ => true) true 35 v d p) :
    ∃ na A n c xs, v = .agg #[.bool na, .slice A n c] ∧ Sl W A n c xs := by
  obtain ⟨u0, u1, y0, y1, nf, rfl, rfl, rfl, t0, t1⟩ := Go.Joins.open_agg2 Tryd.underlying35 (by kernel_rfl) cells_big hv h
  obtain ⟨na, h0, _⟩ := DataW.trod_bool Tryd.underlying4 t0
  obtain rfl : u0 = .bool na := by simpa using h0
  rcases open_ints Tryd.underlying33 Tryd.underlying3 cells_int t1 with ⟨hcs, _⟩ | ⟨a, len, cap, zs, hcs, _, hl, hm, hz, _, hcell, _⟩
  · obtain rfl : u1 = .slice none 0 0 := by simpa using hcs
    exact ⟨na, none, 0, 0, [], rfl, Sl.nil W⟩
  · obtain rfl : u1 = .slice (some a) len cap := by simpa using hcs
    have hzc : zs.length = cap := by simpa using hz
    refine ⟨na, some a, len, cap, zs.take len, rfl, by rw [List.length_take]; omega, hl, by simpa [maxLen] using hm, fun hn => ?_⟩
    have h0 := hcell 0 (by omega)
    have ha := block_lt_of_cell h0
    simp only [Addr.add, if_true] at ha
    obtain ⟨g, o, sp⟩ := a
    obtain rfl : sp = none := ha.2
    refine ⟨g, o, rfl, ha.1, fun k hk => ?_⟩
    have := hcell k (by omega)
    rw [addr_add] at this
    rw [this]
    simp [List.getD, hk]
theorem trodAll_below {H : Type} {enc : TypeId × Value → H} {W W' : World} (hb : Below W.heap.size W W') : ∀ {ts : List TypeId} {vs : List Value} {ds : List (DataW H)} {p : List MemPlace},
    (∀ t ∈ ts, Tryd.prog.readableRec t = true ∧ t < Tryd.prog.types.size) → DataW.TrodAll enc Tryd.prog W 0 (fun _ => true) true ts vs ds p → (∀ x ∈ p, x.block < W.heap.size) → DataW.TrodAll enc Tryd.prog W' 0 (fun b => decide (b < W.heap.size)) true ts vs ds p
  | [], _, _, _, _, h, _ => by
    obtain ⟨rfl, rfl, rfl⟩ := trodAll_nil h
    exact h
  | t :: ts, _, _, _, ht, h, hp => by
    obtain ⟨v, vs1, d, ds1, a, b, rfl, rfl, rfl, h1, h2⟩ := trodAll_cons h
    exact ⟨a, b, Below.trod (by kernel_rfl) (ht t (by simp)).1 (ht t (by simp)).2 h1 hb (fun x hx => hp x (by simp [hx])), trodAll_below hb (fun t' h' => ht t' (by simp [h'])) h2 (fun x hx => hp x (by simp [hx])), rfl⟩
theorem read_big : Tryd.prog.readableRec 35 = true ∧ 35 < Tryd.prog.types.size := ⟨by kernel_rfl, by decide +kernel⟩
theorem read_int : Tryd.prog.readableRec 3 = true ∧ 3 < Tryd.prog.types.size := ⟨by kernel_rfl, by decide +kernel⟩
theorem read_string : Tryd.prog.readableRec 9 = true ∧ 9 < Tryd.prog.types.size := ⟨by kernel_rfl, by decide +kernel⟩
end Go.Proofs.YtfenmogbellhdaaDoor
