/-
  A fraction that comes in.
-/
import Derived.Test.YtfenmogbellhdaaGreatDoorBigLaid
namespace Go.Proofs.YtfenmogbellhdaaGreatDoor
open Go.ChangeShapes Go.WideShapes Go.ChangeAt Go.RowKit

theorem cells_bool : Tryz.prog.cellsOf 4 = 1 := by kernel_rfl
theorem cells_ints : Tryz.prog.cellsOf 22 = 1 := by kernel_rfl
theorem cells_rat : Tryz.prog.cellsOf 26 = 4 := by kernel_rfl
set_option maxRecDepth 100000 in
/-- The two cells of a number. -/
theorem big_cells {H : Type} {enc : TypeId × Value → H} {W : World} {fuel : Nat} {u0 u1 : Value} {y : DataW H × List MemPlace} (h : DataW.trod enc Tryz.prog W 0 (fun _ => true) true fuel 24 [u0, u1] = some y) :
    ∃ na A n c xs, u0 = .bool na ∧ u1 = .slice A n c ∧ Sl W A n c xs := by
  obtain ⟨y0, y1, n, _, _, t0, t1⟩ := trod_struct2 Tryz.underlying24 h
  have t0 : DataW.trod enc Tryz.prog W 0 (fun _ => true) true n 4 [u0] = some y0 := by simpa [cells_bool] using t0
  have t1 : DataW.trod enc Tryz.prog W 0 (fun _ => true) true n 22 [u1] = some y1 := by simpa [cells_ints] using t1
  obtain ⟨na, h0, _⟩ := DataW.trod_bool Tryz.underlying4 t0
  obtain rfl : u0 = .bool na := by simpa using h0
  rcases open_ints Tryz.underlying22 Tryz.underlying3 cells_int t1 with ⟨hcs, _⟩ | ⟨a, len, cap, zs, hcs, _, hl, hm, hz, _, hcell, _⟩
  · obtain rfl : u1 = .slice none 0 0 := by simpa [cells_ints] using hcs
    exact ⟨na, none, 0, 0, [], rfl, rfl, Sl.nil W⟩
  · obtain rfl : u1 = .slice (some a) len cap := by simpa [cells_ints] using hcs
    have hzc : zs.length = cap := by simpa using hz
    refine ⟨na, some a, len, cap, zs.take len, rfl, rfl, by rw [List.length_take]; omega, hl, by simpa [maxLen] using hm, fun hn => ?_⟩
    have h0 := hcell 0 (by omega)
    have ha := block_lt_of_cell h0
    simp only [Addr.add, if_true] at ha
    obtain ⟨g, o, sp⟩ := a
    obtain rfl : sp = none := ha.2
    refine ⟨g, o, rfl, ha.1, fun k hk => ?_⟩
    have := hcell k (by omega)
    rw [addr_add] at this
    rw [this]
    simp [List.getD, hk]
set_option maxRecDepth 100000 in
/-- A fraction that comes in. -/
theorem open_rat {H : Type} {enc : TypeId × Value → H} {W : World} {base : Nat} {v : Value} {d : DataW H} {p : List MemPlace} (hv : Value.okWide Tryz.prog W .any base 26 v) (h : DataW.Trod enc Tryz.prog W 0 (fun _ => true) true 26 v d p) :
    ∃ na A n c xs nb B m d' ys, v = .agg #[.bool na, .slice A n c, .bool nb, .slice B m d'] ∧ Sl W A n c xs ∧ Sl W B m d' ys := by
  obtain ⟨cs, rfl, hsz⟩ := okWide_struct Tryz.underlying26 hv
  obtain ⟨c0, c1, c2, c3, rfl⟩ := Go.Joins.array4 (hsz.trans cells_rat)
  obtain ⟨fuel, hf⟩ := h
  obtain ⟨y0, y1, n, _, _, h0, h1⟩ := trod_struct2 Tryz.underlying26 hf
  have h0 : DataW.trod enc Tryz.prog W 0 (fun _ => true) true n 24 [c0, c1] = some y0 := by simpa [Value.cells, cells_big] using h0
  have h1 : DataW.trod enc Tryz.prog W 0 (fun _ => true) true n 24 [c2, c3] = some y1 := by simpa [Value.cells, cells_big] using h1
  obtain ⟨na, A, m, c, xs, rfl, rfl, s1⟩ := big_cells h0
  obtain ⟨nb, B, m', c', ys, rfl, rfl, s2⟩ := big_cells h1
  exact ⟨na, A, m, c, xs, nb, B, m', c', ys, rfl, s1, s2⟩
theorem read_rat : Tryz.prog.readableRec 26 = true ∧ 26 < Tryz.prog.types.size := ⟨by kernel_rfl, by decide +kernel⟩
end Go.Proofs.YtfenmogbellhdaaGreatDoor
