/-
  The law's awake.
-/
import Derived.Test.YtblakndpionmgaaDoorLxT
import Derived.Test.YtblakndpionmgaaDoorLxE
namespace Go.Proofs.YtblakndpionmgaaDoor
open Go.RowKit

theorem tokp_lit {r : List Tk × Int × Int} {ts : List Tk} {n x : Int} (h : r = (ts, n, x)) {w w' : World} {e : Ending} (hp : TokP r w e w') : ∃ A m c, e = .returned (.tuple #[.slice A m c, .int .i64 n, .int .i64 x]) ∧ Ts w' A m c ts ∧ Below w.heap.size w w' := by
  subst h; exact hp
theorem textp_lit {r : Txt × Int} {l : Txt} {x : Int} (h : r = (l, x)) {w w' : World} {e : Ending} (hp : TextP r w e w') : ∃ y : ByteArray, e = .returned (.tuple #[.string y, .int .i64 x]) ∧ y.toList = l ∧ Below w.heap.size w w' := by
  subst h; exact ⟨_, hp.1, by rw [tolist_eq], hp.2⟩
theorem ts_lit {w : World} (ts : List Tk) {cells : Array Value} {n : Nat} (h : cells = (ts.flatMap encTk).toArray) (hn : ts.length = n) (hn2 : n ≤ 9223372036854775807) : Ts (w.alloc (.cells cells 36)) (some ⟨w.heap.size, 0, none⟩) n n ts := by
  refine ⟨hn, Nat.le_refl _, hn2, fun _ => ⟨w.heap.size, 0, rfl, (Array.getElem?_eq_some_iff.1 (MapKept.heap_alloc w _).1).1, fun k hk j hj => ?_⟩⟩
  unfold World.cell?
  rw [(MapKept.heap_alloc w _).1]
  have e := flat_get (ts := ts) (k := k) (j := j) (by omega) hj
  subst h
  simpa using e
theorem tok1 : tokens (⟨#[120, 60, 61, 62, 121, 32, 35, 32, 122]⟩ : ByteArray).data.toList = ([⟨1, [120], 0, 1⟩, ⟨4, [60, 61, 62], 0, 1⟩, ⟨1, [121], 0, 1⟩, ⟨0, [], 0, 1⟩], 0, 0) := by kernel_rfl
theorem tok2 : tokens (⟨#[97, 10, 98, 32, 36]⟩ : ByteArray).data.toList = ([], 2, 14) := by kernel_rfl
theorem tok3 : tokens (⟨#[49, 48, 48, 48, 48, 48, 48, 48, 48, 48, 48, 48, 49]⟩ : ByteArray).data.toList = ([], 1, 14) := by kernel_rfl
theorem txt4 : textR [⟨1, [97], 0, 1⟩, ⟨3, [51], 3, 2⟩, ⟨0, [], 0, 2⟩] = ([97, 10, 51], 0) := by kernel_rfl
set_option maxRecDepth 100000 in
set_option maxHeartbeats 8000000 in
theorem awake_any (w : World) (htab : Tabx w) (hst : St w) : Calls Tryd.prog 18 #[] w fun e w' => e = .returned (.bool true) ∧ Below w.heap.size w w' := by
  have HT := Lib.hid htab
  have HS := Lib.hid hst
  have K1 := tokens_any (⟨#[120, 60, 61, 62, 121, 32, 35, 32, 122]⟩ : ByteArray) w htab hst
  have K2 := fun W h1 h2 => tokens_any (⟨#[97, 10, 98, 32, 36]⟩ : ByteArray) W h1 h2
  have K3 := fun W h1 h2 => tokens_any (⟨#[49, 48, 48, 48, 48, 48, 48, 48, 48, 48, 48, 48, 49]⟩ : ByteArray) W h1 h2
  have K4 := fun W h1 h2 => ltext_any (some ⟨W.heap.size, 0, none⟩) 3 3 [⟨1, [97], 0, 1⟩, ⟨3, [51], 3, 2⟩, ⟨0, [], 0, 2⟩] (W.alloc (.cells #[.int .i64 1, .string ⟨#[97]⟩, .int .i64 0, .int .i64 1, .int .i64 3, .string ⟨#[51]⟩, .int .i64 3, .int .i64 2, .int .i64 0, .string ⟨#[]⟩, .int .i64 0, .int .i64 2] 36)) (ts_lit (w := W) (n := 3) [⟨1, [97], 0, 1⟩, ⟨3, [51], 3, 2⟩, ⟨0, [], 0, 2⟩] rfl rfl (by omega)) (by intro t ht; simp only [List.mem_cons, List.not_mem_nil, or_false] at ht; rcases ht with rfl | rfl | rfl <;> decide) h1 h2
  clear htab hst
  go_enter Tryd.func18, Tryd.ntmps18
  go_wp2_with fail
  (refine K1.mono ?_); rintro e w1 hp
  obtain ⟨A1, n1, m1, rfl, hts, hb⟩ := tokp_lit tok1 hp
  obtain rfl : n1 = 4 := hts.len.symm
  obtain ⟨g, o, x, rfl, hg, c0, c1, c2, c3, hx⟩ := hts.at_ (k := 1) (by omega)
  have HG := Lib.hid hg
  have D0 : Hid (w1.cell? ⟨g, o + 4, none⟩ = some (.int .i64 4)) := c0
  have D1 : Hid (w1.cell? ⟨g, o + 4 + 1, none⟩ = some (.string x)) := c1
  have D2 : Hid (w1.cell? ⟨g, o + 4 + 2, none⟩ = some (.int .i64 0)) := c2
  have D3 : Hid (w1.cell? ⟨g, o + 4 + 3, none⟩ = some (.int .i64 1)) := c3
  have TE : (x.toList == [60, 61, 62]) = true := by rw [tolist_eq, hx.out]; rfl
  have HB1 := Lib.hid hb
  clear hp hts hb c0 c1 c2 c3 hx hg K1
  go_wp2_with fail
  (refine (K2 _ (tabx_on HT.out HB1.out) (HS.out.below HB1.out)).mono ?_); rintro e w2 hp
  obtain ⟨A2, n2, m2, rfl, -, hb⟩ := tokp_lit tok2 hp
  have HW2 := Lib.hid hb
  have HB2 := Lib.hid (nbelow_on HB1.out hb)
  clear hp hb K2
  go_wp2_with fail
  (refine (K3 _ (tabx_on HT.out HB2.out) (HS.out.below HB2.out)).mono ?_); rintro e w3 hp
  obtain ⟨A3, n3, m3, rfl, -, hb⟩ := tokp_lit tok3 hp
  have HW3 := Lib.hid (nbelow_on HW2.out hb)
  have HB3 := Lib.hid (nbelow_on HB2.out hb)
  clear hp hb K3
  have HB4 := Lib.hid (HB3.out.alloc HB3.out.size (.cells #[.int .i64 1, .string ⟨#[97]⟩, .int .i64 0, .int .i64 1, .int .i64 3, .string ⟨#[51]⟩, .int .i64 3, .int .i64 2, .int .i64 0, .string ⟨#[]⟩, .int .i64 0, .int .i64 2] 36))
  have HW4 := Lib.hid (HW3.out.alloc HW3.out.size (.cells #[.int .i64 1, .string ⟨#[97]⟩, .int .i64 0, .int .i64 1, .int .i64 3, .string ⟨#[51]⟩, .int .i64 3, .int .i64 2, .int .i64 0, .string ⟨#[]⟩, .int .i64 0, .int .i64 2] 36))
  go_wp2_with fail
  (refine (K4 _ (tabx_on HT.out HB4.out) (HS.out.below HB4.out)).mono ?_); rintro e w4 hp
  obtain ⟨y, rfl, hy, hb⟩ := textp_lit txt4 hp
  have TY : (y.toList == [97, 10, 51]) = true := by rw [hy]; rfl
  have HB5 := Lib.hid (nbelow_on HB4.out hb)
  have HW5 := Lib.hid (nbelow_on HW4.out hb)
  have d0 := (HW5.out.cell (p := ⟨g, o + 4, none⟩) HG.out).trans D0.out
  have d1 := (HW5.out.cell (p := ⟨g, o + 4 + 1, none⟩) HG.out).trans D1.out
  have d2 := (HW5.out.cell (p := ⟨g, o + 4 + 2, none⟩) HG.out).trans D2.out
  have d3 := (HW5.out.cell (p := ⟨g, o + 4 + 3, none⟩) HG.out).trans D3.out
  clear hp hb hy K4
  go_wp2_with fail
  go_ret
  exact ⟨rfl, HB5.out⟩
end Go.Proofs.YtblakndpionmgaaDoor
