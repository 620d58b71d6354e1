/-
  The examples of the chapter hold: the statements' common function returns true, in every world that holds the library's table of powers of ten.
-/
import Derived.Test.YthbendnhpjfenaaDoorNumC
import Derived.Test.YthbendnhpjfenaaDoorNumD
import Derived.Test.YthbendnhpjfenaaDoorNumE
import Derived.Test.YthbendnhpjfenaaDoorTextA
namespace Go.Proofs.YthbendnhpjfenaaDoor
open Go.RowKit

abbrev Tab (w : World) : Prop := Lib.TabIs Tryd.prog w "internal/strconv.uint64pow10" .u64 Lib.pow10Tab
theorem tab_on {w w' : World} (h : Tab w) (hb : Below w.heap.size w w') : Tab w' := Lib.tabBelow_of_tabIs h w' hb
theorem below_on {w w1 w2 : World} (h : Below w.heap.size w w1) (k : Below w1.heap.size w1 w2) : Below w.heap.size w w2 := h.trans (k.mono h.size)

theorem itoa_m5 : Lib.itoa (-5) = [45, 53] := by simp [Lib.itoa, Lib.decDigits]
theorem itoa_0 : Lib.itoa 0 = [48] := by simp [Lib.itoa, Lib.decDigits]
theorem itoa_m120 : Lib.itoa (-120) = [45, 49, 50, 48] := by simp [Lib.itoa, Lib.decDigits]

theorem ex_div (w : World) : Calls Tryd.prog 18 #[.int .i64 (-7), .int .i64 2] w fun e w' => e = .returned (.tuple #[.int .i64 (-4), .bool true]) ∧ w = w' := div_any (-7) 2 w
theorem ex_mod (w : World) : Calls Tryd.prog 20 #[.int .i64 7, .int .i64 (-2)] w fun e w' => e = .returned (.tuple #[.int .i64 (-1), .bool true]) ∧ w = w' := mod_any 7 (-2) w
theorem ex_add (w : World) : Calls Tryd.prog 9 #[.int .i64 1000000000000, .int .i64 1] w fun e w' => e = .returned (.tuple #[.int .i64 0, .bool false]) ∧ w = w' := add_any 1000000000000 1 w
theorem ex_mul (w : World) : Calls Tryd.prog 13 #[.int .i64 (-3), .int .i64 5] w fun e w' => e = .returned (.tuple #[.int .i64 (-15), .bool true]) ∧ w = w' := mul_any (-3) 5 w
theorem ex_in (w : World) : Calls Tryd.prog 15 #[.int .i64 1000000000000] w fun e w' => e = .returned (.bool true) ∧ w = w' := in_any 1000000000000 w
theorem ex_out (w : World) : Calls Tryd.prog 15 #[.int .i64 (-1000000000001)] w fun e w' => e = .returned (.bool false) ∧ w = w' := in_any (-1000000000001) w
theorem ex_gcd (w : World) : Calls Tryd.prog 22 #[.int .i64 (-12), .int .i64 18] w fun e w' => e = .returned (.int .i64 6) ∧ w = w' := gcd_any (-12) 18 w (by omega) (by omega) (by omega) (by omega)
theorem ex_text (w : World) (h : Tab w) : Calls Tryd.prog 26 #[.int .i64 (-120)] w fun e w' => e = .returned (.string ⟨#[45, 49, 50, 48]⟩) ∧ Below w.heap.size w w' := by
  have := text_any (-120) w (by omega) (by omega) h
  rw [itoa_m120] at this
  exact this
theorem ex_parse (w : World) (h : Tab w) : Calls Tryd.prog 24 #[.string ⟨#[45, 53]⟩] w fun e w' => e = .returned (.tuple #[.int .i64 (-5), .bool true]) ∧ Below w.heap.size w w' := by
  have e1 : parseV [45, 53] = -5 := by rw [← itoa_m5]; exact parseV_itoa (-5) (by decide)
  have e2 : parseB [45, 53] = true := by rw [← itoa_m5]; exact parseB_itoa (-5)
  refine (parse_any ⟨#[45, 53]⟩ w (by decide) h).mono ?_
  rintro e w' ⟨rfl, hb⟩
  exact ⟨ret_two e1 e2, hb⟩
theorem ex_zero (w : World) (h : Tab w) : Calls Tryd.prog 24 #[.string ⟨#[45, 48]⟩] w fun e w' => e = .returned (.tuple #[.int .i64 0, .bool false]) ∧ Below w.heap.size w w' := by
  have hr : runP 0 (digits [45, 48]) = some 0 := by decide
  have hi : ¬ Lib.itoa (sgn (isNeg [45, 48]) 0) = [45, 48] := by
    show ¬ Lib.itoa 0 = [45, 48]
    rw [itoa_0]; decide
  have N := parse_not hr hi
  refine (parse_any ⟨#[45, 48]⟩ w (by decide) h).mono ?_
  rintro e w' ⟨rfl, hb⟩
  exact ⟨ret_two N.1.symm N.2.symm, hb⟩

set_option maxHeartbeats 1000000 in
theorem alive_any (w : World) (htab : Tab w) : Calls Tryd.prog 17 #[] w fun e w' => e = .returned (.bool true) ∧ Below w.heap.size w w' := by
  have H0 := Lib.hid htab
  clear htab
  go_enter Tryd.func17, Tryd.ntmps17
  go_wp2_with fail
  (refine (ex_div _).mono ?_; rintro e w' ⟨rfl, rfl⟩)
  go_wp2_with fail
  (refine (ex_mod _).mono ?_; rintro e w' ⟨rfl, rfl⟩)
  go_wp2_with fail
  (refine (ex_add _).mono ?_; rintro e w' ⟨rfl, rfl⟩)
  go_wp2_with fail
  (refine (ex_parse _ H0.out).mono ?_; rintro e w1 ⟨rfl, hb⟩)
  have B1 := Lib.hid hb
  have H1 := Lib.hid (tab_on H0.out hb)
  clear hb
  go_wp2_with fail
  (refine (ex_zero _ H1.out).mono ?_; rintro e w2 ⟨rfl, hb⟩)
  have B2 := Lib.hid (below_on B1.out hb)
  have H2 := Lib.hid (tab_on H1.out hb)
  clear hb
  go_wp2_with fail
  (refine (ex_mul _).mono ?_; rintro e w' ⟨rfl, rfl⟩)
  go_wp2_with fail
  (refine (ex_in _).mono ?_; rintro e w' ⟨rfl, rfl⟩)
  go_wp2_with fail
  (refine (ex_out _).mono ?_; rintro e w' ⟨rfl, rfl⟩)
  go_wp2_with fail
  (refine (ex_gcd _).mono ?_; rintro e w' ⟨rfl, rfl⟩)
  go_wp2_with fail
  (refine (ex_text _ H2.out).mono ?_; rintro e w3 ⟨rfl, hb⟩)
  have B3 := Lib.hid (below_on B2.out hb)
  clear hb
  go_wp2_with fail
  go_ret
  exact ⟨rfl, B3.out⟩
end Go.Proofs.YthbendnhpjfenaaDoor
