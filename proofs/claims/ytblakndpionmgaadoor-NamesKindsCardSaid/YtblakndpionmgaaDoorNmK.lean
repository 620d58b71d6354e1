/-
  The laws' alive.
-/
import Derived.Test.YtblakndpionmgaaDoorNmJ
import Derived.Test.YtblakndpionmgaaDoorNmI
namespace Go.Proofs.YtblakndpionmgaaDoor
open Go.RowKit

theorem ss_lit {w : World} {t : TypeId} (xs : List Txt) {cells : Array Value} {n : Nat} (h : cells = (xs.map strVal).toArray) (hn : xs.length = n) (hn2 : n ≤ 9223372036854775807) : Ss (w.alloc (.cells cells t)) (some ⟨w.heap.size, 0, none⟩) n n xs := by
  refine ⟨hn, Nat.le_refl _, hn2, fun _ => ⟨w.heap.size, 0, rfl, (Array.getElem?_eq_some_iff.1 (MapKept.heap_alloc w _).1).1, fun k hk => ?_⟩⟩
  unfold World.cell?
  rw [(MapKept.heap_alloc w _).1]
  have hk2 : k < xs.length := by omega
  simp [h, strVal, List.getD, hk2]
theorem fresh_x2 {r : Txt} (h : IsFresh [[120], [120, 49], [120, 51]] [120] r) : r = [120, 50] := by
  have e1 : Lib.itoa ((1 : Nat) : Int) = [49] := by simp [Lib.itoa, Lib.decDigits]
  have e2 : Lib.itoa ((2 : Nat) : Int) = [50] := by simp [Lib.itoa, Lib.decDigits]
  have c1 : cand [120] 1 = [120, 49] := by rw [cand_pos _ (by decide), e1]; rfl
  have c2 : cand [120] 2 = [120, 50] := by rw [cand_pos _ (by decide), e2]; rfl
  refine h.uniq ⟨2, c2.symm, by decide, fun j hj => ?_⟩
  have h2 : j = 0 ∨ j = 1 := by omega
  rcases h2 with rfl | rfl
  · rw [cand_zero]; decide
  · rw [c1]; decide
theorem few_lit {l : List Txt} (h : fewB l = true) : Few l := few_of h

set_option maxRecDepth 100000 in
set_option maxHeartbeats 2000000 in
theorem alive_any (w : World) (henv : Env w) (htab : Tabx w) : Calls Tryd.prog 9 #[] w fun e w' => e = .returned (.bool true) ∧ Below w.heap.size w w' := by
  have C0 : Calls Tryd.prog 10 #[.string ⟨#[109, 111, 100]⟩] w fun e w' => e = .returned (.bool true) ∧ w = w' := by
    have := keyword_any ⟨#[109, 111, 100]⟩ w henv.nt
    rwa [show kwB [109, 111, 100] = true from by decide] at this
  have C1 : Calls Tryd.prog 10 #[.string ⟨#[77, 111, 100]⟩] w fun e w' => e = .returned (.bool false) ∧ w = w' := by
    have := keyword_any ⟨#[77, 111, 100]⟩ w henv.nt
    rwa [show kwB [77, 111, 100] = false from by decide] at this
  have C2 : Calls Tryd.prog 12 #[.string ⟨#[97, 110, 100, 95, 116, 104, 101, 110]⟩] w fun e w' => e = .returned (.int .i64 0) ∧ w = w' := by
    have := check_any ⟨#[97, 110, 100, 95, 116, 104, 101, 110]⟩ w henv.nt
    rwa [show errI (nameB [97, 110, 100, 95, 116, 104, 101, 110]) = 0 from by decide] at this
  have C3 : Calls Tryd.prog 12 #[.string ⟨#[118]⟩] w fun e w' => e = .returned (.int .i64 3) ∧ w = w' := by
    have := check_any ⟨#[118]⟩ w henv.nt
    rwa [show errI (nameB [118]) = 3 from by decide] at this
  have C4 : Calls Tryd.prog 14 #[.string ⟨#[84, 50]⟩] w fun e w' => e = .returned (.int .i64 0) ∧ w = w' := by
    have := title_any ⟨#[84, 50]⟩ w henv.nt
    rwa [show errI (titleB [84, 50]) = 0 from by decide] at this
  have C5 : Calls Tryd.prog 14 #[.string ⟨#[73, 110, 116]⟩] w fun e w' => e = .returned (.int .i64 3) ∧ w = w' := by
    have := title_any ⟨#[73, 110, 116]⟩ w henv.nt
    rwa [show errI (titleB [73, 110, 116]) = 3 from by decide] at this
  have D0 : ∀ W, Env W → Calls Tryd.prog 16 #[.string ⟨#[76, 105, 115, 116, 46, 73, 110, 116]⟩] W fun e w' => e = .returned (.int .i64 0) ∧ Below W.heap.size W w' := fun W h => by
    have := core_any ⟨#[76, 105, 115, 116, 46, 73, 110, 116]⟩ W h
    rwa [show errI (coreB [76, 105, 115, 116, 46, 73, 110, 116]) = 0 from by decide] at this
  have D1 : ∀ W, Env W → Calls Tryd.prog 16 #[.string ⟨#[118]⟩] W fun e w' => e = .returned (.int .i64 3) ∧ Below W.heap.size W w' := fun W h => by
    have := core_any ⟨#[118]⟩ W h
    rwa [show errI (coreB [118]) = 3 from by decide] at this
  have D2 : ∀ W, Env W → Calls Tryd.prog 16 #[.string ⟨#[118, 46, 51]⟩] W fun e w' => e = .returned (.int .i64 0) ∧ Below W.heap.size W w' := fun W h => by
    have := core_any ⟨#[118, 46, 51]⟩ W h
    rwa [show errI (coreB [118, 46, 51]) = 0 from by decide] at this
  have HE0 := Lib.hid henv
  have HT := Lib.hid htab
  clear henv htab
  go_enter Tryd.func9, Tryd.ntmps9
  go_wp2_with fail
  ((with_reducible refine (C0).mono ?_); rintro e wx ⟨rfl, rfl⟩)
  go_wp2_with fail
  ((with_reducible refine (C1).mono ?_); rintro e wx ⟨rfl, rfl⟩)
  go_wp2_with fail
  ((with_reducible refine (C2).mono ?_); rintro e wx ⟨rfl, rfl⟩)
  go_wp2_with fail
  ((with_reducible refine (C3).mono ?_); rintro e wx ⟨rfl, rfl⟩)
  go_wp2_with fail
  ((with_reducible refine (C4).mono ?_); rintro e wx ⟨rfl, rfl⟩)
  go_wp2_with fail
  ((with_reducible refine (C5).mono ?_); rintro e wx ⟨rfl, rfl⟩)
  go_wp2_with fail
  (refine (D0 w HE0.out).mono ?_); rintro e w1 ⟨rfl, hb⟩
  have HE1 := Lib.hid (HE0.out.below hb)
  have HB1 : Hid (Below w.heap.size w w1) := hb
  clear hb
  go_wp2_with fail
  (refine (D1 w1 HE1.out).mono ?_); rintro e w2 ⟨rfl, hb⟩
  have HE2 := Lib.hid (HE1.out.below hb)
  have HB2 : Hid (Below w.heap.size w w2) := nbelow_on HB1.out hb
  clear hb
  go_wp2_with fail
  (refine (D2 w2 HE2.out).mono ?_); rintro e w3 ⟨rfl, hb⟩
  have HE3 := Lib.hid (HE2.out.below hb)
  have HB3 : Hid (Below w.heap.size w w3) := nbelow_on HB2.out hb
  clear hb
  have hs1 : Ss (w3.alloc (.cells #[.string ⟨#[120]⟩, .string ⟨#[120, 49]⟩, .string ⟨#[120, 51]⟩] 9)) (some ⟨w3.heap.size, 0, none⟩) 3 3 [[120], [120, 49], [120, 51]] := ss_lit _ rfl rfl (by omega)
  have HB4 := Lib.hid (nbelow_on HB3.out (below_alloc (.cells #[.string ⟨#[120]⟩, .string ⟨#[120, 49]⟩, .string ⟨#[120, 51]⟩] 9)))
  have CF := fresh_any _ 3 3 _ ⟨#[120]⟩ _ hs1 (few_lit (by decide)) (tabx_on HT.out HB4.out)
  go_wp2_with fail
  (refine CF.mono ?_); rintro e w4 ⟨x, rfl, hx, hb⟩
  have TB : (x.toList == [120, 50]) = true := by rw [tolist_eq, fresh_x2 hx]; decide
  have HB5 := Lib.hid (nbelow_on HB4.out hb)
  clear hb hs1 CF hx
  have hs1 : Ss (w4.alloc (.cells #[.string ⟨#[98]⟩, .string ⟨#[97]⟩] 9)) (some ⟨w4.heap.size, 0, none⟩) 2 2 [[98], [97]] := ss_lit _ rfl rfl (by omega)
  have HB6 := Lib.hid (nbelow_on HB5.out (below_alloc (.cells #[.string ⟨#[98]⟩, .string ⟨#[97]⟩] 9)))
  have hs2 : Ss ((w4.alloc (.cells #[.string ⟨#[98]⟩, .string ⟨#[97]⟩] 9)).alloc (.cells #[.string ⟨#[98]⟩] 9)) (some ⟨(w4.alloc (.cells #[.string ⟨#[98]⟩, .string ⟨#[97]⟩] 9)).heap.size, 0, none⟩) 1 1 [[98]] := ss_lit _ rfl rfl (by omega)
  have HB7 := Lib.hid (nbelow_on HB6.out (below_alloc (.cells #[.string ⟨#[98]⟩] 9)))
  have CU := union_any _ 2 2 _ _ 1 1 _ _ (hs1.alloc (.cells #[.string ⟨#[98]⟩] 9)) hs2 (few_lit (by decide)).fit (few_lit (by decide)).fit (by decide)
  rw [show unB ([[98], [97]] ++ [[98]]) = [[97], [98]] from by decide] at CU
  rw [World.size_alloc] at CU
  clear hs1 hs2
  go_wp2_with fail
  (refine CU.mono ?_); rintro e w5 ⟨C, k, q, rfl, hss, hb⟩
  rw [World.size_alloc] at hb
  have HB8 := Lib.hid (nbelow_on HB7.out (by rw [World.size_alloc]; exact hb))
  have hs3 := hss.alloc (.cells #[.string ⟨#[97]⟩, .string ⟨#[98]⟩] 9)
  have hs4 : Ss (w5.alloc (.cells #[.string ⟨#[97]⟩, .string ⟨#[98]⟩] 9)) (some ⟨w5.heap.size, 0, none⟩) 2 2 [[97], [98]] := ss_lit _ rfl rfl (by omega)
  have HB9 := Lib.hid (nbelow_on HB8.out (below_alloc (.cells #[.string ⟨#[97]⟩, .string ⟨#[98]⟩] 9)))
  have CS := same_any _ _ _ _ _ _ _ _ _ hs3 hs4
  rw [decide_eq_true rfl] at CS
  clear hb hss hs3 hs4 CU
  go_wp2_with fail
  (refine CS.mono ?_); rintro e w6 ⟨rfl, hb⟩
  have HB10 := Lib.hid (nbelow_on HB9.out hb)
  have hs4 : Ss (w6.alloc (.cells #[.string ⟨#[97]⟩, .string ⟨#[98]⟩] 9)) (some ⟨w6.heap.size, 0, none⟩) 2 2 [[97], [98]] := ss_lit _ rfl rfl (by omega)
  have HB11 := Lib.hid (nbelow_on HB10.out (below_alloc (.cells #[.string ⟨#[97]⟩, .string ⟨#[98]⟩] 9)))
  have CF := find_any _ _ _ _ ⟨#[98]⟩ _ hs4
  rw [show findI [[97], [98]] [98] = 1 from by decide] at CF
  clear hb hs4 CS
  go_wp2_with fail
  ((with_reducible refine CF.mono ?_); rintro e wx ⟨rfl, rfl⟩)
  go_wp2_with fail
  go_ret
  exact ⟨rfl, HB11.out⟩
end Go.Proofs.YtblakndpionmgaaDoor
