/-
  Contracts of rat's sign, quotient and rest.
-/
import Derived.Test.YtfenmogbellhdaaGreatDoorRatW
namespace Go.Proofs.YtfenmogbellhdaaGreatDoor
open Go.RowKit

theorem sign_any (na : Bool) (A : Option Addr) (n c : Nat) (xs : List Int) (w : World) (ha : Sl w A n c xs) :
    Calls Tryz.prog 45 #[.agg #[.bool na, .slice A n c]] w fun e w' => e = .returned (.int .i64 (cmpI (zOf na xs) 0)) ∧ Below w.heap.size w w' := by
  have S1 := Lib.hid ha
  clear ha
  have BW := Lib.hid (Below.refl w.heap.size w)
  go_enter Tryz.func45, Tryz.ntmps45
  go_upto_region 1 with fail
  have S1 := Lib.hid (S1.out.alloc (.cells #[.bool na, .slice A n c] 24))
  have BW := Lib.hid (BW.out.alloc BW.out.size (.cells #[.bool na, .slice A n c] 24))
  have X1 := Lib.hid (Bk.new 24 w #[.bool na, .slice A n c])
  generalize (w.alloc (.cells #[.bool na, .slice A n c] 24)) = W0 at *
  have e0 : W0.cell? ⟨w.heap.size, 0, none⟩ = some (.bool na) := X1.out.c 0 rfl
  have e1 : W0.cell? ⟨w.heap.size, 1, none⟩ = some (.slice A n c) := X1.out.c 1 rfl
  go_region_held3 (fun w' => w'.cell? ⟨w.heap.size, 0, none⟩ = some (.bool na) ∧ w'.cell? ⟨w.heap.size, 1, none⟩ = some (.slice A n c)) (go_keep)
    (first | (go_at_call 23; (with_reducible refine (of_any 0 _ (by omega) (by omega)).mono ?_); rintro e a1 ⟨B, m, d, rfl, hs, hb⟩; have BB1 := Lib.hid (show Below W0.heap.size W0 a1 from (by first | exact hb | exact (Below.refl _ _).drew.trans (hb.mono (Nat.le_refl _)))); have S2 := Lib.hid hs; clear hs; have f0 : a1.cell? ⟨w.heap.size, 0, none⟩ = some (.bool na) := (X1.out.below BB1.out).c 0 rfl; have f1 : a1.cell? ⟨w.heap.size, 1, none⟩ = some (.slice A n c) := (X1.out.below BB1.out).c 1 rfl; clear hb) | (go_at_call 63; (with_reducible refine (cmp_big na (nOf 0) A B n c m d xs (lOf 0) _ (S1.out.below BB1.out) S2.out).mono ?_); rintro e a2 ⟨rfl, hb⟩; have BB2 := Lib.hid (below_up BB1.out hb); have S2 := Lib.hid (S2.out.below hb); have f0 : a2.cell? ⟨w.heap.size, 0, none⟩ = some (.bool na) := (X1.out.below BB2.out).c 0 rfl; have f1 : a2.cell? ⟨w.heap.size, 1, none⟩ = some (.slice A n c) := (X1.out.below BB2.out).c 1 rfl; clear hb))
  clear e0 e1
  try clear f0 f1
  have S1 := Lib.hid (S1.out.below BB2.out)
  have BW := Lib.hid (below_on BW.out BB2.out)
  have X1 := Lib.hid (X1.out.below BB2.out)
  rw [zOf_lOf fit_zero]
  go_wp2_with fail
  go_ret
  exact ⟨rfl, BW.out⟩

theorem quot_any (na nb : Bool) (A B : Option Addr) (n c m d : Nat) (xs ys : List Int) (w : World) (ha : Sl w A n c xs) (hb : Sl w B m d ys) :
    Calls Tryz.prog 38 #[.agg #[.bool na, .slice A n c], .agg #[.bool nb, .slice B m d]] w fun e w' => ∃ T k r, e = .returned (.agg #[.bool (nOf (qZ (zOf nb ys) (zOf na xs))), .slice T k r]) ∧ Sl w' T k r (lOf (qZ (zOf nb ys) (zOf na xs))) ∧ Below w.heap.size w w' := by
  have S1 := Lib.hid ha
  have S2 := Lib.hid hb
  clear ha hb
  have BW := Lib.hid (Below.refl w.heap.size w)
  go_enter Tryz.func38, Tryz.ntmps38
  go_upto_region 1 with fail
  have S1 := Lib.hid (S1.out.alloc (.cells #[.bool na, .slice A n c] 45))
  have S2 := Lib.hid (S2.out.alloc (.cells #[.bool na, .slice A n c] 45))
  have BW := Lib.hid (BW.out.alloc BW.out.size (.cells #[.bool na, .slice A n c] 45))
  have X1 := Lib.hid (Bk.new 45 w #[.bool na, .slice A n c])
  have S1 := Lib.hid (S1.out.alloc (.cells #[.bool nb, .slice B m d] 24))
  have S2 := Lib.hid (S2.out.alloc (.cells #[.bool nb, .slice B m d] 24))
  have BW := Lib.hid (BW.out.alloc BW.out.size (.cells #[.bool nb, .slice B m d] 24))
  have X1 := Lib.hid (X1.out.alloc (.cells #[.bool nb, .slice B m d] 24))
  have X2 := Lib.hid (Bk.new 24 (w.alloc (.cells #[.bool na, .slice A n c] 45)) #[.bool nb, .slice B m d])
  rw [alloc_sz] at X2
  have S1 := Lib.hid (S1.out.alloc (.cells #[.bool false, .slice none 0 0] 24))
  have S2 := Lib.hid (S2.out.alloc (.cells #[.bool false, .slice none 0 0] 24))
  have BW := Lib.hid (BW.out.alloc BW.out.size (.cells #[.bool false, .slice none 0 0] 24))
  have X1 := Lib.hid (X1.out.alloc (.cells #[.bool false, .slice none 0 0] 24))
  have X2 := Lib.hid (X2.out.alloc (.cells #[.bool false, .slice none 0 0] 24))
  have X3 := Lib.hid (Bk.new 24 ((w.alloc (.cells #[.bool na, .slice A n c] 45)).alloc (.cells #[.bool nb, .slice B m d] 24)) #[.bool false, .slice none 0 0])
  rw [alloc_sz, alloc_sz] at X3
  generalize (((w.alloc (.cells #[.bool na, .slice A n c] 45)).alloc (.cells #[.bool nb, .slice B m d] 24)).alloc (.cells #[.bool false, .slice none 0 0] 24)) = W0 at *
  have e0 : W0.cell? ⟨w.heap.size, 0, none⟩ = some (.bool na) := X1.out.c 0 rfl
  have e1 : W0.cell? ⟨w.heap.size, 1, none⟩ = some (.slice A n c) := X1.out.c 1 rfl
  have e2 : W0.cell? ⟨w.heap.size + 1, 0, none⟩ = some (.bool nb) := X2.out.c 0 rfl
  have e3 : W0.cell? ⟨w.heap.size + 1, 1, none⟩ = some (.slice B m d) := X2.out.c 1 rfl
  go_wp2_with fail
  ((with_reducible refine (div_big nb na B A m d n c ys xs _ S2.out S1.out).mono ?_); rintro e w1 ⟨T, k, r, U, l, s, rfl, hs, hr, hb⟩)
  clear e0 e1 e2 e3
  have S1 := Lib.hid (S1.out.below hb)
  have S2 := Lib.hid (S2.out.below hb)
  have BW := Lib.hid (below_on BW.out hb)
  have X1 := Lib.hid (X1.out.below hb)
  have X2 := Lib.hid (X2.out.below hb)
  have X3 := Lib.hid (X3.out.below hb)
  clear hb
  have S3 := Lib.hid hs
  have S4 := Lib.hid hr
  clear hs hr
  have e0 : w1.cell? ⟨w.heap.size, 0, none⟩ = some (.bool na) := X1.out.c 0 rfl
  have e1 : w1.cell? ⟨w.heap.size, 1, none⟩ = some (.slice A n c) := X1.out.c 1 rfl
  have e2 : w1.cell? ⟨w.heap.size + 1, 0, none⟩ = some (.bool nb) := X2.out.c 0 rfl
  have e3 : w1.cell? ⟨w.heap.size + 1, 1, none⟩ = some (.slice B m d) := X2.out.c 1 rfl
  go_upto_region 2 with fail
  clear e0 e1 e2 e3
  have ln1 := X1.out.lt
  have ln2 := X2.out.lt
  have ln3 := X3.out.lt
  have S1 := Lib.hid (S1.out.alloc (.cells #[.bool (nOf (qZ (zOf nb ys) (zOf na xs))), .slice T k r] 24))
  have S2 := Lib.hid (S2.out.alloc (.cells #[.bool (nOf (qZ (zOf nb ys) (zOf na xs))), .slice T k r] 24))
  have BW := Lib.hid (BW.out.alloc BW.out.size (.cells #[.bool (nOf (qZ (zOf nb ys) (zOf na xs))), .slice T k r] 24))
  have X1 := Lib.hid (X1.out.alloc (.cells #[.bool (nOf (qZ (zOf nb ys) (zOf na xs))), .slice T k r] 24))
  have X2 := Lib.hid (X2.out.alloc (.cells #[.bool (nOf (qZ (zOf nb ys) (zOf na xs))), .slice T k r] 24))
  have X3 := Lib.hid (X3.out.alloc (.cells #[.bool (nOf (qZ (zOf nb ys) (zOf na xs))), .slice T k r] 24))
  have S3 := Lib.hid (S3.out.alloc (.cells #[.bool (nOf (qZ (zOf nb ys) (zOf na xs))), .slice T k r] 24))
  have S4 := Lib.hid (S4.out.alloc (.cells #[.bool (nOf (qZ (zOf nb ys) (zOf na xs))), .slice T k r] 24))
  have X4 := Lib.hid (Bk.new 24 w1 #[.bool (nOf (qZ (zOf nb ys) (zOf na xs))), .slice T k r])
  have S1 := Lib.hid (S1.out.alloc (.cells #[.bool (nOf (rZ (zOf nb ys) (zOf na xs))), .slice U l s] 24))
  have S2 := Lib.hid (S2.out.alloc (.cells #[.bool (nOf (rZ (zOf nb ys) (zOf na xs))), .slice U l s] 24))
  have BW := Lib.hid (BW.out.alloc BW.out.size (.cells #[.bool (nOf (rZ (zOf nb ys) (zOf na xs))), .slice U l s] 24))
  have X1 := Lib.hid (X1.out.alloc (.cells #[.bool (nOf (rZ (zOf nb ys) (zOf na xs))), .slice U l s] 24))
  have X2 := Lib.hid (X2.out.alloc (.cells #[.bool (nOf (rZ (zOf nb ys) (zOf na xs))), .slice U l s] 24))
  have X3 := Lib.hid (X3.out.alloc (.cells #[.bool (nOf (rZ (zOf nb ys) (zOf na xs))), .slice U l s] 24))
  have S3 := Lib.hid (S3.out.alloc (.cells #[.bool (nOf (rZ (zOf nb ys) (zOf na xs))), .slice U l s] 24))
  have S4 := Lib.hid (S4.out.alloc (.cells #[.bool (nOf (rZ (zOf nb ys) (zOf na xs))), .slice U l s] 24))
  have X4 := Lib.hid (X4.out.alloc (.cells #[.bool (nOf (rZ (zOf nb ys) (zOf na xs))), .slice U l s] 24))
  have X5 := Lib.hid (Bk.new 24 (w1.alloc (.cells #[.bool (nOf (qZ (zOf nb ys) (zOf na xs))), .slice T k r] 24)) #[.bool (nOf (rZ (zOf nb ys) (zOf na xs))), .slice U l s])
  rw [alloc_sz] at X5
  generalize ((w1.alloc (.cells #[.bool (nOf (qZ (zOf nb ys) (zOf na xs))), .slice T k r] 24)).alloc (.cells #[.bool (nOf (rZ (zOf nb ys) (zOf na xs))), .slice U l s] 24)) = W1 at *
  have e0 : W1.cell? ⟨w1.heap.size, 0, none⟩ = some (.bool (nOf (qZ (zOf nb ys) (zOf na xs)))) := X4.out.c 0 rfl
  have e1 : W1.cell? ⟨w1.heap.size, 1, none⟩ = some (.slice T k r) := X4.out.c 1 rfl
  have e2 : W1.cell? ⟨w1.heap.size + 1, 0, none⟩ = some (.bool (nOf (rZ (zOf nb ys) (zOf na xs)))) := X5.out.c 0 rfl
  have e3 : W1.cell? ⟨w1.heap.size + 1, 1, none⟩ = some (.slice U l s) := X5.out.c 1 rfl
  have e4 : W1.cell? ⟨w.heap.size + 1 + 1, 0, none⟩ = some (.bool false) := X3.out.c 0 rfl
  have e5 : W1.cell? ⟨w.heap.size + 1 + 1, 1, none⟩ = some (.slice none 0 0) := X3.out.c 1 rfl
  have z6 := X3.out.fz 0
  have z7 := X3.out.fz 1
  go_wp2_with fail
  refine bodyPost_ret (v := .agg #[.bool (nOf (qZ (zOf nb ys) (zOf na xs))), .slice T k r]) (by simp [results, Tryz.results38, go_sem, *]) rfl ⟨T, k, r, rfl, S3.out.bk2 X3.out _ _, below_set2 BW.out (by omega) _ _⟩

theorem rest_any (na nb : Bool) (A B : Option Addr) (n c m d : Nat) (xs ys : List Int) (w : World) (ha : Sl w A n c xs) (hb : Sl w B m d ys) :
    Calls Tryz.prog 83 #[.agg #[.bool na, .slice A n c], .agg #[.bool nb, .slice B m d]] w fun e w' => ∃ T k r, e = .returned (.agg #[.bool (nOf (rZ (zOf nb ys) (zOf na xs))), .slice T k r]) ∧ Sl w' T k r (lOf (rZ (zOf nb ys) (zOf na xs))) ∧ Below w.heap.size w w' := by
  have S1 := Lib.hid ha
  have S2 := Lib.hid hb
  clear ha hb
  have BW := Lib.hid (Below.refl w.heap.size w)
  go_enter Tryz.func83, Tryz.ntmps83
  go_upto_region 1 with fail
  have S1 := Lib.hid (S1.out.alloc (.cells #[.bool na, .slice A n c] 45))
  have S2 := Lib.hid (S2.out.alloc (.cells #[.bool na, .slice A n c] 45))
  have BW := Lib.hid (BW.out.alloc BW.out.size (.cells #[.bool na, .slice A n c] 45))
  have X1 := Lib.hid (Bk.new 45 w #[.bool na, .slice A n c])
  have S1 := Lib.hid (S1.out.alloc (.cells #[.bool nb, .slice B m d] 24))
  have S2 := Lib.hid (S2.out.alloc (.cells #[.bool nb, .slice B m d] 24))
  have BW := Lib.hid (BW.out.alloc BW.out.size (.cells #[.bool nb, .slice B m d] 24))
  have X1 := Lib.hid (X1.out.alloc (.cells #[.bool nb, .slice B m d] 24))
  have X2 := Lib.hid (Bk.new 24 (w.alloc (.cells #[.bool na, .slice A n c] 45)) #[.bool nb, .slice B m d])
  rw [alloc_sz] at X2
  have S1 := Lib.hid (S1.out.alloc (.cells #[.bool false, .slice none 0 0] 24))
  have S2 := Lib.hid (S2.out.alloc (.cells #[.bool false, .slice none 0 0] 24))
  have BW := Lib.hid (BW.out.alloc BW.out.size (.cells #[.bool false, .slice none 0 0] 24))
  have X1 := Lib.hid (X1.out.alloc (.cells #[.bool false, .slice none 0 0] 24))
  have X2 := Lib.hid (X2.out.alloc (.cells #[.bool false, .slice none 0 0] 24))
  have X3 := Lib.hid (Bk.new 24 ((w.alloc (.cells #[.bool na, .slice A n c] 45)).alloc (.cells #[.bool nb, .slice B m d] 24)) #[.bool false, .slice none 0 0])
  rw [alloc_sz, alloc_sz] at X3
  generalize (((w.alloc (.cells #[.bool na, .slice A n c] 45)).alloc (.cells #[.bool nb, .slice B m d] 24)).alloc (.cells #[.bool false, .slice none 0 0] 24)) = W0 at *
  have e0 : W0.cell? ⟨w.heap.size, 0, none⟩ = some (.bool na) := X1.out.c 0 rfl
  have e1 : W0.cell? ⟨w.heap.size, 1, none⟩ = some (.slice A n c) := X1.out.c 1 rfl
  have e2 : W0.cell? ⟨w.heap.size + 1, 0, none⟩ = some (.bool nb) := X2.out.c 0 rfl
  have e3 : W0.cell? ⟨w.heap.size + 1, 1, none⟩ = some (.slice B m d) := X2.out.c 1 rfl
  go_wp2_with fail
  ((with_reducible refine (div_big nb na B A m d n c ys xs _ S2.out S1.out).mono ?_); rintro e w1 ⟨T, k, r, U, l, s, rfl, hs, hr, hb⟩)
  clear e0 e1 e2 e3
  have S1 := Lib.hid (S1.out.below hb)
  have S2 := Lib.hid (S2.out.below hb)
  have BW := Lib.hid (below_on BW.out hb)
  have X1 := Lib.hid (X1.out.below hb)
  have X2 := Lib.hid (X2.out.below hb)
  have X3 := Lib.hid (X3.out.below hb)
  clear hb
  have S3 := Lib.hid hs
  have S4 := Lib.hid hr
  clear hs hr
  have e0 : w1.cell? ⟨w.heap.size, 0, none⟩ = some (.bool na) := X1.out.c 0 rfl
  have e1 : w1.cell? ⟨w.heap.size, 1, none⟩ = some (.slice A n c) := X1.out.c 1 rfl
  have e2 : w1.cell? ⟨w.heap.size + 1, 0, none⟩ = some (.bool nb) := X2.out.c 0 rfl
  have e3 : w1.cell? ⟨w.heap.size + 1, 1, none⟩ = some (.slice B m d) := X2.out.c 1 rfl
  go_upto_region 2 with fail
  clear e0 e1 e2 e3
  have ln1 := X1.out.lt
  have ln2 := X2.out.lt
  have ln3 := X3.out.lt
  have S1 := Lib.hid (S1.out.alloc (.cells #[.bool (nOf (qZ (zOf nb ys) (zOf na xs))), .slice T k r] 24))
  have S2 := Lib.hid (S2.out.alloc (.cells #[.bool (nOf (qZ (zOf nb ys) (zOf na xs))), .slice T k r] 24))
  have BW := Lib.hid (BW.out.alloc BW.out.size (.cells #[.bool (nOf (qZ (zOf nb ys) (zOf na xs))), .slice T k r] 24))
  have X1 := Lib.hid (X1.out.alloc (.cells #[.bool (nOf (qZ (zOf nb ys) (zOf na xs))), .slice T k r] 24))
  have X2 := Lib.hid (X2.out.alloc (.cells #[.bool (nOf (qZ (zOf nb ys) (zOf na xs))), .slice T k r] 24))
  have X3 := Lib.hid (X3.out.alloc (.cells #[.bool (nOf (qZ (zOf nb ys) (zOf na xs))), .slice T k r] 24))
  have S3 := Lib.hid (S3.out.alloc (.cells #[.bool (nOf (qZ (zOf nb ys) (zOf na xs))), .slice T k r] 24))
  have S4 := Lib.hid (S4.out.alloc (.cells #[.bool (nOf (qZ (zOf nb ys) (zOf na xs))), .slice T k r] 24))
  have X4 := Lib.hid (Bk.new 24 w1 #[.bool (nOf (qZ (zOf nb ys) (zOf na xs))), .slice T k r])
  have S1 := Lib.hid (S1.out.alloc (.cells #[.bool (nOf (rZ (zOf nb ys) (zOf na xs))), .slice U l s] 24))
  have S2 := Lib.hid (S2.out.alloc (.cells #[.bool (nOf (rZ (zOf nb ys) (zOf na xs))), .slice U l s] 24))
  have BW := Lib.hid (BW.out.alloc BW.out.size (.cells #[.bool (nOf (rZ (zOf nb ys) (zOf na xs))), .slice U l s] 24))
  have X1 := Lib.hid (X1.out.alloc (.cells #[.bool (nOf (rZ (zOf nb ys) (zOf na xs))), .slice U l s] 24))
  have X2 := Lib.hid (X2.out.alloc (.cells #[.bool (nOf (rZ (zOf nb ys) (zOf na xs))), .slice U l s] 24))
  have X3 := Lib.hid (X3.out.alloc (.cells #[.bool (nOf (rZ (zOf nb ys) (zOf na xs))), .slice U l s] 24))
  have S3 := Lib.hid (S3.out.alloc (.cells #[.bool (nOf (rZ (zOf nb ys) (zOf na xs))), .slice U l s] 24))
  have S4 := Lib.hid (S4.out.alloc (.cells #[.bool (nOf (rZ (zOf nb ys) (zOf na xs))), .slice U l s] 24))
  have X4 := Lib.hid (X4.out.alloc (.cells #[.bool (nOf (rZ (zOf nb ys) (zOf na xs))), .slice U l s] 24))
  have X5 := Lib.hid (Bk.new 24 (w1.alloc (.cells #[.bool (nOf (qZ (zOf nb ys) (zOf na xs))), .slice T k r] 24)) #[.bool (nOf (rZ (zOf nb ys) (zOf na xs))), .slice U l s])
  rw [alloc_sz] at X5
  generalize ((w1.alloc (.cells #[.bool (nOf (qZ (zOf nb ys) (zOf na xs))), .slice T k r] 24)).alloc (.cells #[.bool (nOf (rZ (zOf nb ys) (zOf na xs))), .slice U l s] 24)) = W1 at *
  have e0 : W1.cell? ⟨w1.heap.size, 0, none⟩ = some (.bool (nOf (qZ (zOf nb ys) (zOf na xs)))) := X4.out.c 0 rfl
  have e1 : W1.cell? ⟨w1.heap.size, 1, none⟩ = some (.slice T k r) := X4.out.c 1 rfl
  have e2 : W1.cell? ⟨w1.heap.size + 1, 0, none⟩ = some (.bool (nOf (rZ (zOf nb ys) (zOf na xs)))) := X5.out.c 0 rfl
  have e3 : W1.cell? ⟨w1.heap.size + 1, 1, none⟩ = some (.slice U l s) := X5.out.c 1 rfl
  have e4 : W1.cell? ⟨w.heap.size + 1 + 1, 0, none⟩ = some (.bool false) := X3.out.c 0 rfl
  have e5 : W1.cell? ⟨w.heap.size + 1 + 1, 1, none⟩ = some (.slice none 0 0) := X3.out.c 1 rfl
  have z6 := X3.out.fz 0
  have z7 := X3.out.fz 1
  go_wp2_with fail
  refine bodyPost_ret (v := .agg #[.bool (nOf (rZ (zOf nb ys) (zOf na xs))), .slice U l s]) (by simp [results, Tryz.results83, go_sem, *]) rfl ⟨U, l, s, rfl, S4.out.bk2 X3.out _ _, below_set2 BW.out (by omega) _ _⟩

end Go.Proofs.YtfenmogbellhdaaGreatDoor
