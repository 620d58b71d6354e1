/-
  Contracts of the reference's Same (layer 3), and of the law's frac.
-/
import Derived.Test.YtfenmogbellhdaaGreatDoorRatX
import Derived.Test.YtfenmogbellhdaaGreatDoorRatE
namespace Go.Proofs.YtfenmogbellhdaaGreatDoor
open Go.RowKit

theorem sameb_z (p q : Int) (A B : Option Addr) (n c m d : Nat) (w : World) (ha : Sl w A n c (lOf p)) (hb : Sl w B m d (lOf q)) :
    Calls Tryz.prog 14 #[.agg #[.bool (nOf p), .slice A n c], .agg #[.bool (nOf q), .slice B m d]] w fun e w' => e = .returned (.bool (decide (p = q))) ∧ Below w.heap.size w w' := by
  have h := same3_any (nOf p) (nOf q) A B n c m d (lOf p) (lOf q) w ha hb
  rw [form_eq] at h
  exact h
set_option maxHeartbeats 1000000 in
theorem samer_z (p q p' q' : Int) (A1 B1 A2 B2 : Option Addr) (n1 c1 m1 d1 n2 c2 m2 d2 : Nat) (w : World) (ha : Sl w A1 n1 c1 (lOf p)) (hb : Sl w B1 m1 d1 (lOf q)) (hc : Sl w A2 n2 c2 (lOf p')) (hd : Sl w B2 m2 d2 (lOf q')) :
    Calls Tryz.prog 11 #[.agg #[.bool (nOf (p)), .slice A1 n1 c1, .bool (nOf (q)), .slice B1 m1 d1], .agg #[.bool (nOf (p')), .slice A2 n2 c2, .bool (nOf (q')), .slice B2 m2 d2]] w fun e w' => e = .returned (.bool (decide (p = p') && decide (q = q'))) ∧ Below w.heap.size w w' := by
  have S1 := Lib.hid ha
  have S2 := Lib.hid hb
  have S3 := Lib.hid hc
  have S4 := Lib.hid hd
  clear ha hb hc hd
  have BW := Lib.hid (Below.refl w.heap.size w)
  go_enter Tryz.func11, Tryz.ntmps11
  go_upto_region 1 with fail
  have S1 := Lib.hid (S1.out.alloc (.cells #[.bool (nOf (p)), .slice A1 n1 c1, .bool (nOf (q)), .slice B1 m1 d1] 26))
  have S2 := Lib.hid (S2.out.alloc (.cells #[.bool (nOf (p)), .slice A1 n1 c1, .bool (nOf (q)), .slice B1 m1 d1] 26))
  have S3 := Lib.hid (S3.out.alloc (.cells #[.bool (nOf (p)), .slice A1 n1 c1, .bool (nOf (q)), .slice B1 m1 d1] 26))
  have S4 := Lib.hid (S4.out.alloc (.cells #[.bool (nOf (p)), .slice A1 n1 c1, .bool (nOf (q)), .slice B1 m1 d1] 26))
  have BW := Lib.hid (BW.out.alloc BW.out.size (.cells #[.bool (nOf (p)), .slice A1 n1 c1, .bool (nOf (q)), .slice B1 m1 d1] 26))
  have X1 := Lib.hid (Bk.new 26 w #[.bool (nOf (p)), .slice A1 n1 c1, .bool (nOf (q)), .slice B1 m1 d1])
  have S1 := Lib.hid (S1.out.alloc (.cells #[.bool (nOf (p')), .slice A2 n2 c2, .bool (nOf (q')), .slice B2 m2 d2] 26))
  have S2 := Lib.hid (S2.out.alloc (.cells #[.bool (nOf (p')), .slice A2 n2 c2, .bool (nOf (q')), .slice B2 m2 d2] 26))
  have S3 := Lib.hid (S3.out.alloc (.cells #[.bool (nOf (p')), .slice A2 n2 c2, .bool (nOf (q')), .slice B2 m2 d2] 26))
  have S4 := Lib.hid (S4.out.alloc (.cells #[.bool (nOf (p')), .slice A2 n2 c2, .bool (nOf (q')), .slice B2 m2 d2] 26))
  have BW := Lib.hid (BW.out.alloc BW.out.size (.cells #[.bool (nOf (p')), .slice A2 n2 c2, .bool (nOf (q')), .slice B2 m2 d2] 26))
  have X1 := Lib.hid (X1.out.alloc (.cells #[.bool (nOf (p')), .slice A2 n2 c2, .bool (nOf (q')), .slice B2 m2 d2] 26))
  have X2 := Lib.hid (Bk.new 26 (w.alloc (.cells #[.bool (nOf (p)), .slice A1 n1 c1, .bool (nOf (q)), .slice B1 m1 d1] 26)) #[.bool (nOf (p')), .slice A2 n2 c2, .bool (nOf (q')), .slice B2 m2 d2])
  rw [alloc_sz] at X2
  generalize ((w.alloc (.cells #[.bool (nOf (p)), .slice A1 n1 c1, .bool (nOf (q)), .slice B1 m1 d1] 26)).alloc (.cells #[.bool (nOf (p')), .slice A2 n2 c2, .bool (nOf (q')), .slice B2 m2 d2] 26)) = W0 at *
  by_cases h1 : p = p'
  · have E1 := Lib.hid (decide_eq_true h1)
    clear h1
    have e0 : W0.cell? ⟨w.heap.size, 0, none⟩ = some (.bool (nOf (p))) := X1.out.c 0 rfl
    have e1 : W0.cell? ⟨w.heap.size, 1, none⟩ = some (.slice A1 n1 c1) := X1.out.c 1 rfl
    have e2 : W0.cell? ⟨w.heap.size, 2, none⟩ = some (.bool (nOf (q))) := X1.out.c 2 rfl
    have e3 : W0.cell? ⟨w.heap.size, 3, none⟩ = some (.slice B1 m1 d1) := X1.out.c 3 rfl
    have e4 : W0.cell? ⟨w.heap.size + 1, 0, none⟩ = some (.bool (nOf (p'))) := X2.out.c 0 rfl
    have e5 : W0.cell? ⟨w.heap.size + 1, 1, none⟩ = some (.slice A2 n2 c2) := X2.out.c 1 rfl
    have e6 : W0.cell? ⟨w.heap.size + 1, 2, none⟩ = some (.bool (nOf (q'))) := X2.out.c 2 rfl
    have e7 : W0.cell? ⟨w.heap.size + 1, 3, none⟩ = some (.slice B2 m2 d2) := X2.out.c 3 rfl
    go_wp2_with fail
    ((with_reducible refine (sameb_z p p' A1 A2 n1 c1 n2 c2 _ S1.out S3.out).mono ?_); rintro e w3 ⟨rfl, hb⟩)
    rw [E1.out]
    clear e0 e1 e2 e3 e4 e5 e6 e7
    have S1 := Lib.hid (S1.out.below hb)
    have S2 := Lib.hid (S2.out.below hb)
    have S3 := Lib.hid (S3.out.below hb)
    have S4 := Lib.hid (S4.out.below hb)
    have BW := Lib.hid (below_on BW.out hb)
    have X1 := Lib.hid (X1.out.below hb)
    have X2 := Lib.hid (X2.out.below hb)
    clear hb
    have e0 : w3.cell? ⟨w.heap.size, 0, none⟩ = some (.bool (nOf (p))) := X1.out.c 0 rfl
    have e1 : w3.cell? ⟨w.heap.size, 1, none⟩ = some (.slice A1 n1 c1) := X1.out.c 1 rfl
    have e2 : w3.cell? ⟨w.heap.size, 2, none⟩ = some (.bool (nOf (q))) := X1.out.c 2 rfl
    have e3 : w3.cell? ⟨w.heap.size, 3, none⟩ = some (.slice B1 m1 d1) := X1.out.c 3 rfl
    have e4 : w3.cell? ⟨w.heap.size + 1, 0, none⟩ = some (.bool (nOf (p'))) := X2.out.c 0 rfl
    have e5 : w3.cell? ⟨w.heap.size + 1, 1, none⟩ = some (.slice A2 n2 c2) := X2.out.c 1 rfl
    have e6 : w3.cell? ⟨w.heap.size + 1, 2, none⟩ = some (.bool (nOf (q'))) := X2.out.c 2 rfl
    have e7 : w3.cell? ⟨w.heap.size + 1, 3, none⟩ = some (.slice B2 m2 d2) := X2.out.c 3 rfl
    go_wp2_with fail
    ((with_reducible refine (sameb_z q q' B1 B2 m1 d1 m2 d2 _ S2.out S4.out).mono ?_); rintro e w4 ⟨rfl, hb⟩)
    clear e0 e1 e2 e3 e4 e5 e6 e7
    have S1 := Lib.hid (S1.out.below hb)
    have S2 := Lib.hid (S2.out.below hb)
    have S3 := Lib.hid (S3.out.below hb)
    have S4 := Lib.hid (S4.out.below hb)
    have BW := Lib.hid (below_on BW.out hb)
    have X1 := Lib.hid (X1.out.below hb)
    have X2 := Lib.hid (X2.out.below hb)
    clear hb
    go_wp2_with fail
    go_ret
    exact ⟨ret_bool (by rw [E1.out]; simp), BW.out⟩
  · have E1 := Lib.hid (decide_eq_false h1)
    clear h1
    have e0 : W0.cell? ⟨w.heap.size, 0, none⟩ = some (.bool (nOf (p))) := X1.out.c 0 rfl
    have e1 : W0.cell? ⟨w.heap.size, 1, none⟩ = some (.slice A1 n1 c1) := X1.out.c 1 rfl
    have e2 : W0.cell? ⟨w.heap.size, 2, none⟩ = some (.bool (nOf (q))) := X1.out.c 2 rfl
    have e3 : W0.cell? ⟨w.heap.size, 3, none⟩ = some (.slice B1 m1 d1) := X1.out.c 3 rfl
    have e4 : W0.cell? ⟨w.heap.size + 1, 0, none⟩ = some (.bool (nOf (p'))) := X2.out.c 0 rfl
    have e5 : W0.cell? ⟨w.heap.size + 1, 1, none⟩ = some (.slice A2 n2 c2) := X2.out.c 1 rfl
    have e6 : W0.cell? ⟨w.heap.size + 1, 2, none⟩ = some (.bool (nOf (q'))) := X2.out.c 2 rfl
    have e7 : W0.cell? ⟨w.heap.size + 1, 3, none⟩ = some (.slice B2 m2 d2) := X2.out.c 3 rfl
    go_wp2_with fail
    ((with_reducible refine (sameb_z p p' A1 A2 n1 c1 n2 c2 _ S1.out S3.out).mono ?_); rintro e w3 ⟨rfl, hb⟩)
    rw [E1.out]
    clear e0 e1 e2 e3 e4 e5 e6 e7
    have S1 := Lib.hid (S1.out.below hb)
    have S2 := Lib.hid (S2.out.below hb)
    have S3 := Lib.hid (S3.out.below hb)
    have S4 := Lib.hid (S4.out.below hb)
    have BW := Lib.hid (below_on BW.out hb)
    have X1 := Lib.hid (X1.out.below hb)
    have X2 := Lib.hid (X2.out.below hb)
    clear hb
    have e0 : w3.cell? ⟨w.heap.size, 0, none⟩ = some (.bool (nOf (p))) := X1.out.c 0 rfl
    have e1 : w3.cell? ⟨w.heap.size, 1, none⟩ = some (.slice A1 n1 c1) := X1.out.c 1 rfl
    have e2 : w3.cell? ⟨w.heap.size, 2, none⟩ = some (.bool (nOf (q))) := X1.out.c 2 rfl
    have e3 : w3.cell? ⟨w.heap.size, 3, none⟩ = some (.slice B1 m1 d1) := X1.out.c 3 rfl
    have e4 : w3.cell? ⟨w.heap.size + 1, 0, none⟩ = some (.bool (nOf (p'))) := X2.out.c 0 rfl
    have e5 : w3.cell? ⟨w.heap.size + 1, 1, none⟩ = some (.slice A2 n2 c2) := X2.out.c 1 rfl
    have e6 : w3.cell? ⟨w.heap.size + 1, 2, none⟩ = some (.bool (nOf (q'))) := X2.out.c 2 rfl
    have e7 : w3.cell? ⟨w.heap.size + 1, 3, none⟩ = some (.slice B2 m2 d2) := X2.out.c 3 rfl
    go_wp2_with fail
    go_ret
    exact ⟨ret_bool (by rw [E1.out]; rfl), BW.out⟩
theorem samer_ok (p q p' q' : Int) (A1 B1 A2 B2 : Option Addr) (n1 c1 m1 d1 n2 c2 m2 d2 : Nat) (w : World) (ha : Sl w A1 n1 c1 (lOf p)) (hb : Sl w B1 m1 d1 (lOf q)) (hc : Sl w A2 n2 c2 (lOf p')) (hd : Sl w B2 m2 d2 (lOf q')) (h1 : p = p') (h2 : q = q') :
    Calls Tryz.prog 11 #[.agg #[.bool (nOf (p)), .slice A1 n1 c1, .bool (nOf (q)), .slice B1 m1 d1], .agg #[.bool (nOf (p')), .slice A2 n2 c2, .bool (nOf (q')), .slice B2 m2 d2]] w fun e w' => e = .returned (.bool true) ∧ Below w.heap.size w w' := by
  have h := samer_z p q p' q' A1 B1 A2 B2 n1 c1 m1 d1 n2 c2 m2 d2 w ha hb hc hd
  rw [decide_eq_true h1, decide_eq_true h2] at h
  exact h
theorem sameb_ok (p q : Int) (A B : Option Addr) (n c m d : Nat) (w : World) (ha : Sl w A n c (lOf p)) (hb : Sl w B m d (lOf q)) (h1 : p = q) :
    Calls Tryz.prog 14 #[.agg #[.bool (nOf p), .slice A n c], .agg #[.bool (nOf q), .slice B m d]] w fun e w' => e = .returned (.bool true) ∧ Below w.heap.size w w' := by
  have h := sameb_z p q A B n c m d w ha hb
  rw [decide_eq_true h1] at h
  exact h
theorem lfrac_any (p q : Int) (w : World) (h1 : -9223372036854775808 ≤ p) (h2 : p ≤ 9223372036854775807) (h3 : -9223372036854775808 ≤ q) (h4 : q ≤ 9223372036854775807) :
    Calls Tryz.prog 24 #[.int .i64 p, .int .i64 q] w fun e w' => ∃ T k r U l s, e = .returned (.agg #[.bool (nOf (p)), .slice T k r, .bool (nOf (q)), .slice U l s]) ∧ Sl w' T k r (lOf (p)) ∧ Sl w' U l s (lOf (q)) ∧ Below w.heap.size w w' := by
  have BW := Lib.hid (Below.refl w.heap.size w)
  go_enter Tryz.func24, Tryz.ntmps24
  go_upto_region 1 with fail
  have BW := Lib.hid (BW.out.alloc BW.out.size (.cells #[.bool false, .slice none 0 0, .bool false, .slice none 0 0] 26))
  have X1 := Lib.hid (Bk.new 26 w #[.bool false, .slice none 0 0, .bool false, .slice none 0 0])
  generalize (w.alloc (.cells #[.bool false, .slice none 0 0, .bool false, .slice none 0 0] 26)) = W0 at *
  go_wp2_with fail
  ((with_reducible refine (of_any p _ h1 h2).mono ?_); rintro e w1 ⟨T, k, r, rfl, hs, hb⟩)
  have BW := Lib.hid (below_on BW.out hb)
  have X1 := Lib.hid (X1.out.below hb)
  clear hb
  have S1 := Lib.hid hs
  clear hs
  go_wp2_with fail
  ((with_reducible refine (of_any q _ h3 h4).mono ?_); rintro e w2 ⟨U, l, s, rfl, hs, hb⟩)
  have BW := Lib.hid (below_on BW.out hb)
  have X1 := Lib.hid (X1.out.below hb)
  have S1 := Lib.hid (S1.out.below hb)
  clear hb
  have S2 := Lib.hid hs
  clear hs
  have e0 : w2.cell? ⟨w.heap.size, 0, none⟩ = some (.bool false) := X1.out.c 0 rfl
  have e1 : w2.cell? ⟨w.heap.size, 1, none⟩ = some (.slice none 0 0) := X1.out.c 1 rfl
  have e2 : w2.cell? ⟨w.heap.size, 2, none⟩ = some (.bool false) := X1.out.c 2 rfl
  have e3 : w2.cell? ⟨w.heap.size, 3, none⟩ = some (.slice none 0 0) := X1.out.c 3 rfl
  have z4 := X1.out.fz 0
  have z5 := X1.out.fz 1
  have z6 := X1.out.fz 2
  have z7 := X1.out.fz 3
  go_wp2_with fail
  refine bodyPost_ret (v := .agg #[.bool (nOf (p)), .slice T k r, .bool (nOf (q)), .slice U l s]) (by simp [results, Tryz.results24, go_sem, *]) rfl ⟨T, k, r, U, l, s, rfl, S1.out.bk4 X1.out _ _ _ _, S2.out.bk4 X1.out _ _ _ _, below_set4 BW.out (by omega) _ _ _ _⟩
end Go.Proofs.YtfenmogbellhdaaGreatDoor
