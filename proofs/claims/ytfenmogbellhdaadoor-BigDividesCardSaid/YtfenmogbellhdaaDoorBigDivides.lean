/-
  THE STATEMENT BigDivides IS PROVED: for every two numbers (the listed library tables holding what the program's text lays, tied by the card), the law returns true and its arguments read as before.
-/
import Derived.Test.YtfenmogbellhdaaDoorCards
import Derived.Test.YtfenmogbellhdaaDoorTie
import Derived.Test.YtfenmogbellhdaaDoorBigLaid
import Derived.Test.YtfenmogbellhdaaDoorR2F
namespace Go.Proofs.YtfenmogbellhdaaDoor.bigDivides
open Go.ChangeShapes Go.WideShapes Go.ChangeAt Go.RowKit
open Go.ChangeMaps (open_string shut_string)


set_option maxRecDepth 100000 in
set_option maxHeartbeats 8000000 in
theorem walk (s1 s2 : Bool) (A1 A2 : Option Addr) (n1 c1 n2 c2 : Nat) (x1 x2 : List Int) (w : World) (h1 : Sl w A1 n1 c1 x1) (h2 : Sl w A2 n2 c2 x2) (htab : Tab w) :
    Calls Tryd.prog 9 #[.agg #[.bool s1, .slice A1 n1 c1], .agg #[.bool s2, .slice A2 n2 c2]] w fun e w' => e = .returned (.bool true) ∧ Below w.heap.size w w' := by
  have S1 := Lib.hid h1
  have S2 := Lib.hid h2
  have TB := Lib.hid htab
  clear h1 h2 htab
  by_cases g1 : 20 < n1
  · have b1 : decide ((20 : Int) < (n1 : Int)) = true := decide_eq_true (by omega)
    have BW := Lib.hid (Below.refl w.heap.size w)
    go_enter Tryd.func9, Tryd.ntmps9
    go_upto_region 1 with fail
    have S1 := Lib.hid (S1.out.alloc (.cells #[.bool s1, .slice A1 n1 c1] 35))
    have S2 := Lib.hid (S2.out.alloc (.cells #[.bool s1, .slice A1 n1 c1] 35))
    have TB := Lib.hid (tab_on TB.out ((Below.refl _ _).alloc (Nat.le_refl _) (.cells #[.bool s1, .slice A1 n1 c1] 35)))
    have BW := Lib.hid (BW.out.alloc BW.out.size (.cells #[.bool s1, .slice A1 n1 c1] 35))
    have X1 := Lib.hid (Bk.new 35 w #[.bool s1, .slice A1 n1 c1])
    have S1 := Lib.hid (S1.out.alloc (.cells #[.bool s2, .slice A2 n2 c2] 35))
    have S2 := Lib.hid (S2.out.alloc (.cells #[.bool s2, .slice A2 n2 c2] 35))
    have TB := Lib.hid (tab_on TB.out ((Below.refl _ _).alloc (Nat.le_refl _) (.cells #[.bool s2, .slice A2 n2 c2] 35)))
    have BW := Lib.hid (BW.out.alloc BW.out.size (.cells #[.bool s2, .slice A2 n2 c2] 35))
    have X1 := Lib.hid (X1.out.alloc (.cells #[.bool s2, .slice A2 n2 c2] 35))
    have X2 := Lib.hid (Bk.new 35 (w.alloc (.cells #[.bool s1, .slice A1 n1 c1] 35)) #[.bool s2, .slice A2 n2 c2])
    rw [alloc_sz] at X2
    generalize ((w.alloc (.cells #[.bool s1, .slice A1 n1 c1] 35)).alloc (.cells #[.bool s2, .slice A2 n2 c2] 35)) = W0 at *
    have e0 : W0.cell? ⟨w.heap.size, 0, none⟩ = some (.bool s1) := X1.out.c 0 rfl
    have e1 : W0.cell? ⟨w.heap.size, 1, none⟩ = some (.slice A1 n1 c1) := X1.out.c 1 rfl
    have e2 : W0.cell? ⟨w.heap.size + 1, 0, none⟩ = some (.bool s2) := X2.out.c 0 rfl
    have e3 : W0.cell? ⟨w.heap.size + 1, 1, none⟩ = some (.slice A2 n2 c2) := X2.out.c 1 rfl
    go_wp2_with fail
    ((with_reducible refine (long_any s1 A1 n1 c1 20 _).mono ?_); rintro e v1 ⟨rfl, hb⟩)
    rw [b1]
    clear e0 e1 e2 e3
    have S1 := Lib.hid (S1.out.below hb)
    have S2 := Lib.hid (S2.out.below hb)
    have TB := Lib.hid (tab_on TB.out hb)
    have BW := Lib.hid (below_on BW.out hb)
    have X1 := Lib.hid (X1.out.below hb)
    have X2 := Lib.hid (X2.out.below hb)
    clear hb
    have e0 : v1.cell? ⟨w.heap.size, 0, none⟩ = some (.bool s1) := X1.out.c 0 rfl
    have e1 : v1.cell? ⟨w.heap.size, 1, none⟩ = some (.slice A1 n1 c1) := X1.out.c 1 rfl
    have e2 : v1.cell? ⟨w.heap.size + 1, 0, none⟩ = some (.bool s2) := X2.out.c 0 rfl
    have e3 : v1.cell? ⟨w.heap.size + 1, 1, none⟩ = some (.slice A2 n2 c2) := X2.out.c 1 rfl
    go_wp2_with fail
    ((with_reducible refine (awake_any _ TB.out).mono ?_); rintro e v9 ⟨rfl, hb⟩)
    clear e0 e1 e2 e3
    have S1 := Lib.hid (S1.out.below hb)
    have S2 := Lib.hid (S2.out.below hb)
    have TB := Lib.hid (tab_on TB.out hb)
    have BW := Lib.hid (below_on BW.out hb)
    have X1 := Lib.hid (X1.out.below hb)
    have X2 := Lib.hid (X2.out.below hb)
    clear hb
    go_wp2_with fail
    go_ret
    exact ⟨rfl, BW.out⟩
  · by_cases g2 : 20 < n2
    · have b1 : decide ((20 : Int) < (n1 : Int)) = false := decide_eq_false (by omega)
      have b2 : decide ((20 : Int) < (n2 : Int)) = true := decide_eq_true (by omega)
      have BW := Lib.hid (Below.refl w.heap.size w)
      go_enter Tryd.func9, Tryd.ntmps9
      go_upto_region 1 with fail
      have S1 := Lib.hid (S1.out.alloc (.cells #[.bool s1, .slice A1 n1 c1] 35))
      have S2 := Lib.hid (S2.out.alloc (.cells #[.bool s1, .slice A1 n1 c1] 35))
      have TB := Lib.hid (tab_on TB.out ((Below.refl _ _).alloc (Nat.le_refl _) (.cells #[.bool s1, .slice A1 n1 c1] 35)))
      have BW := Lib.hid (BW.out.alloc BW.out.size (.cells #[.bool s1, .slice A1 n1 c1] 35))
      have X1 := Lib.hid (Bk.new 35 w #[.bool s1, .slice A1 n1 c1])
      have S1 := Lib.hid (S1.out.alloc (.cells #[.bool s2, .slice A2 n2 c2] 35))
      have S2 := Lib.hid (S2.out.alloc (.cells #[.bool s2, .slice A2 n2 c2] 35))
      have TB := Lib.hid (tab_on TB.out ((Below.refl _ _).alloc (Nat.le_refl _) (.cells #[.bool s2, .slice A2 n2 c2] 35)))
      have BW := Lib.hid (BW.out.alloc BW.out.size (.cells #[.bool s2, .slice A2 n2 c2] 35))
      have X1 := Lib.hid (X1.out.alloc (.cells #[.bool s2, .slice A2 n2 c2] 35))
      have X2 := Lib.hid (Bk.new 35 (w.alloc (.cells #[.bool s1, .slice A1 n1 c1] 35)) #[.bool s2, .slice A2 n2 c2])
      rw [alloc_sz] at X2
      generalize ((w.alloc (.cells #[.bool s1, .slice A1 n1 c1] 35)).alloc (.cells #[.bool s2, .slice A2 n2 c2] 35)) = W0 at *
      have e0 : W0.cell? ⟨w.heap.size, 0, none⟩ = some (.bool s1) := X1.out.c 0 rfl
      have e1 : W0.cell? ⟨w.heap.size, 1, none⟩ = some (.slice A1 n1 c1) := X1.out.c 1 rfl
      have e2 : W0.cell? ⟨w.heap.size + 1, 0, none⟩ = some (.bool s2) := X2.out.c 0 rfl
      have e3 : W0.cell? ⟨w.heap.size + 1, 1, none⟩ = some (.slice A2 n2 c2) := X2.out.c 1 rfl
      go_wp2_with fail
      ((with_reducible refine (long_any s1 A1 n1 c1 20 _).mono ?_); rintro e v1 ⟨rfl, hb⟩)
      rw [b1]
      clear e0 e1 e2 e3
      have S1 := Lib.hid (S1.out.below hb)
      have S2 := Lib.hid (S2.out.below hb)
      have TB := Lib.hid (tab_on TB.out hb)
      have BW := Lib.hid (below_on BW.out hb)
      have X1 := Lib.hid (X1.out.below hb)
      have X2 := Lib.hid (X2.out.below hb)
      clear hb
      have e0 : v1.cell? ⟨w.heap.size, 0, none⟩ = some (.bool s1) := X1.out.c 0 rfl
      have e1 : v1.cell? ⟨w.heap.size, 1, none⟩ = some (.slice A1 n1 c1) := X1.out.c 1 rfl
      have e2 : v1.cell? ⟨w.heap.size + 1, 0, none⟩ = some (.bool s2) := X2.out.c 0 rfl
      have e3 : v1.cell? ⟨w.heap.size + 1, 1, none⟩ = some (.slice A2 n2 c2) := X2.out.c 1 rfl
      go_wp2_with fail
      ((with_reducible refine (long_any s2 A2 n2 c2 20 _).mono ?_); rintro e v2 ⟨rfl, hb⟩)
      rw [b2]
      clear e0 e1 e2 e3
      have S1 := Lib.hid (S1.out.below hb)
      have S2 := Lib.hid (S2.out.below hb)
      have TB := Lib.hid (tab_on TB.out hb)
      have BW := Lib.hid (below_on BW.out hb)
      have X1 := Lib.hid (X1.out.below hb)
      have X2 := Lib.hid (X2.out.below hb)
      clear hb
      have e0 : v2.cell? ⟨w.heap.size, 0, none⟩ = some (.bool s1) := X1.out.c 0 rfl
      have e1 : v2.cell? ⟨w.heap.size, 1, none⟩ = some (.slice A1 n1 c1) := X1.out.c 1 rfl
      have e2 : v2.cell? ⟨w.heap.size + 1, 0, none⟩ = some (.bool s2) := X2.out.c 0 rfl
      have e3 : v2.cell? ⟨w.heap.size + 1, 1, none⟩ = some (.slice A2 n2 c2) := X2.out.c 1 rfl
      go_wp2_with fail
      ((with_reducible refine (awake_any _ TB.out).mono ?_); rintro e v9 ⟨rfl, hb⟩)
      clear e0 e1 e2 e3
      have S1 := Lib.hid (S1.out.below hb)
      have S2 := Lib.hid (S2.out.below hb)
      have TB := Lib.hid (tab_on TB.out hb)
      have BW := Lib.hid (below_on BW.out hb)
      have X1 := Lib.hid (X1.out.below hb)
      have X2 := Lib.hid (X2.out.below hb)
      clear hb
      go_wp2_with fail
      go_ret
      exact ⟨rfl, BW.out⟩
    · have b1 : decide ((20 : Int) < (n1 : Int)) = false := decide_eq_false (by omega)
      have b2 : decide ((20 : Int) < (n2 : Int)) = false := decide_eq_false (by omega)
      have BW := Lib.hid (Below.refl w.heap.size w)
      go_enter Tryd.func9, Tryd.ntmps9
      go_upto_region 1 with fail
      have S1 := Lib.hid (S1.out.alloc (.cells #[.bool s1, .slice A1 n1 c1] 35))
      have S2 := Lib.hid (S2.out.alloc (.cells #[.bool s1, .slice A1 n1 c1] 35))
      have TB := Lib.hid (tab_on TB.out ((Below.refl _ _).alloc (Nat.le_refl _) (.cells #[.bool s1, .slice A1 n1 c1] 35)))
      have BW := Lib.hid (BW.out.alloc BW.out.size (.cells #[.bool s1, .slice A1 n1 c1] 35))
      have X1 := Lib.hid (Bk.new 35 w #[.bool s1, .slice A1 n1 c1])
      have S1 := Lib.hid (S1.out.alloc (.cells #[.bool s2, .slice A2 n2 c2] 35))
      have S2 := Lib.hid (S2.out.alloc (.cells #[.bool s2, .slice A2 n2 c2] 35))
      have TB := Lib.hid (tab_on TB.out ((Below.refl _ _).alloc (Nat.le_refl _) (.cells #[.bool s2, .slice A2 n2 c2] 35)))
      have BW := Lib.hid (BW.out.alloc BW.out.size (.cells #[.bool s2, .slice A2 n2 c2] 35))
      have X1 := Lib.hid (X1.out.alloc (.cells #[.bool s2, .slice A2 n2 c2] 35))
      have X2 := Lib.hid (Bk.new 35 (w.alloc (.cells #[.bool s1, .slice A1 n1 c1] 35)) #[.bool s2, .slice A2 n2 c2])
      rw [alloc_sz] at X2
      generalize ((w.alloc (.cells #[.bool s1, .slice A1 n1 c1] 35)).alloc (.cells #[.bool s2, .slice A2 n2 c2] 35)) = W0 at *
      have e0 : W0.cell? ⟨w.heap.size, 0, none⟩ = some (.bool s1) := X1.out.c 0 rfl
      have e1 : W0.cell? ⟨w.heap.size, 1, none⟩ = some (.slice A1 n1 c1) := X1.out.c 1 rfl
      have e2 : W0.cell? ⟨w.heap.size + 1, 0, none⟩ = some (.bool s2) := X2.out.c 0 rfl
      have e3 : W0.cell? ⟨w.heap.size + 1, 1, none⟩ = some (.slice A2 n2 c2) := X2.out.c 1 rfl
      go_wp2_with fail
      ((with_reducible refine (long_any s1 A1 n1 c1 20 _).mono ?_); rintro e v1 ⟨rfl, hb⟩)
      rw [b1]
      clear e0 e1 e2 e3
      have S1 := Lib.hid (S1.out.below hb)
      have S2 := Lib.hid (S2.out.below hb)
      have TB := Lib.hid (tab_on TB.out hb)
      have BW := Lib.hid (below_on BW.out hb)
      have X1 := Lib.hid (X1.out.below hb)
      have X2 := Lib.hid (X2.out.below hb)
      clear hb
      have e0 : v1.cell? ⟨w.heap.size, 0, none⟩ = some (.bool s1) := X1.out.c 0 rfl
      have e1 : v1.cell? ⟨w.heap.size, 1, none⟩ = some (.slice A1 n1 c1) := X1.out.c 1 rfl
      have e2 : v1.cell? ⟨w.heap.size + 1, 0, none⟩ = some (.bool s2) := X2.out.c 0 rfl
      have e3 : v1.cell? ⟨w.heap.size + 1, 1, none⟩ = some (.slice A2 n2 c2) := X2.out.c 1 rfl
      go_wp2_with fail
      ((with_reducible refine (long_any s2 A2 n2 c2 20 _).mono ?_); rintro e v2 ⟨rfl, hb⟩)
      rw [b2]
      clear e0 e1 e2 e3
      have S1 := Lib.hid (S1.out.below hb)
      have S2 := Lib.hid (S2.out.below hb)
      have TB := Lib.hid (tab_on TB.out hb)
      have BW := Lib.hid (below_on BW.out hb)
      have X1 := Lib.hid (X1.out.below hb)
      have X2 := Lib.hid (X2.out.below hb)
      clear hb
      have e0 : v2.cell? ⟨w.heap.size, 0, none⟩ = some (.bool s1) := X1.out.c 0 rfl
      have e1 : v2.cell? ⟨w.heap.size, 1, none⟩ = some (.slice A1 n1 c1) := X1.out.c 1 rfl
      have e2 : v2.cell? ⟨w.heap.size + 1, 0, none⟩ = some (.bool s2) := X2.out.c 0 rfl
      have e3 : v2.cell? ⟨w.heap.size + 1, 1, none⟩ = some (.slice A2 n2 c2) := X2.out.c 1 rfl
      go_wp2_with fail
      ((with_reducible refine (div_big s1 s2 A1 A2 n1 c1 n2 c2 x1 x2 _ S1.out S2.out).mono ?_); rintro e u1 ⟨T1, k1, r1, U1, l1, j1, rfl, hs, ht, hb⟩)
      clear e0 e1 e2 e3
      have S1 := Lib.hid (S1.out.below hb)
      have S2 := Lib.hid (S2.out.below hb)
      have TB := Lib.hid (tab_on TB.out hb)
      have BW := Lib.hid (below_on BW.out hb)
      have X1 := Lib.hid (X1.out.below hb)
      have X2 := Lib.hid (X2.out.below hb)
      clear hb
      have Q1 := Lib.hid hs
      have R1 := Lib.hid ht
      clear hs ht
      have e0 : u1.cell? ⟨w.heap.size, 0, none⟩ = some (.bool s1) := X1.out.c 0 rfl
      have e1 : u1.cell? ⟨w.heap.size, 1, none⟩ = some (.slice A1 n1 c1) := X1.out.c 1 rfl
      have e2 : u1.cell? ⟨w.heap.size + 1, 0, none⟩ = some (.bool s2) := X2.out.c 0 rfl
      have e3 : u1.cell? ⟨w.heap.size + 1, 1, none⟩ = some (.slice A2 n2 c2) := X2.out.c 1 rfl
      go_upto_region 4 with fail
      clear e0 e1 e2 e3
      have ln1 := X1.out.lt
      have ln2 := X2.out.lt
      have S1 := Lib.hid (S1.out.alloc (.cells #[.bool (nOf (qZ (zOf s1 x1) (zOf s2 x2))), .slice T1 k1 r1] 35))
      have S2 := Lib.hid (S2.out.alloc (.cells #[.bool (nOf (qZ (zOf s1 x1) (zOf s2 x2))), .slice T1 k1 r1] 35))
      have TB := Lib.hid (tab_on TB.out ((Below.refl _ _).alloc (Nat.le_refl _) (.cells #[.bool (nOf (qZ (zOf s1 x1) (zOf s2 x2))), .slice T1 k1 r1] 35)))
      have BW := Lib.hid (BW.out.alloc BW.out.size (.cells #[.bool (nOf (qZ (zOf s1 x1) (zOf s2 x2))), .slice T1 k1 r1] 35))
      have X1 := Lib.hid (X1.out.alloc (.cells #[.bool (nOf (qZ (zOf s1 x1) (zOf s2 x2))), .slice T1 k1 r1] 35))
      have X2 := Lib.hid (X2.out.alloc (.cells #[.bool (nOf (qZ (zOf s1 x1) (zOf s2 x2))), .slice T1 k1 r1] 35))
      have Q1 := Lib.hid (Q1.out.alloc (.cells #[.bool (nOf (qZ (zOf s1 x1) (zOf s2 x2))), .slice T1 k1 r1] 35))
      have R1 := Lib.hid (R1.out.alloc (.cells #[.bool (nOf (qZ (zOf s1 x1) (zOf s2 x2))), .slice T1 k1 r1] 35))
      have Y1 := Lib.hid (Bk.new 35 u1 #[.bool (nOf (qZ (zOf s1 x1) (zOf s2 x2))), .slice T1 k1 r1])
      have S1 := Lib.hid (S1.out.alloc (.cells #[.bool (nOf (rZ (zOf s1 x1) (zOf s2 x2))), .slice U1 l1 j1] 35))
      have S2 := Lib.hid (S2.out.alloc (.cells #[.bool (nOf (rZ (zOf s1 x1) (zOf s2 x2))), .slice U1 l1 j1] 35))
      have TB := Lib.hid (tab_on TB.out ((Below.refl _ _).alloc (Nat.le_refl _) (.cells #[.bool (nOf (rZ (zOf s1 x1) (zOf s2 x2))), .slice U1 l1 j1] 35)))
      have BW := Lib.hid (BW.out.alloc BW.out.size (.cells #[.bool (nOf (rZ (zOf s1 x1) (zOf s2 x2))), .slice U1 l1 j1] 35))
      have X1 := Lib.hid (X1.out.alloc (.cells #[.bool (nOf (rZ (zOf s1 x1) (zOf s2 x2))), .slice U1 l1 j1] 35))
      have X2 := Lib.hid (X2.out.alloc (.cells #[.bool (nOf (rZ (zOf s1 x1) (zOf s2 x2))), .slice U1 l1 j1] 35))
      have Q1 := Lib.hid (Q1.out.alloc (.cells #[.bool (nOf (rZ (zOf s1 x1) (zOf s2 x2))), .slice U1 l1 j1] 35))
      have R1 := Lib.hid (R1.out.alloc (.cells #[.bool (nOf (rZ (zOf s1 x1) (zOf s2 x2))), .slice U1 l1 j1] 35))
      have Y1 := Lib.hid (Y1.out.alloc (.cells #[.bool (nOf (rZ (zOf s1 x1) (zOf s2 x2))), .slice U1 l1 j1] 35))
      have Y2 := Lib.hid (Bk.new 35 (u1.alloc (.cells #[.bool (nOf (qZ (zOf s1 x1) (zOf s2 x2))), .slice T1 k1 r1] 35)) #[.bool (nOf (rZ (zOf s1 x1) (zOf s2 x2))), .slice U1 l1 j1])
      rw [alloc_sz] at Y2
      generalize ((u1.alloc (.cells #[.bool (nOf (qZ (zOf s1 x1) (zOf s2 x2))), .slice T1 k1 r1] 35)).alloc (.cells #[.bool (nOf (rZ (zOf s1 x1) (zOf s2 x2))), .slice U1 l1 j1] 35)) = V1 at *
      have e0 : V1.cell? ⟨w.heap.size, 0, none⟩ = some (.bool s1) := X1.out.c 0 rfl
      have e1 : V1.cell? ⟨w.heap.size, 1, none⟩ = some (.slice A1 n1 c1) := X1.out.c 1 rfl
      have e2 : V1.cell? ⟨w.heap.size + 1, 0, none⟩ = some (.bool s2) := X2.out.c 0 rfl
      have e3 : V1.cell? ⟨w.heap.size + 1, 1, none⟩ = some (.slice A2 n2 c2) := X2.out.c 1 rfl
      go_wp2_with fail
      ((with_reducible refine (r2div_any s1 s2 A1 A2 n1 c1 n2 c2 x1 x2 _ S1.out S2.out).mono ?_); rintro e u2 ⟨T2, k2, r2, U2, l2, j2, rfl, hs, ht, hb⟩)
      clear e0 e1 e2 e3
      have S1 := Lib.hid (S1.out.below hb)
      have S2 := Lib.hid (S2.out.below hb)
      have TB := Lib.hid (tab_on TB.out hb)
      have BW := Lib.hid (below_on BW.out hb)
      have X1 := Lib.hid (X1.out.below hb)
      have X2 := Lib.hid (X2.out.below hb)
      have Q1 := Lib.hid (Q1.out.below hb)
      have R1 := Lib.hid (R1.out.below hb)
      have Y1 := Lib.hid (Y1.out.below hb)
      have Y2 := Lib.hid (Y2.out.below hb)
      clear hb
      have Q2 := Lib.hid hs
      have R2 := Lib.hid ht
      clear hs ht
      have e0 : u2.cell? ⟨w.heap.size, 0, none⟩ = some (.bool s1) := X1.out.c 0 rfl
      have e1 : u2.cell? ⟨w.heap.size, 1, none⟩ = some (.slice A1 n1 c1) := X1.out.c 1 rfl
      have e2 : u2.cell? ⟨w.heap.size + 1, 0, none⟩ = some (.bool s2) := X2.out.c 0 rfl
      have e3 : u2.cell? ⟨w.heap.size + 1, 1, none⟩ = some (.slice A2 n2 c2) := X2.out.c 1 rfl
      go_upto_region 5 with fail
      clear e0 e1 e2 e3
      have ln3 := X1.out.lt
      have ln4 := X2.out.lt
      have ln5 := Y1.out.lt
      have ln6 := Y2.out.lt
      have S1 := Lib.hid (S1.out.alloc (.cells #[.bool (nOf (qZ (zOf s1 x1) (zOf s2 x2))), .slice T2 k2 r2] 35))
      have S2 := Lib.hid (S2.out.alloc (.cells #[.bool (nOf (qZ (zOf s1 x1) (zOf s2 x2))), .slice T2 k2 r2] 35))
      have TB := Lib.hid (tab_on TB.out ((Below.refl _ _).alloc (Nat.le_refl _) (.cells #[.bool (nOf (qZ (zOf s1 x1) (zOf s2 x2))), .slice T2 k2 r2] 35)))
      have BW := Lib.hid (BW.out.alloc BW.out.size (.cells #[.bool (nOf (qZ (zOf s1 x1) (zOf s2 x2))), .slice T2 k2 r2] 35))
      have X1 := Lib.hid (X1.out.alloc (.cells #[.bool (nOf (qZ (zOf s1 x1) (zOf s2 x2))), .slice T2 k2 r2] 35))
      have X2 := Lib.hid (X2.out.alloc (.cells #[.bool (nOf (qZ (zOf s1 x1) (zOf s2 x2))), .slice T2 k2 r2] 35))
      have Q1 := Lib.hid (Q1.out.alloc (.cells #[.bool (nOf (qZ (zOf s1 x1) (zOf s2 x2))), .slice T2 k2 r2] 35))
      have R1 := Lib.hid (R1.out.alloc (.cells #[.bool (nOf (qZ (zOf s1 x1) (zOf s2 x2))), .slice T2 k2 r2] 35))
      have Y1 := Lib.hid (Y1.out.alloc (.cells #[.bool (nOf (qZ (zOf s1 x1) (zOf s2 x2))), .slice T2 k2 r2] 35))
      have Y2 := Lib.hid (Y2.out.alloc (.cells #[.bool (nOf (qZ (zOf s1 x1) (zOf s2 x2))), .slice T2 k2 r2] 35))
      have Q2 := Lib.hid (Q2.out.alloc (.cells #[.bool (nOf (qZ (zOf s1 x1) (zOf s2 x2))), .slice T2 k2 r2] 35))
      have R2 := Lib.hid (R2.out.alloc (.cells #[.bool (nOf (qZ (zOf s1 x1) (zOf s2 x2))), .slice T2 k2 r2] 35))
      have Y3 := Lib.hid (Bk.new 35 u2 #[.bool (nOf (qZ (zOf s1 x1) (zOf s2 x2))), .slice T2 k2 r2])
      have S1 := Lib.hid (S1.out.alloc (.cells #[.bool (nOf (rZ (zOf s1 x1) (zOf s2 x2))), .slice U2 l2 j2] 35))
      have S2 := Lib.hid (S2.out.alloc (.cells #[.bool (nOf (rZ (zOf s1 x1) (zOf s2 x2))), .slice U2 l2 j2] 35))
      have TB := Lib.hid (tab_on TB.out ((Below.refl _ _).alloc (Nat.le_refl _) (.cells #[.bool (nOf (rZ (zOf s1 x1) (zOf s2 x2))), .slice U2 l2 j2] 35)))
      have BW := Lib.hid (BW.out.alloc BW.out.size (.cells #[.bool (nOf (rZ (zOf s1 x1) (zOf s2 x2))), .slice U2 l2 j2] 35))
      have X1 := Lib.hid (X1.out.alloc (.cells #[.bool (nOf (rZ (zOf s1 x1) (zOf s2 x2))), .slice U2 l2 j2] 35))
      have X2 := Lib.hid (X2.out.alloc (.cells #[.bool (nOf (rZ (zOf s1 x1) (zOf s2 x2))), .slice U2 l2 j2] 35))
      have Q1 := Lib.hid (Q1.out.alloc (.cells #[.bool (nOf (rZ (zOf s1 x1) (zOf s2 x2))), .slice U2 l2 j2] 35))
      have R1 := Lib.hid (R1.out.alloc (.cells #[.bool (nOf (rZ (zOf s1 x1) (zOf s2 x2))), .slice U2 l2 j2] 35))
      have Y1 := Lib.hid (Y1.out.alloc (.cells #[.bool (nOf (rZ (zOf s1 x1) (zOf s2 x2))), .slice U2 l2 j2] 35))
      have Y2 := Lib.hid (Y2.out.alloc (.cells #[.bool (nOf (rZ (zOf s1 x1) (zOf s2 x2))), .slice U2 l2 j2] 35))
      have Q2 := Lib.hid (Q2.out.alloc (.cells #[.bool (nOf (rZ (zOf s1 x1) (zOf s2 x2))), .slice U2 l2 j2] 35))
      have R2 := Lib.hid (R2.out.alloc (.cells #[.bool (nOf (rZ (zOf s1 x1) (zOf s2 x2))), .slice U2 l2 j2] 35))
      have Y3 := Lib.hid (Y3.out.alloc (.cells #[.bool (nOf (rZ (zOf s1 x1) (zOf s2 x2))), .slice U2 l2 j2] 35))
      have Y4 := Lib.hid (Bk.new 35 (u2.alloc (.cells #[.bool (nOf (qZ (zOf s1 x1) (zOf s2 x2))), .slice T2 k2 r2] 35)) #[.bool (nOf (rZ (zOf s1 x1) (zOf s2 x2))), .slice U2 l2 j2])
      rw [alloc_sz] at Y4
      generalize ((u2.alloc (.cells #[.bool (nOf (qZ (zOf s1 x1) (zOf s2 x2))), .slice T2 k2 r2] 35)).alloc (.cells #[.bool (nOf (rZ (zOf s1 x1) (zOf s2 x2))), .slice U2 l2 j2] 35)) = V2 at *
      have bb : ((zOf s2 x2 != 0) == (zOf s2 x2 != 0)) = true := beq_self_eq_true _
      generalize (zOf s2 x2 != 0) = fb at *
      have e0 : V2.cell? ⟨u1.heap.size, 0, none⟩ = some (.bool (nOf (qZ (zOf s1 x1) (zOf s2 x2)))) := Y1.out.c 0 rfl
      have e1 : V2.cell? ⟨u1.heap.size, 1, none⟩ = some (.slice T1 k1 r1) := Y1.out.c 1 rfl
      have e2 : V2.cell? ⟨u2.heap.size, 0, none⟩ = some (.bool (nOf (qZ (zOf s1 x1) (zOf s2 x2)))) := Y3.out.c 0 rfl
      have e3 : V2.cell? ⟨u2.heap.size, 1, none⟩ = some (.slice T2 k2 r2) := Y3.out.c 1 rfl
      have e4 : V2.cell? ⟨u1.heap.size + 1, 0, none⟩ = some (.bool (nOf (rZ (zOf s1 x1) (zOf s2 x2)))) := Y2.out.c 0 rfl
      have e5 : V2.cell? ⟨u1.heap.size + 1, 1, none⟩ = some (.slice U1 l1 j1) := Y2.out.c 1 rfl
      have e6 : V2.cell? ⟨u2.heap.size + 1, 0, none⟩ = some (.bool (nOf (rZ (zOf s1 x1) (zOf s2 x2)))) := Y4.out.c 0 rfl
      have e7 : V2.cell? ⟨u2.heap.size + 1, 1, none⟩ = some (.slice U2 l2 j2) := Y4.out.c 1 rfl
      have e8 : V2.cell? ⟨w.heap.size, 0, none⟩ = some (.bool s1) := X1.out.c 0 rfl
      have e9 : V2.cell? ⟨w.heap.size, 1, none⟩ = some (.slice A1 n1 c1) := X1.out.c 1 rfl
      have e10 : V2.cell? ⟨w.heap.size + 1, 0, none⟩ = some (.bool s2) := X2.out.c 0 rfl
      have e11 : V2.cell? ⟨w.heap.size + 1, 1, none⟩ = some (.slice A2 n2 c2) := X2.out.c 1 rfl
      go_region_held3 (fun w' => w'.cell? ⟨u1.heap.size, 0, none⟩ = some (.bool (nOf (qZ (zOf s1 x1) (zOf s2 x2)))) ∧ w'.cell? ⟨u1.heap.size, 1, none⟩ = some (.slice T1 k1 r1) ∧ w'.cell? ⟨u2.heap.size, 0, none⟩ = some (.bool (nOf (qZ (zOf s1 x1) (zOf s2 x2)))) ∧ w'.cell? ⟨u2.heap.size, 1, none⟩ = some (.slice T2 k2 r2) ∧ w'.cell? ⟨u1.heap.size + 1, 0, none⟩ = some (.bool (nOf (rZ (zOf s1 x1) (zOf s2 x2)))) ∧ w'.cell? ⟨u1.heap.size + 1, 1, none⟩ = some (.slice U1 l1 j1) ∧ w'.cell? ⟨u2.heap.size + 1, 0, none⟩ = some (.bool (nOf (rZ (zOf s1 x1) (zOf s2 x2)))) ∧ w'.cell? ⟨u2.heap.size + 1, 1, none⟩ = some (.slice U2 l2 j2) ∧ w'.cell? ⟨w.heap.size, 0, none⟩ = some (.bool s1) ∧ w'.cell? ⟨w.heap.size, 1, none⟩ = some (.slice A1 n1 c1) ∧ w'.cell? ⟨w.heap.size + 1, 0, none⟩ = some (.bool s2) ∧ w'.cell? ⟨w.heap.size + 1, 1, none⟩ = some (.slice A2 n2 c2)) (go_keep)
        (first | (go_at_call 35; (with_reducible refine (same_ok _ _ T1 T2 k1 r1 k2 r2 _ _ _ (by first | exact Q1.out | exact Q1.out.drew) (by first | exact Q2.out | exact Q2.out.drew) rfl rfl).mono ?_); rintro e a1 ⟨rfl, hb⟩; have BB1 := Lib.hid (show Below V2.heap.size V2 a1 from (by first | exact hb | exact (Below.refl _ _).drew.trans (hb.mono (Nat.le_refl _)))); have f0 : a1.cell? ⟨u1.heap.size, 0, none⟩ = some (.bool (nOf (qZ (zOf s1 x1) (zOf s2 x2)))) := (Y1.out.below BB1.out).c 0 rfl; have f1 : a1.cell? ⟨u1.heap.size, 1, none⟩ = some (.slice T1 k1 r1) := (Y1.out.below BB1.out).c 1 rfl; have f2 : a1.cell? ⟨u2.heap.size, 0, none⟩ = some (.bool (nOf (qZ (zOf s1 x1) (zOf s2 x2)))) := (Y3.out.below BB1.out).c 0 rfl; have f3 : a1.cell? ⟨u2.heap.size, 1, none⟩ = some (.slice T2 k2 r2) := (Y3.out.below BB1.out).c 1 rfl; have f4 : a1.cell? ⟨u1.heap.size + 1, 0, none⟩ = some (.bool (nOf (rZ (zOf s1 x1) (zOf s2 x2)))) := (Y2.out.below BB1.out).c 0 rfl; have f5 : a1.cell? ⟨u1.heap.size + 1, 1, none⟩ = some (.slice U1 l1 j1) := (Y2.out.below BB1.out).c 1 rfl; have f6 : a1.cell? ⟨u2.heap.size + 1, 0, none⟩ = some (.bool (nOf (rZ (zOf s1 x1) (zOf s2 x2)))) := (Y4.out.below BB1.out).c 0 rfl; have f7 : a1.cell? ⟨u2.heap.size + 1, 1, none⟩ = some (.slice U2 l2 j2) := (Y4.out.below BB1.out).c 1 rfl; have f8 : a1.cell? ⟨w.heap.size, 0, none⟩ = some (.bool s1) := (X1.out.below BB1.out).c 0 rfl; have f9 : a1.cell? ⟨w.heap.size, 1, none⟩ = some (.slice A1 n1 c1) := (X1.out.below BB1.out).c 1 rfl; have f10 : a1.cell? ⟨w.heap.size + 1, 0, none⟩ = some (.bool s2) := (X2.out.below BB1.out).c 0 rfl; have f11 : a1.cell? ⟨w.heap.size + 1, 1, none⟩ = some (.slice A2 n2 c2) := (X2.out.below BB1.out).c 1 rfl; clear hb) | (go_at_call 35; (with_reducible refine (same_ok _ _ U1 U2 l1 j1 l2 j2 _ _ _ (R1.out.below BB1.out) (R2.out.below BB1.out) rfl rfl).mono ?_); rintro e a2 ⟨rfl, hb⟩; have BB2 := Lib.hid (below_up BB1.out hb); have f0 : a2.cell? ⟨u1.heap.size, 0, none⟩ = some (.bool (nOf (qZ (zOf s1 x1) (zOf s2 x2)))) := (Y1.out.below BB2.out).c 0 rfl; have f1 : a2.cell? ⟨u1.heap.size, 1, none⟩ = some (.slice T1 k1 r1) := (Y1.out.below BB2.out).c 1 rfl; have f2 : a2.cell? ⟨u2.heap.size, 0, none⟩ = some (.bool (nOf (qZ (zOf s1 x1) (zOf s2 x2)))) := (Y3.out.below BB2.out).c 0 rfl; have f3 : a2.cell? ⟨u2.heap.size, 1, none⟩ = some (.slice T2 k2 r2) := (Y3.out.below BB2.out).c 1 rfl; have f4 : a2.cell? ⟨u1.heap.size + 1, 0, none⟩ = some (.bool (nOf (rZ (zOf s1 x1) (zOf s2 x2)))) := (Y2.out.below BB2.out).c 0 rfl; have f5 : a2.cell? ⟨u1.heap.size + 1, 1, none⟩ = some (.slice U1 l1 j1) := (Y2.out.below BB2.out).c 1 rfl; have f6 : a2.cell? ⟨u2.heap.size + 1, 0, none⟩ = some (.bool (nOf (rZ (zOf s1 x1) (zOf s2 x2)))) := (Y4.out.below BB2.out).c 0 rfl; have f7 : a2.cell? ⟨u2.heap.size + 1, 1, none⟩ = some (.slice U2 l2 j2) := (Y4.out.below BB2.out).c 1 rfl; have f8 : a2.cell? ⟨w.heap.size, 0, none⟩ = some (.bool s1) := (X1.out.below BB2.out).c 0 rfl; have f9 : a2.cell? ⟨w.heap.size, 1, none⟩ = some (.slice A1 n1 c1) := (X1.out.below BB2.out).c 1 rfl; have f10 : a2.cell? ⟨w.heap.size + 1, 0, none⟩ = some (.bool s2) := (X2.out.below BB2.out).c 0 rfl; have f11 : a2.cell? ⟨w.heap.size + 1, 1, none⟩ = some (.slice A2 n2 c2) := (X2.out.below BB2.out).c 1 rfl; clear hb) | (go_at_call 36; (with_reducible refine (gcd_big s1 s2 A1 A2 n1 c1 n2 c2 x1 x2 _ (S1.out.below BB2.out) (S2.out.below BB2.out)).mono ?_); rintro e a3 ⟨T3, k3, r3, rfl, hs, hb⟩; have BB3 := Lib.hid (below_up BB2.out hb); have G3 := Lib.hid hs; clear hs; have f0 : a3.cell? ⟨u1.heap.size, 0, none⟩ = some (.bool (nOf (qZ (zOf s1 x1) (zOf s2 x2)))) := (Y1.out.below BB3.out).c 0 rfl; have f1 : a3.cell? ⟨u1.heap.size, 1, none⟩ = some (.slice T1 k1 r1) := (Y1.out.below BB3.out).c 1 rfl; have f2 : a3.cell? ⟨u2.heap.size, 0, none⟩ = some (.bool (nOf (qZ (zOf s1 x1) (zOf s2 x2)))) := (Y3.out.below BB3.out).c 0 rfl; have f3 : a3.cell? ⟨u2.heap.size, 1, none⟩ = some (.slice T2 k2 r2) := (Y3.out.below BB3.out).c 1 rfl; have f4 : a3.cell? ⟨u1.heap.size + 1, 0, none⟩ = some (.bool (nOf (rZ (zOf s1 x1) (zOf s2 x2)))) := (Y2.out.below BB3.out).c 0 rfl; have f5 : a3.cell? ⟨u1.heap.size + 1, 1, none⟩ = some (.slice U1 l1 j1) := (Y2.out.below BB3.out).c 1 rfl; have f6 : a3.cell? ⟨u2.heap.size + 1, 0, none⟩ = some (.bool (nOf (rZ (zOf s1 x1) (zOf s2 x2)))) := (Y4.out.below BB3.out).c 0 rfl; have f7 : a3.cell? ⟨u2.heap.size + 1, 1, none⟩ = some (.slice U2 l2 j2) := (Y4.out.below BB3.out).c 1 rfl; have f8 : a3.cell? ⟨w.heap.size, 0, none⟩ = some (.bool s1) := (X1.out.below BB3.out).c 0 rfl; have f9 : a3.cell? ⟨w.heap.size, 1, none⟩ = some (.slice A1 n1 c1) := (X1.out.below BB3.out).c 1 rfl; have f10 : a3.cell? ⟨w.heap.size + 1, 0, none⟩ = some (.bool s2) := (X2.out.below BB3.out).c 0 rfl; have f11 : a3.cell? ⟨w.heap.size + 1, 1, none⟩ = some (.slice A2 n2 c2) := (X2.out.below BB3.out).c 1 rfl; clear hb) | (go_at_call 37; (with_reducible refine (r2gcd_any s1 s2 A1 A2 n1 c1 n2 c2 x1 x2 _ (S1.out.below BB3.out) (S2.out.below BB3.out)).mono ?_); rintro e a4 ⟨T4, k4, r4, rfl, hs, hb⟩; have BB4 := Lib.hid (below_up BB3.out hb); have G3 := Lib.hid (G3.out.below hb); have G4 := Lib.hid hs; clear hs; have f0 : a4.cell? ⟨u1.heap.size, 0, none⟩ = some (.bool (nOf (qZ (zOf s1 x1) (zOf s2 x2)))) := (Y1.out.below BB4.out).c 0 rfl; have f1 : a4.cell? ⟨u1.heap.size, 1, none⟩ = some (.slice T1 k1 r1) := (Y1.out.below BB4.out).c 1 rfl; have f2 : a4.cell? ⟨u2.heap.size, 0, none⟩ = some (.bool (nOf (qZ (zOf s1 x1) (zOf s2 x2)))) := (Y3.out.below BB4.out).c 0 rfl; have f3 : a4.cell? ⟨u2.heap.size, 1, none⟩ = some (.slice T2 k2 r2) := (Y3.out.below BB4.out).c 1 rfl; have f4 : a4.cell? ⟨u1.heap.size + 1, 0, none⟩ = some (.bool (nOf (rZ (zOf s1 x1) (zOf s2 x2)))) := (Y2.out.below BB4.out).c 0 rfl; have f5 : a4.cell? ⟨u1.heap.size + 1, 1, none⟩ = some (.slice U1 l1 j1) := (Y2.out.below BB4.out).c 1 rfl; have f6 : a4.cell? ⟨u2.heap.size + 1, 0, none⟩ = some (.bool (nOf (rZ (zOf s1 x1) (zOf s2 x2)))) := (Y4.out.below BB4.out).c 0 rfl; have f7 : a4.cell? ⟨u2.heap.size + 1, 1, none⟩ = some (.slice U2 l2 j2) := (Y4.out.below BB4.out).c 1 rfl; have f8 : a4.cell? ⟨w.heap.size, 0, none⟩ = some (.bool s1) := (X1.out.below BB4.out).c 0 rfl; have f9 : a4.cell? ⟨w.heap.size, 1, none⟩ = some (.slice A1 n1 c1) := (X1.out.below BB4.out).c 1 rfl; have f10 : a4.cell? ⟨w.heap.size + 1, 0, none⟩ = some (.bool s2) := (X2.out.below BB4.out).c 0 rfl; have f11 : a4.cell? ⟨w.heap.size + 1, 1, none⟩ = some (.slice A2 n2 c2) := (X2.out.below BB4.out).c 1 rfl; clear hb) | (go_at_call 35; (with_reducible refine (same_ok _ _ T3 T4 k3 r3 k4 r4 _ _ _ G3.out G4.out rfl rfl).mono ?_); rintro e a5 ⟨rfl, hb⟩; have BB5 := Lib.hid (below_up BB4.out hb); have G3 := Lib.hid (G3.out.below hb); have G4 := Lib.hid (G4.out.below hb); have f0 : a5.cell? ⟨u1.heap.size, 0, none⟩ = some (.bool (nOf (qZ (zOf s1 x1) (zOf s2 x2)))) := (Y1.out.below BB5.out).c 0 rfl; have f1 : a5.cell? ⟨u1.heap.size, 1, none⟩ = some (.slice T1 k1 r1) := (Y1.out.below BB5.out).c 1 rfl; have f2 : a5.cell? ⟨u2.heap.size, 0, none⟩ = some (.bool (nOf (qZ (zOf s1 x1) (zOf s2 x2)))) := (Y3.out.below BB5.out).c 0 rfl; have f3 : a5.cell? ⟨u2.heap.size, 1, none⟩ = some (.slice T2 k2 r2) := (Y3.out.below BB5.out).c 1 rfl; have f4 : a5.cell? ⟨u1.heap.size + 1, 0, none⟩ = some (.bool (nOf (rZ (zOf s1 x1) (zOf s2 x2)))) := (Y2.out.below BB5.out).c 0 rfl; have f5 : a5.cell? ⟨u1.heap.size + 1, 1, none⟩ = some (.slice U1 l1 j1) := (Y2.out.below BB5.out).c 1 rfl; have f6 : a5.cell? ⟨u2.heap.size + 1, 0, none⟩ = some (.bool (nOf (rZ (zOf s1 x1) (zOf s2 x2)))) := (Y4.out.below BB5.out).c 0 rfl; have f7 : a5.cell? ⟨u2.heap.size + 1, 1, none⟩ = some (.slice U2 l2 j2) := (Y4.out.below BB5.out).c 1 rfl; have f8 : a5.cell? ⟨w.heap.size, 0, none⟩ = some (.bool s1) := (X1.out.below BB5.out).c 0 rfl; have f9 : a5.cell? ⟨w.heap.size, 1, none⟩ = some (.slice A1 n1 c1) := (X1.out.below BB5.out).c 1 rfl; have f10 : a5.cell? ⟨w.heap.size + 1, 0, none⟩ = some (.bool s2) := (X2.out.below BB5.out).c 0 rfl; have f11 : a5.cell? ⟨w.heap.size + 1, 1, none⟩ = some (.slice A2 n2 c2) := (X2.out.below BB5.out).c 1 rfl; clear hb) | (go_at_call 32; (with_reducible refine (awake_any _ (tab_on TB.out BB5.out)).mono ?_); rintro e a6 ⟨rfl, hb⟩; have BB6 := Lib.hid (below_up BB5.out hb); have G3 := Lib.hid (G3.out.below hb); have G4 := Lib.hid (G4.out.below hb); have f0 : a6.cell? ⟨u1.heap.size, 0, none⟩ = some (.bool (nOf (qZ (zOf s1 x1) (zOf s2 x2)))) := (Y1.out.below BB6.out).c 0 rfl; have f1 : a6.cell? ⟨u1.heap.size, 1, none⟩ = some (.slice T1 k1 r1) := (Y1.out.below BB6.out).c 1 rfl; have f2 : a6.cell? ⟨u2.heap.size, 0, none⟩ = some (.bool (nOf (qZ (zOf s1 x1) (zOf s2 x2)))) := (Y3.out.below BB6.out).c 0 rfl; have f3 : a6.cell? ⟨u2.heap.size, 1, none⟩ = some (.slice T2 k2 r2) := (Y3.out.below BB6.out).c 1 rfl; have f4 : a6.cell? ⟨u1.heap.size + 1, 0, none⟩ = some (.bool (nOf (rZ (zOf s1 x1) (zOf s2 x2)))) := (Y2.out.below BB6.out).c 0 rfl; have f5 : a6.cell? ⟨u1.heap.size + 1, 1, none⟩ = some (.slice U1 l1 j1) := (Y2.out.below BB6.out).c 1 rfl; have f6 : a6.cell? ⟨u2.heap.size + 1, 0, none⟩ = some (.bool (nOf (rZ (zOf s1 x1) (zOf s2 x2)))) := (Y4.out.below BB6.out).c 0 rfl; have f7 : a6.cell? ⟨u2.heap.size + 1, 1, none⟩ = some (.slice U2 l2 j2) := (Y4.out.below BB6.out).c 1 rfl; have f8 : a6.cell? ⟨w.heap.size, 0, none⟩ = some (.bool s1) := (X1.out.below BB6.out).c 0 rfl; have f9 : a6.cell? ⟨w.heap.size, 1, none⟩ = some (.slice A1 n1 c1) := (X1.out.below BB6.out).c 1 rfl; have f10 : a6.cell? ⟨w.heap.size + 1, 0, none⟩ = some (.bool s2) := (X2.out.below BB6.out).c 0 rfl; have f11 : a6.cell? ⟨w.heap.size + 1, 1, none⟩ = some (.slice A2 n2 c2) := (X2.out.below BB6.out).c 1 rfl; clear hb))
      clear e0 e1 e2 e3 e4 e5 e6 e7 e8 e9 e10 e11
      try clear f0 f1 f2 f3 f4 f5 f6 f7 f8 f9 f10 f11
      have S1 := Lib.hid (S1.out.below BB6.out)
      have S2 := Lib.hid (S2.out.below BB6.out)
      have TB := Lib.hid (tab_on TB.out BB6.out)
      have BW := Lib.hid (below_on BW.out BB6.out)
      have X1 := Lib.hid (X1.out.below BB6.out)
      have X2 := Lib.hid (X2.out.below BB6.out)
      have Q1 := Lib.hid (Q1.out.below BB6.out)
      have R1 := Lib.hid (R1.out.below BB6.out)
      have Y1 := Lib.hid (Y1.out.below BB6.out)
      have Y2 := Lib.hid (Y2.out.below BB6.out)
      have Q2 := Lib.hid (Q2.out.below BB6.out)
      have R2 := Lib.hid (R2.out.below BB6.out)
      have Y3 := Lib.hid (Y3.out.below BB6.out)
      have Y4 := Lib.hid (Y4.out.below BB6.out)
      go_wp2_with fail
      go_ret
      exact ⟨rfl, BW.out⟩

set_option maxRecDepth 100000 in
theorem contract (H : Type) (enc : TypeId × Value → H) (W : World) (base : Nat) (args : Array Value) (ds gs : List (DataW H)) (before : List MemPlace)
    (hval : ∀ (j : Nat) t v, Tryd.f9.params[j]? = some t → args[j]? = some v → Value.okWide Tryd.prog W .any base t v)
    (hW : DataW.Whole enc Tryd.prog Tryd.f9.params.toList Rows.bigDividesSpec.vars false W args.toList ds gs before) (hL : laidMetH Tryd.prog Rows.bigDividesRow.laid W) :
    Calls Tryd.prog 9 args W fun e W' => ∃ v, e = .returned v ∧ Rows.bigDividesSpec.post enc Tryd.prog Tryd.f9 false true false false W args v W' := by
  have hW' := hW
  obtain ⟨p, q, hA0, hV, rfl, hfz, hnd⟩ := hW
  have hA : DataW.TrodAll enc Tryd.prog W 0 (fun _ => true) true Tryd.f9.params.toList args.toList ds p := hA0
  have hlt : ∀ x ∈ p, x.block < W.heap.size := fun x hx => hW'.lt x (by simp [hx])
  have hAll := hA
  rw [Tryd.params9] at hA hval
  obtain ⟨v0, vs0, d0, ds0, p0, q0, hargs, rfl, rfl, h0, r0⟩ := trodAll_cons hA
  obtain ⟨v1, vs1, d1, ds1, p1, q1, rfl, rfl, rfl, h1, r1⟩ := trodAll_cons r0
  obtain ⟨rfl, rfl, rfl⟩ := trodAll_nil r1
  obtain rfl : args = #[v0, v1] := by cases args; simp_all
  obtain ⟨rfl, rfl⟩ := trodVars_none hV
  obtain ⟨s1, A1, n1, c1, x1, rfl, g1⟩ := open_big (hval 0 35 v0 rfl rfl) h0
  obtain ⟨s2, A2, n2, c2, x2, rfl, g2⟩ := open_big (hval 1 35 v1 rfl rfl) h1
  refine (walk s1 s2 A1 A2 n1 c1 n2 c2 x1 x2 W g1 g2 (tab_of_laid hL)).mono fun e W' ⟨he, hg⟩ => ?_
  subst he
  refine ⟨_, rfl, _, _, _, [], _, [], hW', trodAll_mk1 (shut_bool Tryd.underlying4 _), trodAll_below hg (fun t ht => ?_) hAll hlt, rfl, hg.frame _, fun h => by cases h⟩
  rw [Tryd.params9] at ht
  simp only [List.mem_cons, List.not_mem_nil, or_false] at ht
  rcases ht with rfl | rfl
  · exact read_big
  · exact read_big

set_option maxRecDepth 100000 in
theorem reads (os : Os) {H : Type} (enc : TypeId × Value → H) : ∃ places, DataW.whole enc Tryd.prog ((World.doorLaid Tryd.prog 24 os).forCall (fun _ _ => 0) ⟨#[], #[Value.agg #[.bool false, .slice none 0 0], Value.agg #[.bool false, .slice none 0 0]], []⟩).memory Tryd.f9.params.toList Rows.bigDividesSpec.vars false #[Value.agg #[.bool false, .slice none 0 0], Value.agg #[.bool false, .slice none 0 0]].toList 8 = some ([.agg [.lit (.bool false), .nil], .agg [.lit (.bool false), .nil]], [], places) :=
  ⟨[], by kernel_rfl⟩

set_option maxRecDepth 100000 in
theorem lifted (os : Os) (started : os.Started) (H : Type) (enc : TypeId × Value → H) (F : Stop.Interp) :
    ReturnsInHanded {} Tryd.checked os 9 .any ((OpenSpec.ofChange Rows.bigDividesSpec).preRow enc Tryd.prog Tryd.f9 Rows.bigDividesRow.domain false Rows.bigDividesRow.laid) (((OpenSpec.ofChange Rows.bigDividesSpec).at F).post enc Tryd.prog Tryd.f9 false true false false) := by
  obtain ⟨places, hx⟩ := reads os enc
  refine returnsInHanded_of_row (C := Tryd.checked) (s := OpenSpec.ofChange Rows.bigDividesSpec) own started (by kernel_rfl) Tryd.func9
    (witness_row_at (enc := enc) (C := Tryd.checked) false (World.doorLaid Tryd.prog 24 os) #[Value.agg #[.bool false, .slice none 0 0], Value.agg #[.bool false, .slice none 0 0]] rfl (by kernel_rfl) (by kernel_rfl) (by kernel_rfl)
      (OpenSpec.preRow_of_cond 8 hx (by kernel_rfl) (fun k hk => by cases hk) (by kernel_rfl) (laid_met os _))) ?_
  intro W base args ds gs before hval hW _ _ _ hL _ _
  exact contract H enc W base args ds gs before hval hW hL

theorem said : Rows.BigDividesSaid :=
  OpenClaim.holds_of_cond 9 Tryd.f9 rfl rfl rfl rfl rfl rfl rfl ⟨rfl, rfl, rfl, rfl, rfl⟩ rfl rfl rfl rfl rfl (by kernel_rfl) Tryd.func9 (by kernel_rfl)
    (of_decide_eq_true (by kernel_rfl)) (by unfold Func.isWrapper; first | (rw [if_pos (by decide +kernel)]; kernel_rfl) | (rw [if_neg (by decide +kernel)]; exact ⟨rfl, rfl⟩))
    (fun os started H enc _ F => by rw [OpenClaim.pre_eq_preRow]; exact lifted os started H enc F)

theorem plain (f : FuncId) (fn : Func) (hf : Tryd.pinned.checked.prog.funcNamed "liquidcheck/liquidchecklaw02.BigDivides" = some f) (hfn : Tryd.pinned.checked.prog.funcs[f]? = some fn) :
    false = Tryd.pinned.checked.prog.looks [] ∧ ∀ (j : Nat) t, fn.params[j]? = some t → Tryd.pinned.checked.prog.wantsStandIn t = false := by
  obtain rfl : f = 9 := Option.some.inj ((show Tryd.prog.funcNamed "liquidcheck/liquidchecklaw02.BigDivides" = some 9 by kernel_rfl).symm.trans hf) |>.symm
  obtain rfl : fn = Tryd.f9 := (Option.some.inj (Tryd.func9.symm.trans hfn)).symm
  refine ⟨by kernel_rfl, fun j t ht => ?_⟩
  rw [Tryd.params9] at ht
  have hm := Array.mem_of_getElem? ht
  simp only [List.mem_toArray, List.mem_cons, List.not_mem_nil, or_false] at hm
  rcases hm with rfl | rfl
  · exact (show Tryd.prog.wantsStandIn 35 = false by kernel_rfl)
  · exact (show Tryd.prog.wantsStandIn 35 = false by kernel_rfl)

theorem card : Rows.BigDividesCardSaid :=
  Claim7.holds_tied_plain_at .later [] _ _ _ _ said (fun _ h => by cases h) (by kernel_rfl) (fun _ h => by cases h) bigDivides_row_tie rfl ⟨rfl, rfl⟩ (by kernel_rfl) rfl plain (by kernel_rfl)
end Go.Proofs.YtfenmogbellhdaaDoor.bigDivides
