/-
  THE STATEMENT BigRings IS PROVED: for every three numbers (the listed library tables holding what the program's text lays, tied by the card), the law returns true and its arguments read as before.
-/
import Derived.Test.YtfkfbomllkpjjaaDoorCards
import Derived.Test.YtfkfbomllkpjjaaDoorTie
import Derived.Test.YtfkfbomllkpjjaaDoorBigLaid
namespace Go.Proofs.YtfkfbomllkpjjaaDoor.bigRings
open Go.ChangeShapes Go.WideShapes Go.ChangeAt Go.RowKit
open Go.ChangeMaps (open_string shut_string)

theorem zOf_lt {neg : Bool} {xs : List Int} {k : Nat} (h : xs.length ≤ k) : ((zOf neg xs).natAbs : Int) < pw k := by
  unfold zOf
  split
  · rename_i hv
    have h1 := val_bd (validB_iff.1 hv).2.2.2
    have h2 := pw_mono h
    split <;> omega
  · exact pw_pos k
theorem abs_add {a b : Int} {k : Nat} (ha : (a.natAbs : Int) < pw k) (hb : (b.natAbs : Int) < pw k) : ((a + b).natAbs : Int) < pw (k + 1) := by
  have := pw_succ k
  omega
theorem abs_sub {a b : Int} {k : Nat} (ha : (a.natAbs : Int) < pw k) (hb : (b.natAbs : Int) < pw k) : ((a + -b).natAbs : Int) < pw (k + 1) := by
  have := pw_succ k
  omega
theorem abs_mul {a b : Int} {j k : Nat} (ha : (a.natAbs : Int) < pw j) (hb : (b.natAbs : Int) < pw k) : ((a * b).natAbs : Int) < pw (j + k) := by
  rw [Int.natAbs_mul, Int.natCast_mul]
  exact pw_split_lt ha hb (by omega)
theorem fit_of {z : Int} {k : Nat} (h : (z.natAbs : Int) < pw k) (hk : k ≤ 200) : fitB z = true := by
  rw [fitB_iff]
  have := pw_mono hk
  omega
theorem cmp_sub (a b : Int) : cmpI (a + -b) 0 = cmpI a b := by
  unfold cmpI
  simp only [show (a + -b < 0) ↔ a < b by omega, show (0 < a + -b) ↔ b < a by omega]
theorem cmp_self (a : Int) : cmpI a a = 0 := cmpI_eq rfl
theorem cmp_ok (na nb : Bool) (A B : Option Addr) (n c m d : Nat) (xs ys : List Int) (za zb v : Int) (w : World) (ha : Sl w A n c xs) (hb : Sl w B m d ys) (hza : zOf na xs = za) (hzb : zOf nb ys = zb) (hv : cmpI za zb = v) :
    Calls Tryd.prog 26 #[.agg #[.bool na, .slice A n c], .agg #[.bool nb, .slice B m d]] w fun e w' => e = .returned (.int .i64 v) ∧ Below w.heap.size w w' := by
  have := cmp_big na nb A B n c m d xs ys w ha hb
  rw [hza, hzb, hv] at this
  exact this
theorem valid_ok (z : Int) (A : Option Addr) (n c : Nat) (w : World) (ha : Sl w A n c (lOf z)) (hf : fitB z = true) :
    Calls Tryd.prog 18 #[.agg #[.bool (nOf z), .slice A n c]] w fun e w' => e = .returned (.bool true) ∧ Below w.heap.size w w' := by
  have := valid_any (nOf z) A n c (lOf z) w ha
  rw [validB_lOf, hf] at this
  exact this
theorem zOf_zero : zOf false [] = 0 := by
  have := zOf_lOf fit_zero
  rwa [lOf_zero, nOf_zero] at this

set_option maxRecDepth 100000 in
set_option maxHeartbeats 4000000 in
theorem walk (s1 s2 s3 : Bool) (A1 A2 A3 : Option Addr) (n1 c1 n2 c2 n3 c3 : Nat) (x1 x2 x3 : List Int) (w : World) (h1 : Sl w A1 n1 c1 x1) (h2 : Sl w A2 n2 c2 x2) (h3 : Sl w A3 n3 c3 x3) (htab : Tab w) :
    Calls Tryd.prog 9 #[.agg #[.bool s1, .slice A1 n1 c1], .agg #[.bool s2, .slice A2 n2 c2], .agg #[.bool s3, .slice A3 n3 c3]] w fun e w' => e = .returned (.bool true) ∧ Below w.heap.size w w' := by
  have TB := Lib.hid htab
  have BW := Lib.hid (Below.refl w.heap.size w)
  have S1 := Lib.hid h1
  have S2 := Lib.hid h2
  have S3 := Lib.hid h3
  have l1 := Lib.hid h1.len
  have l2 := Lib.hid h2.len
  have l3 := Lib.hid h3.len
  clear htab h1 h2 h3
  go_enter Tryd.func9, Tryd.ntmps9
  go_upto_region 1 with fail
  have S1 := Lib.hid (S1.out.alloc (.cells #[.bool s1, .slice A1 n1 c1] 24))
  have S2 := Lib.hid (S2.out.alloc (.cells #[.bool s1, .slice A1 n1 c1] 24))
  have S3 := Lib.hid (S3.out.alloc (.cells #[.bool s1, .slice A1 n1 c1] 24))
  have X1 := Lib.hid (Bx.new w (.bool s1) (.slice A1 n1 c1))
  have TB : Hid (Tab (w.alloc (.cells #[.bool s1, .slice A1 n1 c1] 24))) := tab_on TB.out ((Below.refl _ _).alloc (Nat.le_refl _) _)
  have BW := Lib.hid (BW.out.alloc BW.out.size (.cells #[.bool s1, .slice A1 n1 c1] 24))
  have S1 := Lib.hid (S1.out.alloc (.cells #[.bool s2, .slice A2 n2 c2] 24))
  have S2 := Lib.hid (S2.out.alloc (.cells #[.bool s2, .slice A2 n2 c2] 24))
  have S3 := Lib.hid (S3.out.alloc (.cells #[.bool s2, .slice A2 n2 c2] 24))
  have X1 := Lib.hid (X1.out.alloc (.cells #[.bool s2, .slice A2 n2 c2] 24))
  have X2 := Lib.hid (Bx.new (w.alloc (.cells #[.bool s1, .slice A1 n1 c1] 24)) (.bool s2) (.slice A2 n2 c2))
  rw [alloc_sz] at X2
  have TB : Hid (Tab ((w.alloc (.cells #[.bool s1, .slice A1 n1 c1] 24)).alloc (.cells #[.bool s2, .slice A2 n2 c2] 24))) := tab_on TB.out ((Below.refl _ _).alloc (Nat.le_refl _) _)
  have BW := Lib.hid (BW.out.alloc BW.out.size (.cells #[.bool s2, .slice A2 n2 c2] 24))
  have S1 := Lib.hid (S1.out.alloc (.cells #[.bool s3, .slice A3 n3 c3] 24))
  have S2 := Lib.hid (S2.out.alloc (.cells #[.bool s3, .slice A3 n3 c3] 24))
  have S3 := Lib.hid (S3.out.alloc (.cells #[.bool s3, .slice A3 n3 c3] 24))
  have X1 := Lib.hid (X1.out.alloc (.cells #[.bool s3, .slice A3 n3 c3] 24))
  have X2 := Lib.hid (X2.out.alloc (.cells #[.bool s3, .slice A3 n3 c3] 24))
  have X3 := Lib.hid (Bx.new ((w.alloc (.cells #[.bool s1, .slice A1 n1 c1] 24)).alloc (.cells #[.bool s2, .slice A2 n2 c2] 24)) (.bool s3) (.slice A3 n3 c3))
  rw [alloc_sz, alloc_sz] at X3
  have TB : Hid (Tab (((w.alloc (.cells #[.bool s1, .slice A1 n1 c1] 24)).alloc (.cells #[.bool s2, .slice A2 n2 c2] 24)).alloc (.cells #[.bool s3, .slice A3 n3 c3] 24))) := tab_on TB.out ((Below.refl _ _).alloc (Nat.le_refl _) _)
  have BW := Lib.hid (BW.out.alloc BW.out.size (.cells #[.bool s3, .slice A3 n3 c3] 24))
  generalize hWW : (((w.alloc (.cells #[.bool s1, .slice A1 n1 c1] 24)).alloc (.cells #[.bool s2, .slice A2 n2 c2] 24)).alloc (.cells #[.bool s3, .slice A3 n3 c3] 24)) = W0 at *
  clear hWW
  by_cases g1 : 30 < n1
  · have b1 : decide ((30 : Int) < (n1 : Int)) = true := decide_eq_true (by omega)
    have e0 := X1.out.c0
    have e1 := X1.out.c1
    go_wp2_with fail
    (refine (long_any s1 A1 n1 c1 30 _).mono ?_; rintro e v1 ⟨rfl, hb⟩)
    rw [b1]
    clear e0 e1
    have S1 := Lib.hid (S1.out.below hb)
    have S2 := Lib.hid (S2.out.below hb)
    have S3 := Lib.hid (S3.out.below hb)
    have X1 := Lib.hid (X1.out.below hb)
    have X2 := Lib.hid (X2.out.below hb)
    have X3 := Lib.hid (X3.out.below hb)
    have TB := Lib.hid (tab_on TB.out hb)
    have BW := Lib.hid (below_on BW.out hb)
    clear hb
    go_wp2_with fail
    (refine (awake_any _ TB.out).mono ?_; rintro e vv ⟨rfl, hb⟩)
    have S1 := Lib.hid (S1.out.below hb)
    have S2 := Lib.hid (S2.out.below hb)
    have S3 := Lib.hid (S3.out.below hb)
    have X1 := Lib.hid (X1.out.below hb)
    have X2 := Lib.hid (X2.out.below hb)
    have X3 := Lib.hid (X3.out.below hb)
    have TB := Lib.hid (tab_on TB.out hb)
    have BW := Lib.hid (below_on BW.out hb)
    clear hb
    go_wp2_with fail
    go_ret
    exact ⟨rfl, BW.out⟩
  by_cases g2 : 30 < n2
  · have b1 : decide ((30 : Int) < (n1 : Int)) = false := decide_eq_false (by omega)
    have b2 : decide ((30 : Int) < (n2 : Int)) = true := decide_eq_true (by omega)
    have e0 := X1.out.c0
    have e1 := X1.out.c1
    go_wp2_with fail
    (refine (long_any s1 A1 n1 c1 30 _).mono ?_; rintro e v1 ⟨rfl, hb⟩)
    rw [b1]
    clear e0 e1
    have S1 := Lib.hid (S1.out.below hb)
    have S2 := Lib.hid (S2.out.below hb)
    have S3 := Lib.hid (S3.out.below hb)
    have X1 := Lib.hid (X1.out.below hb)
    have X2 := Lib.hid (X2.out.below hb)
    have X3 := Lib.hid (X3.out.below hb)
    have TB := Lib.hid (tab_on TB.out hb)
    have BW := Lib.hid (below_on BW.out hb)
    clear hb
    have e0 := X2.out.c0
    have e1 := X2.out.c1
    go_wp2_with fail
    (refine (long_any s2 A2 n2 c2 30 _).mono ?_; rintro e v2 ⟨rfl, hb⟩)
    rw [b2]
    clear e0 e1
    have S1 := Lib.hid (S1.out.below hb)
    have S2 := Lib.hid (S2.out.below hb)
    have S3 := Lib.hid (S3.out.below hb)
    have X1 := Lib.hid (X1.out.below hb)
    have X2 := Lib.hid (X2.out.below hb)
    have X3 := Lib.hid (X3.out.below hb)
    have TB := Lib.hid (tab_on TB.out hb)
    have BW := Lib.hid (below_on BW.out hb)
    clear hb
    go_wp2_with fail
    (refine (awake_any _ TB.out).mono ?_; rintro e vv ⟨rfl, hb⟩)
    have S1 := Lib.hid (S1.out.below hb)
    have S2 := Lib.hid (S2.out.below hb)
    have S3 := Lib.hid (S3.out.below hb)
    have X1 := Lib.hid (X1.out.below hb)
    have X2 := Lib.hid (X2.out.below hb)
    have X3 := Lib.hid (X3.out.below hb)
    have TB := Lib.hid (tab_on TB.out hb)
    have BW := Lib.hid (below_on BW.out hb)
    clear hb
    go_wp2_with fail
    go_ret
    exact ⟨rfl, BW.out⟩
  by_cases g3 : 30 < n3
  · have b1 : decide ((30 : Int) < (n1 : Int)) = false := decide_eq_false (by omega)
    have b2 : decide ((30 : Int) < (n2 : Int)) = false := decide_eq_false (by omega)
    have b3 : decide ((30 : Int) < (n3 : Int)) = true := decide_eq_true (by omega)
    have e0 := X1.out.c0
    have e1 := X1.out.c1
    go_wp2_with fail
    (refine (long_any s1 A1 n1 c1 30 _).mono ?_; rintro e v1 ⟨rfl, hb⟩)
    rw [b1]
    clear e0 e1
    have S1 := Lib.hid (S1.out.below hb)
    have S2 := Lib.hid (S2.out.below hb)
    have S3 := Lib.hid (S3.out.below hb)
    have X1 := Lib.hid (X1.out.below hb)
    have X2 := Lib.hid (X2.out.below hb)
    have X3 := Lib.hid (X3.out.below hb)
    have TB := Lib.hid (tab_on TB.out hb)
    have BW := Lib.hid (below_on BW.out hb)
    clear hb
    have e0 := X2.out.c0
    have e1 := X2.out.c1
    go_wp2_with fail
    (refine (long_any s2 A2 n2 c2 30 _).mono ?_; rintro e v2 ⟨rfl, hb⟩)
    rw [b2]
    clear e0 e1
    have S1 := Lib.hid (S1.out.below hb)
    have S2 := Lib.hid (S2.out.below hb)
    have S3 := Lib.hid (S3.out.below hb)
    have X1 := Lib.hid (X1.out.below hb)
    have X2 := Lib.hid (X2.out.below hb)
    have X3 := Lib.hid (X3.out.below hb)
    have TB := Lib.hid (tab_on TB.out hb)
    have BW := Lib.hid (below_on BW.out hb)
    clear hb
    have e0 := X3.out.c0
    have e1 := X3.out.c1
    go_wp2_with fail
    (refine (long_any s3 A3 n3 c3 30 _).mono ?_; rintro e v3 ⟨rfl, hb⟩)
    rw [b3]
    clear e0 e1
    have S1 := Lib.hid (S1.out.below hb)
    have S2 := Lib.hid (S2.out.below hb)
    have S3 := Lib.hid (S3.out.below hb)
    have X1 := Lib.hid (X1.out.below hb)
    have X2 := Lib.hid (X2.out.below hb)
    have X3 := Lib.hid (X3.out.below hb)
    have TB := Lib.hid (tab_on TB.out hb)
    have BW := Lib.hid (below_on BW.out hb)
    clear hb
    go_wp2_with fail
    (refine (awake_any _ TB.out).mono ?_; rintro e vv ⟨rfl, hb⟩)
    have S1 := Lib.hid (S1.out.below hb)
    have S2 := Lib.hid (S2.out.below hb)
    have S3 := Lib.hid (S3.out.below hb)
    have X1 := Lib.hid (X1.out.below hb)
    have X2 := Lib.hid (X2.out.below hb)
    have X3 := Lib.hid (X3.out.below hb)
    have TB := Lib.hid (tab_on TB.out hb)
    have BW := Lib.hid (below_on BW.out hb)
    clear hb
    go_wp2_with fail
    go_ret
    exact ⟨rfl, BW.out⟩
  have z1b := zOf_lt (neg := s1) (xs := x1) (k := 30) (by rw [l1.out]; omega)
  have z2b := zOf_lt (neg := s2) (xs := x2) (k := 30) (by rw [l2.out]; omega)
  have z3b := zOf_lt (neg := s3) (xs := x3) (k := 30) (by rw [l3.out]; omega)
  obtain ⟨z1, hz1⟩ : ∃ z, zOf s1 x1 = z := ⟨_, rfl⟩
  obtain ⟨z2, hz2⟩ : ∃ z, zOf s2 x2 = z := ⟨_, rfl⟩
  obtain ⟨z3, hz3⟩ : ∃ z, zOf s3 x3 = z := ⟨_, rfl⟩
  rw [hz1] at z1b
  rw [hz2] at z2b
  rw [hz3] at z3b
  have Z1 := Lib.hid hz1
  have Z2 := Lib.hid hz2
  have Z3 := Lib.hid hz3
  have F12 := Lib.hid (fit_of (abs_add z1b z2b) (by omega))
  have F21 := Lib.hid (fit_of (abs_add z2b z1b) (by omega))
  have F13 := Lib.hid (fit_of (abs_mul z1b z3b) (by omega))
  have F31 := Lib.hid (fit_of (abs_mul z3b z1b) (by omega))
  have F23 := Lib.hid (fit_of (abs_mul z2b z3b) (by omega))
  have FT := Lib.hid (fit_of (abs_add (abs_mul z1b z3b) (abs_mul z2b z3b)) (by omega))
  have FU := Lib.hid (fit_of (abs_mul (abs_add z1b z2b) z3b) (by omega))
  have F1 := Lib.hid (fit_of z1b (by omega))
  have FS := Lib.hid (fit_of (abs_sub z1b z2b) (by omega))
  clear hz1 hz2 hz3 z1b z2b z3b
  have b1 : decide ((30 : Int) < (n1 : Int)) = false := decide_eq_false (by omega)
  have b2 : decide ((30 : Int) < (n2 : Int)) = false := decide_eq_false (by omega)
  have b3 : decide ((30 : Int) < (n3 : Int)) = false := decide_eq_false (by omega)
  have e0 := X1.out.c0
  have e1 := X1.out.c1
  go_wp2_with fail
  (refine (long_any s1 A1 n1 c1 30 _).mono ?_; rintro e v1 ⟨rfl, hb⟩)
  rw [b1]
  clear e0 e1
  have S1 := Lib.hid (S1.out.below hb)
  have S2 := Lib.hid (S2.out.below hb)
  have S3 := Lib.hid (S3.out.below hb)
  have X1 := Lib.hid (X1.out.below hb)
  have X2 := Lib.hid (X2.out.below hb)
  have X3 := Lib.hid (X3.out.below hb)
  have TB := Lib.hid (tab_on TB.out hb)
  have BW := Lib.hid (below_on BW.out hb)
  clear hb
  have e0 := X2.out.c0
  have e1 := X2.out.c1
  go_wp2_with fail
  (refine (long_any s2 A2 n2 c2 30 _).mono ?_; rintro e v2 ⟨rfl, hb⟩)
  rw [b2]
  clear e0 e1
  have S1 := Lib.hid (S1.out.below hb)
  have S2 := Lib.hid (S2.out.below hb)
  have S3 := Lib.hid (S3.out.below hb)
  have X1 := Lib.hid (X1.out.below hb)
  have X2 := Lib.hid (X2.out.below hb)
  have X3 := Lib.hid (X3.out.below hb)
  have TB := Lib.hid (tab_on TB.out hb)
  have BW := Lib.hid (below_on BW.out hb)
  clear hb
  have e0 := X3.out.c0
  have e1 := X3.out.c1
  go_wp2_with fail
  (refine (long_any s3 A3 n3 c3 30 _).mono ?_; rintro e v3 ⟨rfl, hb⟩)
  rw [b3]
  clear e0 e1
  have S1 := Lib.hid (S1.out.below hb)
  have S2 := Lib.hid (S2.out.below hb)
  have S3 := Lib.hid (S3.out.below hb)
  have X1 := Lib.hid (X1.out.below hb)
  have X2 := Lib.hid (X2.out.below hb)
  have X3 := Lib.hid (X3.out.below hb)
  have TB := Lib.hid (tab_on TB.out hb)
  have BW := Lib.hid (below_on BW.out hb)
  clear hb
  have e0 := X1.out.c0
  have e1 := X1.out.c1
  have e2 := X2.out.c0
  have e3 := X2.out.c1
  go_wp2_with fail
  (refine (add_ok _ _ _ _ _ _ _ _ x1 x2 z1 z2 (z1 + z2) _ S1.out S2.out Z1.out Z2.out rfl F12.out).mono ?_; rintro e u1 ⟨T1, k1, r1, rfl, hs, hb⟩)
  clear e0 e1 e2 e3
  have S1 := Lib.hid (S1.out.below hb)
  have S2 := Lib.hid (S2.out.below hb)
  have S3 := Lib.hid (S3.out.below hb)
  have X1 := Lib.hid (X1.out.below hb)
  have X2 := Lib.hid (X2.out.below hb)
  have X3 := Lib.hid (X3.out.below hb)
  have TB := Lib.hid (tab_on TB.out hb)
  have BW := Lib.hid (below_on BW.out hb)
  clear hb
  have R1 := Lib.hid hs
  clear hs
  go_upto_region 4 with fail
  have S1 := Lib.hid (S1.out.alloc (.cells #[.bool (nOf (z1 + z2)), .slice T1 k1 r1] 24))
  have S2 := Lib.hid (S2.out.alloc (.cells #[.bool (nOf (z1 + z2)), .slice T1 k1 r1] 24))
  have S3 := Lib.hid (S3.out.alloc (.cells #[.bool (nOf (z1 + z2)), .slice T1 k1 r1] 24))
  have X1 := Lib.hid (X1.out.alloc (.cells #[.bool (nOf (z1 + z2)), .slice T1 k1 r1] 24))
  have X2 := Lib.hid (X2.out.alloc (.cells #[.bool (nOf (z1 + z2)), .slice T1 k1 r1] 24))
  have X3 := Lib.hid (X3.out.alloc (.cells #[.bool (nOf (z1 + z2)), .slice T1 k1 r1] 24))
  have R1 := Lib.hid (R1.out.alloc (.cells #[.bool (nOf (z1 + z2)), .slice T1 k1 r1] 24))
  have Y1 := Lib.hid (Bx.new u1 (.bool (nOf (z1 + z2))) (.slice T1 k1 r1))
  have TB : Hid (Tab (u1.alloc (.cells #[.bool (nOf (z1 + z2)), .slice T1 k1 r1] 24))) := tab_on TB.out ((Below.refl _ _).alloc (Nat.le_refl _) _)
  have BW := Lib.hid (BW.out.alloc BW.out.size (.cells #[.bool (nOf (z1 + z2)), .slice T1 k1 r1] 24))
  generalize hWW : (u1.alloc (.cells #[.bool (nOf (z1 + z2)), .slice T1 k1 r1] 24)) = V1 at *
  clear hWW
  have e0 := X2.out.c0
  have e1 := X2.out.c1
  have e2 := X1.out.c0
  have e3 := X1.out.c1
  go_wp2_with fail
  (refine (add_ok _ _ _ _ _ _ _ _ x2 x1 z2 z1 (z2 + z1) _ S2.out S1.out Z2.out Z1.out rfl F21.out).mono ?_; rintro e u2 ⟨T2, k2, r2, rfl, hs, hb⟩)
  clear e0 e1 e2 e3
  have S1 := Lib.hid (S1.out.below hb)
  have S2 := Lib.hid (S2.out.below hb)
  have S3 := Lib.hid (S3.out.below hb)
  have X1 := Lib.hid (X1.out.below hb)
  have X2 := Lib.hid (X2.out.below hb)
  have X3 := Lib.hid (X3.out.below hb)
  have R1 := Lib.hid (R1.out.below hb)
  have Y1 := Lib.hid (Y1.out.below hb)
  have TB := Lib.hid (tab_on TB.out hb)
  have BW := Lib.hid (below_on BW.out hb)
  clear hb
  have R2 := Lib.hid hs
  clear hs
  go_upto_region 5 with fail
  have S1 := Lib.hid (S1.out.alloc (.cells #[.bool (nOf (z2 + z1)), .slice T2 k2 r2] 24))
  have S2 := Lib.hid (S2.out.alloc (.cells #[.bool (nOf (z2 + z1)), .slice T2 k2 r2] 24))
  have S3 := Lib.hid (S3.out.alloc (.cells #[.bool (nOf (z2 + z1)), .slice T2 k2 r2] 24))
  have X1 := Lib.hid (X1.out.alloc (.cells #[.bool (nOf (z2 + z1)), .slice T2 k2 r2] 24))
  have X2 := Lib.hid (X2.out.alloc (.cells #[.bool (nOf (z2 + z1)), .slice T2 k2 r2] 24))
  have X3 := Lib.hid (X3.out.alloc (.cells #[.bool (nOf (z2 + z1)), .slice T2 k2 r2] 24))
  have R1 := Lib.hid (R1.out.alloc (.cells #[.bool (nOf (z2 + z1)), .slice T2 k2 r2] 24))
  have Y1 := Lib.hid (Y1.out.alloc (.cells #[.bool (nOf (z2 + z1)), .slice T2 k2 r2] 24))
  have R2 := Lib.hid (R2.out.alloc (.cells #[.bool (nOf (z2 + z1)), .slice T2 k2 r2] 24))
  have Y2 := Lib.hid (Bx.new u2 (.bool (nOf (z2 + z1))) (.slice T2 k2 r2))
  have TB : Hid (Tab (u2.alloc (.cells #[.bool (nOf (z2 + z1)), .slice T2 k2 r2] 24))) := tab_on TB.out ((Below.refl _ _).alloc (Nat.le_refl _) _)
  have BW := Lib.hid (BW.out.alloc BW.out.size (.cells #[.bool (nOf (z2 + z1)), .slice T2 k2 r2] 24))
  generalize hWW : (u2.alloc (.cells #[.bool (nOf (z2 + z1)), .slice T2 k2 r2] 24)) = V2 at *
  clear hWW
  have e0 := X1.out.c0
  have e1 := X1.out.c1
  have e2 := X3.out.c0
  have e3 := X3.out.c1
  go_wp2_with fail
  (refine (mul_ok _ _ _ _ _ _ _ _ x1 x3 z1 z3 (z1 * z3) _ S1.out S3.out Z1.out Z3.out rfl F13.out).mono ?_; rintro e u3 ⟨T3, k3, r3, rfl, hs, hb⟩)
  clear e0 e1 e2 e3
  have S1 := Lib.hid (S1.out.below hb)
  have S2 := Lib.hid (S2.out.below hb)
  have S3 := Lib.hid (S3.out.below hb)
  have X1 := Lib.hid (X1.out.below hb)
  have X2 := Lib.hid (X2.out.below hb)
  have X3 := Lib.hid (X3.out.below hb)
  have R1 := Lib.hid (R1.out.below hb)
  have Y1 := Lib.hid (Y1.out.below hb)
  have R2 := Lib.hid (R2.out.below hb)
  have Y2 := Lib.hid (Y2.out.below hb)
  have TB := Lib.hid (tab_on TB.out hb)
  have BW := Lib.hid (below_on BW.out hb)
  clear hb
  have R3 := Lib.hid hs
  clear hs
  go_upto_region 6 with fail
  have S1 := Lib.hid (S1.out.alloc (.cells #[.bool (nOf (z1 * z3)), .slice T3 k3 r3] 24))
  have S2 := Lib.hid (S2.out.alloc (.cells #[.bool (nOf (z1 * z3)), .slice T3 k3 r3] 24))
  have S3 := Lib.hid (S3.out.alloc (.cells #[.bool (nOf (z1 * z3)), .slice T3 k3 r3] 24))
  have X1 := Lib.hid (X1.out.alloc (.cells #[.bool (nOf (z1 * z3)), .slice T3 k3 r3] 24))
  have X2 := Lib.hid (X2.out.alloc (.cells #[.bool (nOf (z1 * z3)), .slice T3 k3 r3] 24))
  have X3 := Lib.hid (X3.out.alloc (.cells #[.bool (nOf (z1 * z3)), .slice T3 k3 r3] 24))
  have R1 := Lib.hid (R1.out.alloc (.cells #[.bool (nOf (z1 * z3)), .slice T3 k3 r3] 24))
  have Y1 := Lib.hid (Y1.out.alloc (.cells #[.bool (nOf (z1 * z3)), .slice T3 k3 r3] 24))
  have R2 := Lib.hid (R2.out.alloc (.cells #[.bool (nOf (z1 * z3)), .slice T3 k3 r3] 24))
  have Y2 := Lib.hid (Y2.out.alloc (.cells #[.bool (nOf (z1 * z3)), .slice T3 k3 r3] 24))
  have R3 := Lib.hid (R3.out.alloc (.cells #[.bool (nOf (z1 * z3)), .slice T3 k3 r3] 24))
  have Y3 := Lib.hid (Bx.new u3 (.bool (nOf (z1 * z3))) (.slice T3 k3 r3))
  have TB : Hid (Tab (u3.alloc (.cells #[.bool (nOf (z1 * z3)), .slice T3 k3 r3] 24))) := tab_on TB.out ((Below.refl _ _).alloc (Nat.le_refl _) _)
  have BW := Lib.hid (BW.out.alloc BW.out.size (.cells #[.bool (nOf (z1 * z3)), .slice T3 k3 r3] 24))
  generalize hWW : (u3.alloc (.cells #[.bool (nOf (z1 * z3)), .slice T3 k3 r3] 24)) = V3 at *
  clear hWW
  have e0 := X3.out.c0
  have e1 := X3.out.c1
  have e2 := X1.out.c0
  have e3 := X1.out.c1
  go_wp2_with fail
  (refine (mul_ok _ _ _ _ _ _ _ _ x3 x1 z3 z1 (z3 * z1) _ S3.out S1.out Z3.out Z1.out rfl F31.out).mono ?_; rintro e u4 ⟨T4, k4, r4, rfl, hs, hb⟩)
  clear e0 e1 e2 e3
  have S1 := Lib.hid (S1.out.below hb)
  have S2 := Lib.hid (S2.out.below hb)
  have S3 := Lib.hid (S3.out.below hb)
  have X1 := Lib.hid (X1.out.below hb)
  have X2 := Lib.hid (X2.out.below hb)
  have X3 := Lib.hid (X3.out.below hb)
  have R1 := Lib.hid (R1.out.below hb)
  have Y1 := Lib.hid (Y1.out.below hb)
  have R2 := Lib.hid (R2.out.below hb)
  have Y2 := Lib.hid (Y2.out.below hb)
  have R3 := Lib.hid (R3.out.below hb)
  have Y3 := Lib.hid (Y3.out.below hb)
  have TB := Lib.hid (tab_on TB.out hb)
  have BW := Lib.hid (below_on BW.out hb)
  clear hb
  have R4 := Lib.hid hs
  clear hs
  go_upto_region 7 with fail
  have S1 := Lib.hid (S1.out.alloc (.cells #[.bool (nOf (z3 * z1)), .slice T4 k4 r4] 24))
  have S2 := Lib.hid (S2.out.alloc (.cells #[.bool (nOf (z3 * z1)), .slice T4 k4 r4] 24))
  have S3 := Lib.hid (S3.out.alloc (.cells #[.bool (nOf (z3 * z1)), .slice T4 k4 r4] 24))
  have X1 := Lib.hid (X1.out.alloc (.cells #[.bool (nOf (z3 * z1)), .slice T4 k4 r4] 24))
  have X2 := Lib.hid (X2.out.alloc (.cells #[.bool (nOf (z3 * z1)), .slice T4 k4 r4] 24))
  have X3 := Lib.hid (X3.out.alloc (.cells #[.bool (nOf (z3 * z1)), .slice T4 k4 r4] 24))
  have R1 := Lib.hid (R1.out.alloc (.cells #[.bool (nOf (z3 * z1)), .slice T4 k4 r4] 24))
  have Y1 := Lib.hid (Y1.out.alloc (.cells #[.bool (nOf (z3 * z1)), .slice T4 k4 r4] 24))
  have R2 := Lib.hid (R2.out.alloc (.cells #[.bool (nOf (z3 * z1)), .slice T4 k4 r4] 24))
  have Y2 := Lib.hid (Y2.out.alloc (.cells #[.bool (nOf (z3 * z1)), .slice T4 k4 r4] 24))
  have R3 := Lib.hid (R3.out.alloc (.cells #[.bool (nOf (z3 * z1)), .slice T4 k4 r4] 24))
  have Y3 := Lib.hid (Y3.out.alloc (.cells #[.bool (nOf (z3 * z1)), .slice T4 k4 r4] 24))
  have R4 := Lib.hid (R4.out.alloc (.cells #[.bool (nOf (z3 * z1)), .slice T4 k4 r4] 24))
  have Y4 := Lib.hid (Bx.new u4 (.bool (nOf (z3 * z1))) (.slice T4 k4 r4))
  have TB : Hid (Tab (u4.alloc (.cells #[.bool (nOf (z3 * z1)), .slice T4 k4 r4] 24))) := tab_on TB.out ((Below.refl _ _).alloc (Nat.le_refl _) _)
  have BW := Lib.hid (BW.out.alloc BW.out.size (.cells #[.bool (nOf (z3 * z1)), .slice T4 k4 r4] 24))
  generalize hWW : (u4.alloc (.cells #[.bool (nOf (z3 * z1)), .slice T4 k4 r4] 24)) = V4 at *
  clear hWW
  have e0 := Y1.out.c0
  have e1 := Y1.out.c1
  have e2 := Y2.out.c0
  have e3 := Y2.out.c1
  go_wp2_with fail
  (refine (same_ok _ _ _ _ _ _ _ _ _ _ _ R1.out R2.out (by rw [Int.add_comm]) (by rw [Int.add_comm])).mono ?_; rintro e m1 ⟨rfl, hb⟩)
  clear e0 e1 e2 e3
  have S1 := Lib.hid (S1.out.below hb)
  have S2 := Lib.hid (S2.out.below hb)
  have S3 := Lib.hid (S3.out.below hb)
  have X1 := Lib.hid (X1.out.below hb)
  have X2 := Lib.hid (X2.out.below hb)
  have X3 := Lib.hid (X3.out.below hb)
  have R1 := Lib.hid (R1.out.below hb)
  have Y1 := Lib.hid (Y1.out.below hb)
  have R2 := Lib.hid (R2.out.below hb)
  have Y2 := Lib.hid (Y2.out.below hb)
  have R3 := Lib.hid (R3.out.below hb)
  have Y3 := Lib.hid (Y3.out.below hb)
  have R4 := Lib.hid (R4.out.below hb)
  have Y4 := Lib.hid (Y4.out.below hb)
  have TB := Lib.hid (tab_on TB.out hb)
  have BW := Lib.hid (below_on BW.out hb)
  clear hb
  have e0 := Y3.out.c0
  have e1 := Y3.out.c1
  have e2 := Y4.out.c0
  have e3 := Y4.out.c1
  go_wp2_with fail
  (refine (same_ok _ _ _ _ _ _ _ _ _ _ _ R3.out R4.out (by rw [Int.mul_comm]) (by rw [Int.mul_comm])).mono ?_; rintro e m2 ⟨rfl, hb⟩)
  clear e0 e1 e2 e3
  have S1 := Lib.hid (S1.out.below hb)
  have S2 := Lib.hid (S2.out.below hb)
  have S3 := Lib.hid (S3.out.below hb)
  have X1 := Lib.hid (X1.out.below hb)
  have X2 := Lib.hid (X2.out.below hb)
  have X3 := Lib.hid (X3.out.below hb)
  have R1 := Lib.hid (R1.out.below hb)
  have Y1 := Lib.hid (Y1.out.below hb)
  have R2 := Lib.hid (R2.out.below hb)
  have Y2 := Lib.hid (Y2.out.below hb)
  have R3 := Lib.hid (R3.out.below hb)
  have Y3 := Lib.hid (Y3.out.below hb)
  have R4 := Lib.hid (R4.out.below hb)
  have Y4 := Lib.hid (Y4.out.below hb)
  have TB := Lib.hid (tab_on TB.out hb)
  have BW := Lib.hid (below_on BW.out hb)
  clear hb
  have e0 := X2.out.c0
  have e1 := X2.out.c1
  have e2 := X3.out.c0
  have e3 := X3.out.c1
  go_wp2_with fail
  (refine (mul_ok _ _ _ _ _ _ _ _ x2 x3 z2 z3 (z2 * z3) _ S2.out S3.out Z2.out Z3.out rfl F23.out).mono ?_; rintro e u5 ⟨T5, k5, r5, rfl, hs, hb⟩)
  clear e0 e1 e2 e3
  have S1 := Lib.hid (S1.out.below hb)
  have S2 := Lib.hid (S2.out.below hb)
  have S3 := Lib.hid (S3.out.below hb)
  have X1 := Lib.hid (X1.out.below hb)
  have X2 := Lib.hid (X2.out.below hb)
  have X3 := Lib.hid (X3.out.below hb)
  have R1 := Lib.hid (R1.out.below hb)
  have Y1 := Lib.hid (Y1.out.below hb)
  have R2 := Lib.hid (R2.out.below hb)
  have Y2 := Lib.hid (Y2.out.below hb)
  have R3 := Lib.hid (R3.out.below hb)
  have Y3 := Lib.hid (Y3.out.below hb)
  have R4 := Lib.hid (R4.out.below hb)
  have Y4 := Lib.hid (Y4.out.below hb)
  have TB := Lib.hid (tab_on TB.out hb)
  have BW := Lib.hid (below_on BW.out hb)
  clear hb
  have R5 := Lib.hid hs
  clear hs
  go_upto_region 10 with fail
  have S1 := Lib.hid (S1.out.alloc (.cells #[.bool (nOf (z2 * z3)), .slice T5 k5 r5] 24))
  have S2 := Lib.hid (S2.out.alloc (.cells #[.bool (nOf (z2 * z3)), .slice T5 k5 r5] 24))
  have S3 := Lib.hid (S3.out.alloc (.cells #[.bool (nOf (z2 * z3)), .slice T5 k5 r5] 24))
  have X1 := Lib.hid (X1.out.alloc (.cells #[.bool (nOf (z2 * z3)), .slice T5 k5 r5] 24))
  have X2 := Lib.hid (X2.out.alloc (.cells #[.bool (nOf (z2 * z3)), .slice T5 k5 r5] 24))
  have X3 := Lib.hid (X3.out.alloc (.cells #[.bool (nOf (z2 * z3)), .slice T5 k5 r5] 24))
  have R1 := Lib.hid (R1.out.alloc (.cells #[.bool (nOf (z2 * z3)), .slice T5 k5 r5] 24))
  have Y1 := Lib.hid (Y1.out.alloc (.cells #[.bool (nOf (z2 * z3)), .slice T5 k5 r5] 24))
  have R2 := Lib.hid (R2.out.alloc (.cells #[.bool (nOf (z2 * z3)), .slice T5 k5 r5] 24))
  have Y2 := Lib.hid (Y2.out.alloc (.cells #[.bool (nOf (z2 * z3)), .slice T5 k5 r5] 24))
  have R3 := Lib.hid (R3.out.alloc (.cells #[.bool (nOf (z2 * z3)), .slice T5 k5 r5] 24))
  have Y3 := Lib.hid (Y3.out.alloc (.cells #[.bool (nOf (z2 * z3)), .slice T5 k5 r5] 24))
  have R4 := Lib.hid (R4.out.alloc (.cells #[.bool (nOf (z2 * z3)), .slice T5 k5 r5] 24))
  have Y4 := Lib.hid (Y4.out.alloc (.cells #[.bool (nOf (z2 * z3)), .slice T5 k5 r5] 24))
  have R5 := Lib.hid (R5.out.alloc (.cells #[.bool (nOf (z2 * z3)), .slice T5 k5 r5] 24))
  have Y5 := Lib.hid (Bx.new u5 (.bool (nOf (z2 * z3))) (.slice T5 k5 r5))
  have TB : Hid (Tab (u5.alloc (.cells #[.bool (nOf (z2 * z3)), .slice T5 k5 r5] 24))) := tab_on TB.out ((Below.refl _ _).alloc (Nat.le_refl _) _)
  have BW := Lib.hid (BW.out.alloc BW.out.size (.cells #[.bool (nOf (z2 * z3)), .slice T5 k5 r5] 24))
  generalize hWW : (u5.alloc (.cells #[.bool (nOf (z2 * z3)), .slice T5 k5 r5] 24)) = V5 at *
  clear hWW
  have e0 := Y3.out.c0
  have e1 := Y3.out.c1
  have e2 := Y5.out.c0
  have e3 := Y5.out.c1
  go_wp2_with fail
  (refine (add_ok _ _ _ _ _ _ _ _ _ _ (z1 * z3) (z2 * z3) (z1 * z3 + z2 * z3) _ R3.out R5.out (zOf_lOf F13.out) (zOf_lOf F23.out) rfl FT.out).mono ?_; rintro e u6 ⟨T6, k6, r6, rfl, hs, hb⟩)
  clear e0 e1 e2 e3
  have S1 := Lib.hid (S1.out.below hb)
  have S2 := Lib.hid (S2.out.below hb)
  have S3 := Lib.hid (S3.out.below hb)
  have X1 := Lib.hid (X1.out.below hb)
  have X2 := Lib.hid (X2.out.below hb)
  have X3 := Lib.hid (X3.out.below hb)
  have R1 := Lib.hid (R1.out.below hb)
  have Y1 := Lib.hid (Y1.out.below hb)
  have R2 := Lib.hid (R2.out.below hb)
  have Y2 := Lib.hid (Y2.out.below hb)
  have R3 := Lib.hid (R3.out.below hb)
  have Y3 := Lib.hid (Y3.out.below hb)
  have R4 := Lib.hid (R4.out.below hb)
  have Y4 := Lib.hid (Y4.out.below hb)
  have R5 := Lib.hid (R5.out.below hb)
  have Y5 := Lib.hid (Y5.out.below hb)
  have TB := Lib.hid (tab_on TB.out hb)
  have BW := Lib.hid (below_on BW.out hb)
  clear hb
  have R6 := Lib.hid hs
  clear hs
  go_upto_region 11 with fail
  have S1 := Lib.hid (S1.out.alloc (.cells #[.bool (nOf (z1 * z3 + z2 * z3)), .slice T6 k6 r6] 24))
  have S2 := Lib.hid (S2.out.alloc (.cells #[.bool (nOf (z1 * z3 + z2 * z3)), .slice T6 k6 r6] 24))
  have S3 := Lib.hid (S3.out.alloc (.cells #[.bool (nOf (z1 * z3 + z2 * z3)), .slice T6 k6 r6] 24))
  have X1 := Lib.hid (X1.out.alloc (.cells #[.bool (nOf (z1 * z3 + z2 * z3)), .slice T6 k6 r6] 24))
  have X2 := Lib.hid (X2.out.alloc (.cells #[.bool (nOf (z1 * z3 + z2 * z3)), .slice T6 k6 r6] 24))
  have X3 := Lib.hid (X3.out.alloc (.cells #[.bool (nOf (z1 * z3 + z2 * z3)), .slice T6 k6 r6] 24))
  have R1 := Lib.hid (R1.out.alloc (.cells #[.bool (nOf (z1 * z3 + z2 * z3)), .slice T6 k6 r6] 24))
  have Y1 := Lib.hid (Y1.out.alloc (.cells #[.bool (nOf (z1 * z3 + z2 * z3)), .slice T6 k6 r6] 24))
  have R2 := Lib.hid (R2.out.alloc (.cells #[.bool (nOf (z1 * z3 + z2 * z3)), .slice T6 k6 r6] 24))
  have Y2 := Lib.hid (Y2.out.alloc (.cells #[.bool (nOf (z1 * z3 + z2 * z3)), .slice T6 k6 r6] 24))
  have R3 := Lib.hid (R3.out.alloc (.cells #[.bool (nOf (z1 * z3 + z2 * z3)), .slice T6 k6 r6] 24))
  have Y3 := Lib.hid (Y3.out.alloc (.cells #[.bool (nOf (z1 * z3 + z2 * z3)), .slice T6 k6 r6] 24))
  have R4 := Lib.hid (R4.out.alloc (.cells #[.bool (nOf (z1 * z3 + z2 * z3)), .slice T6 k6 r6] 24))
  have Y4 := Lib.hid (Y4.out.alloc (.cells #[.bool (nOf (z1 * z3 + z2 * z3)), .slice T6 k6 r6] 24))
  have R5 := Lib.hid (R5.out.alloc (.cells #[.bool (nOf (z1 * z3 + z2 * z3)), .slice T6 k6 r6] 24))
  have Y5 := Lib.hid (Y5.out.alloc (.cells #[.bool (nOf (z1 * z3 + z2 * z3)), .slice T6 k6 r6] 24))
  have R6 := Lib.hid (R6.out.alloc (.cells #[.bool (nOf (z1 * z3 + z2 * z3)), .slice T6 k6 r6] 24))
  have Y6 := Lib.hid (Bx.new u6 (.bool (nOf (z1 * z3 + z2 * z3))) (.slice T6 k6 r6))
  have TB : Hid (Tab (u6.alloc (.cells #[.bool (nOf (z1 * z3 + z2 * z3)), .slice T6 k6 r6] 24))) := tab_on TB.out ((Below.refl _ _).alloc (Nat.le_refl _) _)
  have BW := Lib.hid (BW.out.alloc BW.out.size (.cells #[.bool (nOf (z1 * z3 + z2 * z3)), .slice T6 k6 r6] 24))
  generalize hWW : (u6.alloc (.cells #[.bool (nOf (z1 * z3 + z2 * z3)), .slice T6 k6 r6] 24)) = V6 at *
  clear hWW
  have e0 := Y1.out.c0
  have e1 := Y1.out.c1
  have e2 := X3.out.c0
  have e3 := X3.out.c1
  go_wp2_with fail
  (refine (mul_ok _ _ _ _ _ _ _ _ _ x3 (z1 + z2) z3 ((z1 + z2) * z3) _ R1.out S3.out (zOf_lOf F12.out) Z3.out rfl FU.out).mono ?_; rintro e u7 ⟨T7, k7, r7, rfl, hs, hb⟩)
  clear e0 e1 e2 e3
  have S1 := Lib.hid (S1.out.below hb)
  have S2 := Lib.hid (S2.out.below hb)
  have S3 := Lib.hid (S3.out.below hb)
  have X1 := Lib.hid (X1.out.below hb)
  have X2 := Lib.hid (X2.out.below hb)
  have X3 := Lib.hid (X3.out.below hb)
  have R1 := Lib.hid (R1.out.below hb)
  have Y1 := Lib.hid (Y1.out.below hb)
  have R2 := Lib.hid (R2.out.below hb)
  have Y2 := Lib.hid (Y2.out.below hb)
  have R3 := Lib.hid (R3.out.below hb)
  have Y3 := Lib.hid (Y3.out.below hb)
  have R4 := Lib.hid (R4.out.below hb)
  have Y4 := Lib.hid (Y4.out.below hb)
  have R5 := Lib.hid (R5.out.below hb)
  have Y5 := Lib.hid (Y5.out.below hb)
  have R6 := Lib.hid (R6.out.below hb)
  have Y6 := Lib.hid (Y6.out.below hb)
  have TB := Lib.hid (tab_on TB.out hb)
  have BW := Lib.hid (below_on BW.out hb)
  clear hb
  have R7 := Lib.hid hs
  clear hs
  go_upto_region 12 with fail
  have S1 := Lib.hid (S1.out.alloc (.cells #[.bool (nOf ((z1 + z2) * z3)), .slice T7 k7 r7] 24))
  have S2 := Lib.hid (S2.out.alloc (.cells #[.bool (nOf ((z1 + z2) * z3)), .slice T7 k7 r7] 24))
  have S3 := Lib.hid (S3.out.alloc (.cells #[.bool (nOf ((z1 + z2) * z3)), .slice T7 k7 r7] 24))
  have X1 := Lib.hid (X1.out.alloc (.cells #[.bool (nOf ((z1 + z2) * z3)), .slice T7 k7 r7] 24))
  have X2 := Lib.hid (X2.out.alloc (.cells #[.bool (nOf ((z1 + z2) * z3)), .slice T7 k7 r7] 24))
  have X3 := Lib.hid (X3.out.alloc (.cells #[.bool (nOf ((z1 + z2) * z3)), .slice T7 k7 r7] 24))
  have R1 := Lib.hid (R1.out.alloc (.cells #[.bool (nOf ((z1 + z2) * z3)), .slice T7 k7 r7] 24))
  have Y1 := Lib.hid (Y1.out.alloc (.cells #[.bool (nOf ((z1 + z2) * z3)), .slice T7 k7 r7] 24))
  have R2 := Lib.hid (R2.out.alloc (.cells #[.bool (nOf ((z1 + z2) * z3)), .slice T7 k7 r7] 24))
  have Y2 := Lib.hid (Y2.out.alloc (.cells #[.bool (nOf ((z1 + z2) * z3)), .slice T7 k7 r7] 24))
  have R3 := Lib.hid (R3.out.alloc (.cells #[.bool (nOf ((z1 + z2) * z3)), .slice T7 k7 r7] 24))
  have Y3 := Lib.hid (Y3.out.alloc (.cells #[.bool (nOf ((z1 + z2) * z3)), .slice T7 k7 r7] 24))
  have R4 := Lib.hid (R4.out.alloc (.cells #[.bool (nOf ((z1 + z2) * z3)), .slice T7 k7 r7] 24))
  have Y4 := Lib.hid (Y4.out.alloc (.cells #[.bool (nOf ((z1 + z2) * z3)), .slice T7 k7 r7] 24))
  have R5 := Lib.hid (R5.out.alloc (.cells #[.bool (nOf ((z1 + z2) * z3)), .slice T7 k7 r7] 24))
  have Y5 := Lib.hid (Y5.out.alloc (.cells #[.bool (nOf ((z1 + z2) * z3)), .slice T7 k7 r7] 24))
  have R6 := Lib.hid (R6.out.alloc (.cells #[.bool (nOf ((z1 + z2) * z3)), .slice T7 k7 r7] 24))
  have Y6 := Lib.hid (Y6.out.alloc (.cells #[.bool (nOf ((z1 + z2) * z3)), .slice T7 k7 r7] 24))
  have R7 := Lib.hid (R7.out.alloc (.cells #[.bool (nOf ((z1 + z2) * z3)), .slice T7 k7 r7] 24))
  have Y7 := Lib.hid (Bx.new u7 (.bool (nOf ((z1 + z2) * z3))) (.slice T7 k7 r7))
  have TB : Hid (Tab (u7.alloc (.cells #[.bool (nOf ((z1 + z2) * z3)), .slice T7 k7 r7] 24))) := tab_on TB.out ((Below.refl _ _).alloc (Nat.le_refl _) _)
  have BW := Lib.hid (BW.out.alloc BW.out.size (.cells #[.bool (nOf ((z1 + z2) * z3)), .slice T7 k7 r7] 24))
  generalize hWW : (u7.alloc (.cells #[.bool (nOf ((z1 + z2) * z3)), .slice T7 k7 r7] 24)) = V7 at *
  clear hWW
  have e0 := Y6.out.c0
  have e1 := Y6.out.c1
  have e2 := Y7.out.c0
  have e3 := Y7.out.c1
  go_wp2_with fail
  (refine (same_ok _ _ _ _ _ _ _ _ _ _ _ R6.out R7.out (by rw [Int.add_mul]) (by rw [Int.add_mul])).mono ?_; rintro e m3 ⟨rfl, hb⟩)
  clear e0 e1 e2 e3
  have S1 := Lib.hid (S1.out.below hb)
  have S2 := Lib.hid (S2.out.below hb)
  have S3 := Lib.hid (S3.out.below hb)
  have X1 := Lib.hid (X1.out.below hb)
  have X2 := Lib.hid (X2.out.below hb)
  have X3 := Lib.hid (X3.out.below hb)
  have R1 := Lib.hid (R1.out.below hb)
  have Y1 := Lib.hid (Y1.out.below hb)
  have R2 := Lib.hid (R2.out.below hb)
  have Y2 := Lib.hid (Y2.out.below hb)
  have R3 := Lib.hid (R3.out.below hb)
  have Y3 := Lib.hid (Y3.out.below hb)
  have R4 := Lib.hid (R4.out.below hb)
  have Y4 := Lib.hid (Y4.out.below hb)
  have R5 := Lib.hid (R5.out.below hb)
  have Y5 := Lib.hid (Y5.out.below hb)
  have R6 := Lib.hid (R6.out.below hb)
  have Y6 := Lib.hid (Y6.out.below hb)
  have R7 := Lib.hid (R7.out.below hb)
  have Y7 := Lib.hid (Y7.out.below hb)
  have TB := Lib.hid (tab_on TB.out hb)
  have BW := Lib.hid (below_on BW.out hb)
  clear hb
  have e0 := Y1.out.c0
  have e1 := Y1.out.c1
  have e2 := X2.out.c0
  have e3 := X2.out.c1
  go_wp2_with fail
  (refine (sub_ok _ _ _ _ _ _ _ _ _ x2 (z1 + z2) z2 z1 _ R1.out S2.out (zOf_lOf F12.out) Z2.out (by omega) F1.out).mono ?_; rintro e u8 ⟨T8, k8, r8, rfl, hs, hb⟩)
  clear e0 e1 e2 e3
  have S1 := Lib.hid (S1.out.below hb)
  have S2 := Lib.hid (S2.out.below hb)
  have S3 := Lib.hid (S3.out.below hb)
  have X1 := Lib.hid (X1.out.below hb)
  have X2 := Lib.hid (X2.out.below hb)
  have X3 := Lib.hid (X3.out.below hb)
  have R1 := Lib.hid (R1.out.below hb)
  have Y1 := Lib.hid (Y1.out.below hb)
  have R2 := Lib.hid (R2.out.below hb)
  have Y2 := Lib.hid (Y2.out.below hb)
  have R3 := Lib.hid (R3.out.below hb)
  have Y3 := Lib.hid (Y3.out.below hb)
  have R4 := Lib.hid (R4.out.below hb)
  have Y4 := Lib.hid (Y4.out.below hb)
  have R5 := Lib.hid (R5.out.below hb)
  have Y5 := Lib.hid (Y5.out.below hb)
  have R6 := Lib.hid (R6.out.below hb)
  have Y6 := Lib.hid (Y6.out.below hb)
  have R7 := Lib.hid (R7.out.below hb)
  have Y7 := Lib.hid (Y7.out.below hb)
  have TB := Lib.hid (tab_on TB.out hb)
  have BW := Lib.hid (below_on BW.out hb)
  clear hb
  have R8 := Lib.hid hs
  clear hs
  go_upto_region 15 with fail
  have S1 := Lib.hid (S1.out.alloc (.cells #[.bool (nOf (z1)), .slice T8 k8 r8] 24))
  have S2 := Lib.hid (S2.out.alloc (.cells #[.bool (nOf (z1)), .slice T8 k8 r8] 24))
  have S3 := Lib.hid (S3.out.alloc (.cells #[.bool (nOf (z1)), .slice T8 k8 r8] 24))
  have X1 := Lib.hid (X1.out.alloc (.cells #[.bool (nOf (z1)), .slice T8 k8 r8] 24))
  have X2 := Lib.hid (X2.out.alloc (.cells #[.bool (nOf (z1)), .slice T8 k8 r8] 24))
  have X3 := Lib.hid (X3.out.alloc (.cells #[.bool (nOf (z1)), .slice T8 k8 r8] 24))
  have R1 := Lib.hid (R1.out.alloc (.cells #[.bool (nOf (z1)), .slice T8 k8 r8] 24))
  have Y1 := Lib.hid (Y1.out.alloc (.cells #[.bool (nOf (z1)), .slice T8 k8 r8] 24))
  have R2 := Lib.hid (R2.out.alloc (.cells #[.bool (nOf (z1)), .slice T8 k8 r8] 24))
  have Y2 := Lib.hid (Y2.out.alloc (.cells #[.bool (nOf (z1)), .slice T8 k8 r8] 24))
  have R3 := Lib.hid (R3.out.alloc (.cells #[.bool (nOf (z1)), .slice T8 k8 r8] 24))
  have Y3 := Lib.hid (Y3.out.alloc (.cells #[.bool (nOf (z1)), .slice T8 k8 r8] 24))
  have R4 := Lib.hid (R4.out.alloc (.cells #[.bool (nOf (z1)), .slice T8 k8 r8] 24))
  have Y4 := Lib.hid (Y4.out.alloc (.cells #[.bool (nOf (z1)), .slice T8 k8 r8] 24))
  have R5 := Lib.hid (R5.out.alloc (.cells #[.bool (nOf (z1)), .slice T8 k8 r8] 24))
  have Y5 := Lib.hid (Y5.out.alloc (.cells #[.bool (nOf (z1)), .slice T8 k8 r8] 24))
  have R6 := Lib.hid (R6.out.alloc (.cells #[.bool (nOf (z1)), .slice T8 k8 r8] 24))
  have Y6 := Lib.hid (Y6.out.alloc (.cells #[.bool (nOf (z1)), .slice T8 k8 r8] 24))
  have R7 := Lib.hid (R7.out.alloc (.cells #[.bool (nOf (z1)), .slice T8 k8 r8] 24))
  have Y7 := Lib.hid (Y7.out.alloc (.cells #[.bool (nOf (z1)), .slice T8 k8 r8] 24))
  have R8 := Lib.hid (R8.out.alloc (.cells #[.bool (nOf (z1)), .slice T8 k8 r8] 24))
  have Y8 := Lib.hid (Bx.new u8 (.bool (nOf (z1))) (.slice T8 k8 r8))
  have TB : Hid (Tab (u8.alloc (.cells #[.bool (nOf (z1)), .slice T8 k8 r8] 24))) := tab_on TB.out ((Below.refl _ _).alloc (Nat.le_refl _) _)
  have BW := Lib.hid (BW.out.alloc BW.out.size (.cells #[.bool (nOf (z1)), .slice T8 k8 r8] 24))
  generalize hWW : (u8.alloc (.cells #[.bool (nOf (z1)), .slice T8 k8 r8] 24)) = V8 at *
  clear hWW
  have e0 := X1.out.c0
  have e1 := X1.out.c1
  have e2 := X2.out.c0
  have e3 := X2.out.c1
  go_wp2_with fail
  (refine (sub_ok _ _ _ _ _ _ _ _ x1 x2 z1 z2 (z1 + -z2) _ S1.out S2.out Z1.out Z2.out rfl FS.out).mono ?_; rintro e u9 ⟨T9, k9, r9, rfl, hs, hb⟩)
  clear e0 e1 e2 e3
  have S1 := Lib.hid (S1.out.below hb)
  have S2 := Lib.hid (S2.out.below hb)
  have S3 := Lib.hid (S3.out.below hb)
  have X1 := Lib.hid (X1.out.below hb)
  have X2 := Lib.hid (X2.out.below hb)
  have X3 := Lib.hid (X3.out.below hb)
  have R1 := Lib.hid (R1.out.below hb)
  have Y1 := Lib.hid (Y1.out.below hb)
  have R2 := Lib.hid (R2.out.below hb)
  have Y2 := Lib.hid (Y2.out.below hb)
  have R3 := Lib.hid (R3.out.below hb)
  have Y3 := Lib.hid (Y3.out.below hb)
  have R4 := Lib.hid (R4.out.below hb)
  have Y4 := Lib.hid (Y4.out.below hb)
  have R5 := Lib.hid (R5.out.below hb)
  have Y5 := Lib.hid (Y5.out.below hb)
  have R6 := Lib.hid (R6.out.below hb)
  have Y6 := Lib.hid (Y6.out.below hb)
  have R7 := Lib.hid (R7.out.below hb)
  have Y7 := Lib.hid (Y7.out.below hb)
  have R8 := Lib.hid (R8.out.below hb)
  have Y8 := Lib.hid (Y8.out.below hb)
  have TB := Lib.hid (tab_on TB.out hb)
  have BW := Lib.hid (below_on BW.out hb)
  clear hb
  have R9 := Lib.hid hs
  clear hs
  go_upto_region 16 with fail
  have S1 := Lib.hid (S1.out.alloc (.cells #[.bool (nOf (z1 + -z2)), .slice T9 k9 r9] 24))
  have S2 := Lib.hid (S2.out.alloc (.cells #[.bool (nOf (z1 + -z2)), .slice T9 k9 r9] 24))
  have S3 := Lib.hid (S3.out.alloc (.cells #[.bool (nOf (z1 + -z2)), .slice T9 k9 r9] 24))
  have X1 := Lib.hid (X1.out.alloc (.cells #[.bool (nOf (z1 + -z2)), .slice T9 k9 r9] 24))
  have X2 := Lib.hid (X2.out.alloc (.cells #[.bool (nOf (z1 + -z2)), .slice T9 k9 r9] 24))
  have X3 := Lib.hid (X3.out.alloc (.cells #[.bool (nOf (z1 + -z2)), .slice T9 k9 r9] 24))
  have R1 := Lib.hid (R1.out.alloc (.cells #[.bool (nOf (z1 + -z2)), .slice T9 k9 r9] 24))
  have Y1 := Lib.hid (Y1.out.alloc (.cells #[.bool (nOf (z1 + -z2)), .slice T9 k9 r9] 24))
  have R2 := Lib.hid (R2.out.alloc (.cells #[.bool (nOf (z1 + -z2)), .slice T9 k9 r9] 24))
  have Y2 := Lib.hid (Y2.out.alloc (.cells #[.bool (nOf (z1 + -z2)), .slice T9 k9 r9] 24))
  have R3 := Lib.hid (R3.out.alloc (.cells #[.bool (nOf (z1 + -z2)), .slice T9 k9 r9] 24))
  have Y3 := Lib.hid (Y3.out.alloc (.cells #[.bool (nOf (z1 + -z2)), .slice T9 k9 r9] 24))
  have R4 := Lib.hid (R4.out.alloc (.cells #[.bool (nOf (z1 + -z2)), .slice T9 k9 r9] 24))
  have Y4 := Lib.hid (Y4.out.alloc (.cells #[.bool (nOf (z1 + -z2)), .slice T9 k9 r9] 24))
  have R5 := Lib.hid (R5.out.alloc (.cells #[.bool (nOf (z1 + -z2)), .slice T9 k9 r9] 24))
  have Y5 := Lib.hid (Y5.out.alloc (.cells #[.bool (nOf (z1 + -z2)), .slice T9 k9 r9] 24))
  have R6 := Lib.hid (R6.out.alloc (.cells #[.bool (nOf (z1 + -z2)), .slice T9 k9 r9] 24))
  have Y6 := Lib.hid (Y6.out.alloc (.cells #[.bool (nOf (z1 + -z2)), .slice T9 k9 r9] 24))
  have R7 := Lib.hid (R7.out.alloc (.cells #[.bool (nOf (z1 + -z2)), .slice T9 k9 r9] 24))
  have Y7 := Lib.hid (Y7.out.alloc (.cells #[.bool (nOf (z1 + -z2)), .slice T9 k9 r9] 24))
  have R8 := Lib.hid (R8.out.alloc (.cells #[.bool (nOf (z1 + -z2)), .slice T9 k9 r9] 24))
  have Y8 := Lib.hid (Y8.out.alloc (.cells #[.bool (nOf (z1 + -z2)), .slice T9 k9 r9] 24))
  have R9 := Lib.hid (R9.out.alloc (.cells #[.bool (nOf (z1 + -z2)), .slice T9 k9 r9] 24))
  have Y9 := Lib.hid (Bx.new u9 (.bool (nOf (z1 + -z2))) (.slice T9 k9 r9))
  have TB : Hid (Tab (u9.alloc (.cells #[.bool (nOf (z1 + -z2)), .slice T9 k9 r9] 24))) := tab_on TB.out ((Below.refl _ _).alloc (Nat.le_refl _) _)
  have BW := Lib.hid (BW.out.alloc BW.out.size (.cells #[.bool (nOf (z1 + -z2)), .slice T9 k9 r9] 24))
  generalize hWW : (u9.alloc (.cells #[.bool (nOf (z1 + -z2)), .slice T9 k9 r9] 24)) = V9 at *
  clear hWW
  go_upto_region 17 with fail
  have S1 := Lib.hid (S1.out.alloc (.cells #[.bool false, .slice none 0 0] 24))
  have S2 := Lib.hid (S2.out.alloc (.cells #[.bool false, .slice none 0 0] 24))
  have S3 := Lib.hid (S3.out.alloc (.cells #[.bool false, .slice none 0 0] 24))
  have X1 := Lib.hid (X1.out.alloc (.cells #[.bool false, .slice none 0 0] 24))
  have X2 := Lib.hid (X2.out.alloc (.cells #[.bool false, .slice none 0 0] 24))
  have X3 := Lib.hid (X3.out.alloc (.cells #[.bool false, .slice none 0 0] 24))
  have R1 := Lib.hid (R1.out.alloc (.cells #[.bool false, .slice none 0 0] 24))
  have Y1 := Lib.hid (Y1.out.alloc (.cells #[.bool false, .slice none 0 0] 24))
  have R2 := Lib.hid (R2.out.alloc (.cells #[.bool false, .slice none 0 0] 24))
  have Y2 := Lib.hid (Y2.out.alloc (.cells #[.bool false, .slice none 0 0] 24))
  have R3 := Lib.hid (R3.out.alloc (.cells #[.bool false, .slice none 0 0] 24))
  have Y3 := Lib.hid (Y3.out.alloc (.cells #[.bool false, .slice none 0 0] 24))
  have R4 := Lib.hid (R4.out.alloc (.cells #[.bool false, .slice none 0 0] 24))
  have Y4 := Lib.hid (Y4.out.alloc (.cells #[.bool false, .slice none 0 0] 24))
  have R5 := Lib.hid (R5.out.alloc (.cells #[.bool false, .slice none 0 0] 24))
  have Y5 := Lib.hid (Y5.out.alloc (.cells #[.bool false, .slice none 0 0] 24))
  have R6 := Lib.hid (R6.out.alloc (.cells #[.bool false, .slice none 0 0] 24))
  have Y6 := Lib.hid (Y6.out.alloc (.cells #[.bool false, .slice none 0 0] 24))
  have R7 := Lib.hid (R7.out.alloc (.cells #[.bool false, .slice none 0 0] 24))
  have Y7 := Lib.hid (Y7.out.alloc (.cells #[.bool false, .slice none 0 0] 24))
  have R8 := Lib.hid (R8.out.alloc (.cells #[.bool false, .slice none 0 0] 24))
  have Y8 := Lib.hid (Y8.out.alloc (.cells #[.bool false, .slice none 0 0] 24))
  have R9 := Lib.hid (R9.out.alloc (.cells #[.bool false, .slice none 0 0] 24))
  have Y9 := Lib.hid (Y9.out.alloc (.cells #[.bool false, .slice none 0 0] 24))
  have Y10 := Lib.hid (Bx.new V9 (.bool false) (.slice none 0 0))
  have TB : Hid (Tab (V9.alloc (.cells #[.bool false, .slice none 0 0] 24))) := tab_on TB.out ((Below.refl _ _).alloc (Nat.le_refl _) _)
  have BW := Lib.hid (BW.out.alloc BW.out.size (.cells #[.bool false, .slice none 0 0] 24))
  generalize hWW : (V9.alloc (.cells #[.bool false, .slice none 0 0] 24)) = V10 at *
  clear hWW
  have e0 := Y8.out.c0
  have e1 := Y8.out.c1
  have e2 := X1.out.c0
  have e3 := X1.out.c1
  have e4 := X2.out.c0
  have e5 := X2.out.c1
  have e6 := Y9.out.c0
  have e7 := Y9.out.c1
  have e8 := Y10.out.c0
  have e9 := Y10.out.c1
  have e10 := Y7.out.c0
  have e11 := Y7.out.c1
  go_region_held3 (fun w' => w'.cell? ⟨u8.heap.size, 0, none⟩ = some (.bool (nOf z1)) ∧ w'.cell? ⟨u8.heap.size, 1, none⟩ = some (.slice T8 k8 r8) ∧ w'.cell? ⟨w.heap.size, 0, none⟩ = some (.bool s1) ∧ w'.cell? ⟨w.heap.size, 1, none⟩ = some (.slice A1 n1 c1) ∧ w'.cell? ⟨w.heap.size + 1, 0, none⟩ = some (.bool s2) ∧ w'.cell? ⟨w.heap.size + 1, 1, none⟩ = some (.slice A2 n2 c2) ∧ w'.cell? ⟨u9.heap.size, 0, none⟩ = some (.bool (nOf (z1 + -z2))) ∧ w'.cell? ⟨u9.heap.size, 1, none⟩ = some (.slice T9 k9 r9) ∧ w'.cell? ⟨V9.heap.size, 0, none⟩ = some (.bool false) ∧ w'.cell? ⟨V9.heap.size, 1, none⟩ = some (.slice none 0 0) ∧ w'.cell? ⟨u7.heap.size, 0, none⟩ = some (.bool (nOf ((z1 + z2) * z3))) ∧ w'.cell? ⟨u7.heap.size, 1, none⟩ = some (.slice T7 k7 r7)) (go_keep)
    (first | (go_at_call 26; (with_reducible refine (cmp_ok (nOf z1) s1 T8 A1 k8 r8 n1 c1 (lOf z1) x1 z1 z1 0 _ (by first | exact R8.out | exact R8.out.drew) (by first | exact S1.out | exact S1.out.drew) (zOf_lOf F1.out) Z1.out (cmp_self z1)).mono ?_); rintro e a1 ⟨rfl, hb⟩; have BB1 := Lib.hid (show Below V10.heap.size V10 a1 from (by first | exact hb | exact (Below.refl _ _).drew.trans (hb.mono (Nat.le_refl _)))); have f0 := (Y8.out.below BB1.out).c0; have f1 := (Y8.out.below BB1.out).c1; have f2 := (X1.out.below BB1.out).c0; have f3 := (X1.out.below BB1.out).c1; have f4 := (X2.out.below BB1.out).c0; have f5 := (X2.out.below BB1.out).c1; have f6 := (Y9.out.below BB1.out).c0; have f7 := (Y9.out.below BB1.out).c1; have f8 := (Y10.out.below BB1.out).c0; have f9 := (Y10.out.below BB1.out).c1; have f10 := (Y7.out.below BB1.out).c0; have f11 := (Y7.out.below BB1.out).c1; clear hb) | (go_at_call 26; (with_reducible refine (cmp_ok s1 s2 A1 A2 n1 c1 n2 c2 x1 x2 z1 z2 (cmpI z1 z2) _ (S1.out.below BB1.out) (S2.out.below BB1.out) Z1.out Z2.out rfl).mono ?_); rintro e a2 ⟨rfl, hb⟩; have BB2 := Lib.hid (below_up BB1.out hb); have f0 := (Y8.out.below BB2.out).c0; have f1 := (Y8.out.below BB2.out).c1; have f2 := (X1.out.below BB2.out).c0; have f3 := (X1.out.below BB2.out).c1; have f4 := (X2.out.below BB2.out).c0; have f5 := (X2.out.below BB2.out).c1; have f6 := (Y9.out.below BB2.out).c0; have f7 := (Y9.out.below BB2.out).c1; have f8 := (Y10.out.below BB2.out).c0; have f9 := (Y10.out.below BB2.out).c1; have f10 := (Y7.out.below BB2.out).c0; have f11 := (Y7.out.below BB2.out).c1; clear hb) | (go_at_call 26; (with_reducible refine (cmp_ok (nOf (z1 + -z2)) false T9 none k9 r9 0 0 (lOf (z1 + -z2)) [] (z1 + -z2) 0 (cmpI z1 z2) _ (R9.out.below BB2.out) (Sl.nil _) (zOf_lOf FS.out) zOf_zero (cmp_sub z1 z2)).mono ?_); rintro e a3 ⟨rfl, hb⟩; have BB3 := Lib.hid (below_up BB2.out hb); have f0 := (Y8.out.below BB3.out).c0; have f1 := (Y8.out.below BB3.out).c1; have f2 := (X1.out.below BB3.out).c0; have f3 := (X1.out.below BB3.out).c1; have f4 := (X2.out.below BB3.out).c0; have f5 := (X2.out.below BB3.out).c1; have f6 := (Y9.out.below BB3.out).c0; have f7 := (Y9.out.below BB3.out).c1; have f8 := (Y10.out.below BB3.out).c0; have f9 := (Y10.out.below BB3.out).c1; have f10 := (Y7.out.below BB3.out).c0; have f11 := (Y7.out.below BB3.out).c1; clear hb) | (go_at_call 18; (with_reducible refine (valid_ok ((z1 + z2) * z3) T7 k7 r7 _ (R7.out.below BB3.out) FU.out).mono ?_); rintro e a4 ⟨rfl, hb⟩; have BB4 := Lib.hid (below_up BB3.out hb); have f0 := (Y8.out.below BB4.out).c0; have f1 := (Y8.out.below BB4.out).c1; have f2 := (X1.out.below BB4.out).c0; have f3 := (X1.out.below BB4.out).c1; have f4 := (X2.out.below BB4.out).c0; have f5 := (X2.out.below BB4.out).c1; have f6 := (Y9.out.below BB4.out).c0; have f7 := (Y9.out.below BB4.out).c1; have f8 := (Y10.out.below BB4.out).c0; have f9 := (Y10.out.below BB4.out).c1; have f10 := (Y7.out.below BB4.out).c0; have f11 := (Y7.out.below BB4.out).c1; clear hb) | (go_at_call 12; (with_reducible refine (awake_any _ (tab_on TB.out BB4.out)).mono ?_); rintro e a5 ⟨rfl, hb⟩; have BB5 := Lib.hid (below_up BB4.out hb); have f0 := (Y8.out.below BB5.out).c0; have f1 := (Y8.out.below BB5.out).c1; have f2 := (X1.out.below BB5.out).c0; have f3 := (X1.out.below BB5.out).c1; have f4 := (X2.out.below BB5.out).c0; have f5 := (X2.out.below BB5.out).c1; have f6 := (Y9.out.below BB5.out).c0; have f7 := (Y9.out.below BB5.out).c1; have f8 := (Y10.out.below BB5.out).c0; have f9 := (Y10.out.below BB5.out).c1; have f10 := (Y7.out.below BB5.out).c0; have f11 := (Y7.out.below BB5.out).c1; clear hb))
  all_goals
    go_wp2_with fail
    go_ret
    exact ⟨rfl, below_on BW.out BB5.out⟩

theorem contract (H : Type) (enc : TypeId × Value → H) (W : World) (base : Nat) (args : Array Value) (ds gs : List (DataW H)) (before : List MemPlace)
    (hval : ∀ (j : Nat) t v, Tryd.f9.params[j]? = some t → args[j]? = some v → Value.okWide Tryd.prog W .any base t v)
    (hW : DataW.Whole enc Tryd.prog Tryd.f9.params.toList Rows.bigRingsSpec.vars false W args.toList ds gs before) (hL : laidMetH Tryd.prog Rows.bigRingsRow.laid W) :
    Calls Tryd.prog 9 args W fun e W' => ∃ v, e = .returned v ∧ Rows.bigRingsSpec.post enc Tryd.prog Tryd.f9 false true false false W args v W' := by
  have hW' := hW
  obtain ⟨p, q, hA0, hV, rfl, hfz, hnd⟩ := hW
  have hA : DataW.TrodAll enc Tryd.prog W 0 (fun _ => true) true Tryd.f9.params.toList args.toList ds p := hA0
  have hlt : ∀ x ∈ p, x.block < W.heap.size := fun x hx => hW'.lt x (by simp [hx])
  have hAll := hA
  rw [Tryd.params9] at hA hval
  obtain ⟨v0, vs0, d0, ds0, p0, q0, hargs, rfl, rfl, h0, r0⟩ := trodAll_cons hA
  obtain ⟨v1, vs1, d1, ds1, p1, q1, rfl, rfl, rfl, h1, r1⟩ := trodAll_cons r0
  obtain ⟨v2, vs2, d2, ds2, p2, q2, rfl, rfl, rfl, h2, r2⟩ := trodAll_cons r1
  obtain ⟨rfl, rfl, rfl⟩ := trodAll_nil r2
  obtain rfl : args = #[v0, v1, v2] := by cases args; simp_all
  obtain ⟨rfl, rfl⟩ := trodVars_none hV
  obtain ⟨s1, A1, n1, c1, x1, rfl, g1⟩ := open_big (hval 0 24 v0 rfl rfl) h0
  obtain ⟨s2, A2, n2, c2, x2, rfl, g2⟩ := open_big (hval 1 24 v1 rfl rfl) h1
  obtain ⟨s3, A3, n3, c3, x3, rfl, g3⟩ := open_big (hval 2 24 v2 rfl rfl) h2
  refine (walk s1 s2 s3 A1 A2 A3 n1 c1 n2 c2 n3 c3 x1 x2 x3 W g1 g2 g3 (tab_of_laid hL)).mono fun e W' ⟨he, hg⟩ => ?_
  subst he
  refine ⟨_, rfl, _, _, _, [], _, [], hW', trodAll_mk1 (shut_bool Tryd.underlying4 _), trodAll_below hg (fun t ht => ?_) hAll hlt, rfl, hg.frame _, fun h => by cases h⟩
  rw [Tryd.params9] at ht
  simp only [List.mem_cons, List.not_mem_nil, or_false] at ht
  rcases ht with rfl | rfl | rfl
  · exact read_big
  · exact read_big
  · exact read_big

theorem reads (os : Os) {H : Type} (enc : TypeId × Value → H) : ∃ places, DataW.whole enc Tryd.prog ((World.doorLaid Tryd.prog 24 os).forCall (fun _ _ => 0) ⟨#[], #[Value.agg #[.bool false, .slice none 0 0], Value.agg #[.bool false, .slice none 0 0], Value.agg #[.bool false, .slice none 0 0]], []⟩).memory Tryd.f9.params.toList Rows.bigRingsSpec.vars false #[Value.agg #[.bool false, .slice none 0 0], Value.agg #[.bool false, .slice none 0 0], Value.agg #[.bool false, .slice none 0 0]].toList 8 = some ([.agg [.lit (.bool false), .nil], .agg [.lit (.bool false), .nil], .agg [.lit (.bool false), .nil]], [], places) :=
  ⟨[], by kernel_rfl⟩

set_option maxRecDepth 100000 in
theorem lifted (os : Os) (started : os.Started) (H : Type) (enc : TypeId × Value → H) (F : Stop.Interp) :
    ReturnsInHanded {} Tryd.checked os 9 .any ((OpenSpec.ofChange Rows.bigRingsSpec).preRow enc Tryd.prog Tryd.f9 Rows.bigRingsRow.domain false Rows.bigRingsRow.laid) (((OpenSpec.ofChange Rows.bigRingsSpec).at F).post enc Tryd.prog Tryd.f9 false true false false) := by
  obtain ⟨places, hx⟩ := reads os enc
  refine returnsInHanded_of_row (C := Tryd.checked) (s := OpenSpec.ofChange Rows.bigRingsSpec) own started (by kernel_rfl) Tryd.func9
    (witness_row_at (enc := enc) (C := Tryd.checked) false (World.doorLaid Tryd.prog 24 os) #[Value.agg #[.bool false, .slice none 0 0], Value.agg #[.bool false, .slice none 0 0], Value.agg #[.bool false, .slice none 0 0]] rfl (by kernel_rfl) (by kernel_rfl) (by kernel_rfl)
      (OpenSpec.preRow_of_cond 8 hx (by kernel_rfl) (fun k hk => by cases hk) (by kernel_rfl) (laid_met os _))) ?_
  intro W base args ds gs before hval hW _ _ _ hL _ _
  exact contract H enc W base args ds gs before hval hW hL

theorem said : Rows.BigRingsSaid :=
  OpenClaim.holds_of_cond 9 Tryd.f9 rfl rfl rfl rfl rfl rfl rfl ⟨rfl, rfl, rfl, rfl, rfl⟩ rfl rfl rfl rfl rfl (by kernel_rfl) Tryd.func9 (by kernel_rfl)
    (of_decide_eq_true (by kernel_rfl)) (by unfold Func.isWrapper; first | (rw [if_pos (by decide +kernel)]; kernel_rfl) | (rw [if_neg (by decide +kernel)]; exact ⟨rfl, rfl⟩))
    (fun os started H enc _ F => by rw [OpenClaim.pre_eq_preRow]; exact lifted os started H enc F)

theorem plain (f : FuncId) (fn : Func) (hf : Tryd.pinned.checked.prog.funcNamed "liquidcheck/liquidchecklaw02.BigRings" = some f) (hfn : Tryd.pinned.checked.prog.funcs[f]? = some fn) :
    false = Tryd.pinned.checked.prog.looks [] ∧ ∀ (j : Nat) t, fn.params[j]? = some t → Tryd.pinned.checked.prog.wantsStandIn t = false := by
  obtain rfl : f = 9 := Option.some.inj ((show Tryd.prog.funcNamed "liquidcheck/liquidchecklaw02.BigRings" = some 9 by kernel_rfl).symm.trans hf) |>.symm
  obtain rfl : fn = Tryd.f9 := (Option.some.inj (Tryd.func9.symm.trans hfn)).symm
  refine ⟨by kernel_rfl, fun j t ht => ?_⟩
  rw [Tryd.params9] at ht
  have hm := Array.mem_of_getElem? ht
  simp only [List.mem_toArray, List.mem_cons, List.not_mem_nil, or_false] at hm
  rcases hm with rfl | rfl | rfl
  · exact (show Tryd.prog.wantsStandIn 24 = false by kernel_rfl)
  · exact (show Tryd.prog.wantsStandIn 24 = false by kernel_rfl)
  · exact (show Tryd.prog.wantsStandIn 24 = false by kernel_rfl)

theorem card : Rows.BigRingsCardSaid :=
  Claim7.holds_tied_plain_at .later [] _ _ _ _ said (fun _ h => by cases h) (by kernel_rfl) (fun _ h => by cases h) bigRings_row_tie rfl ⟨rfl, rfl⟩ (by kernel_rfl) rfl plain (by kernel_rfl)
end Go.Proofs.YtfkfbomllkpjjaaDoor.bigRings
