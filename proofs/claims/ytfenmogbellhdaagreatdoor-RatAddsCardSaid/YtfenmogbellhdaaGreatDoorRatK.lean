/-
  Contract of rat's joined.
-/
import Derived.Test.YtfenmogbellhdaaGreatDoorRatMathD
import Derived.Test.YtfenmogbellhdaaGreatDoorRatF
import Derived.Test.YtfenmogbellhdaaGreatDoorBigY
namespace Go.Proofs.YtfenmogbellhdaaGreatDoor
open Go.RowKit

theorem join_step {W n d c1 c2 : Int} (h1 : cmpI W 0 = c1) (h2 : cmpI n 0 = c2) (hv : c1 * c2 = -1) (fW : fitB W = true) (fd : fitB d = true) (l1 : -d < n) (l2 : n < d) :
    fitB (c1 * d) = true ∧ fitB (W - c1) = true ∧ fitB (n + c1 * d) = true ∧ (W - c1) * d + (n + c1 * d) = W * d + n ∧ (0 ≤ (W - c1) * d ∧ 0 ≤ n + c1 * d ∨ (W - c1) * d ≤ 0 ∧ n + c1 * d ≤ 0) := by
  have e : (W - c1) * d + (n + c1 * d) = W * d + n := by rw [Int.sub_mul]; omega
  have hd : 0 < d := by omega
  rcases (by omega : W < 0 ∨ W = 0 ∨ 0 < W) with h | h | h
  · rw [cmpI_lt h] at h1; subst h1
    rcases (by omega : n < 0 ∨ n = 0 ∨ 0 < n) with k | k | k
    · rw [cmpI_lt k] at h2; subst h2; omega
    · rw [cmpI_eq k] at h2; subst h2; omega
    · refine ⟨?_, ?_, ?_, e, .inr ⟨?_, by omega⟩⟩
      · exact fit_le fd (by omega)
      · exact fit_le fW (by omega)
      · exact fit_le fd (by omega)
      · have := Int.mul_nonneg (a := -(W - -1)) (b := d) (by omega) (by omega)
        rw [Int.neg_mul] at this; omega
  · rw [cmpI_eq h] at h1; subst h1; omega
  · rw [cmpI_gt h] at h1; subst h1
    rcases (by omega : n < 0 ∨ n = 0 ∨ 0 < n) with k | k | k
    · refine ⟨?_, ?_, ?_, e, .inl ⟨Int.mul_nonneg (by omega) (by omega), by omega⟩⟩
      · exact fit_le fd (by omega)
      · exact fit_le fW (by omega)
      · exact fit_le fd (by omega)
    · rw [cmpI_eq k] at h2; subst h2; omega
    · rw [cmpI_gt k] at h2; subst h2; omega
theorem join_same {W n d c1 c2 : Int} (h1 : cmpI W 0 = c1) (h2 : cmpI n 0 = c2) (hv : ¬ c1 * c2 < 0) (hd : 0 < d) : 0 ≤ W * d ∧ 0 ≤ n ∨ W * d ≤ 0 ∧ n ≤ 0 := by
  rcases (by omega : W < 0 ∨ W = 0 ∨ 0 < W) with h | h | h
  · rw [cmpI_lt h] at h1; subst h1
    have hn : n ≤ 0 := by
      rcases (by omega : n ≤ 0 ∨ 0 < n) with k | k
      · exact k
      · rw [cmpI_gt k] at h2; subst h2; omega
    have := Int.mul_nonneg (a := -W) (b := d) (by omega) (by omega)
    rw [Int.neg_mul] at this
    exact .inr ⟨by omega, hn⟩
  · subst h; rw [Int.zero_mul]; omega
  · rw [cmpI_gt h] at h1; subst h1
    have hn : 0 ≤ n := by
      rcases (by omega : 0 ≤ n ∨ n < 0) with k | k
      · exact k
      · rw [cmpI_lt k] at h2; subst h2; omega
    exact .inl ⟨Int.mul_nonneg (by omega) (by omega), hn⟩
/-- A number, or 0. -/
def jZ (b : Bool) (z : Int) : Int := if b then z else 0
theorem j_yes {b : Bool} (z : Int) (h : b = true) : jZ b z = z := by rw [h]; rfl
theorem j_no {b : Bool} (z : Int) (h : b = false) : jZ b z = 0 := by rw [h]; rfl
theorem fit_small1 {z : Int} (h1 : -1 ≤ z) (h2 : z ≤ 1) : fitB z = true := fit_small (by omega) (by omega)
theorem cmp_range (a b : Int) : -1 ≤ cmpI a b ∧ cmpI a b ≤ 1 := by unfold cmpI; split <;> (try split) <;> omega
/-- With equal signs no part of a sum is larger than the sum. -/
theorem sum_fit {a b : Int} (h : 0 ≤ a ∧ 0 ≤ b ∨ a ≤ 0 ∧ b ≤ 0) (hf : fitB a = false) : fitB (a + b) = false := by
  rcases Bool.eq_false_or_eq_true (fitB (a + b)) with k | k
  · have := fit_le k (p := a) (by omega)
    rw [this] at hf; cases hf
  · exact k
set_option maxHeartbeats 4000000 in
theorem joined_any (W n d : Int) (A B C : Option Addr) (na ca nb cb nc cc : Nat) (w : World) (hA : Sl w A na ca (lOf W)) (hB : Sl w B nb cb (lOf n)) (hC : Sl w C nc cc (lOf d)) (h1 : fitB W = true) (h2 : fitB n = true) (h3 : fitB d = true) (l1 : -d < n) (l2 : n < d) :
    Calls Tryz.prog 54 #[.agg #[.bool (nOf W), .slice A na ca], .agg #[.bool (nOf (n)), .slice B nb cb, .bool (nOf (d)), .slice C nc cc]] w fun e w' => ∃ T k r U l s, e = .returned (.tuple #[.agg #[.bool (nOf (jZ (fitB (W * d + n)) (W * d + n))), .slice T k r, .bool (nOf (jZ (fitB (W * d + n)) d)), .slice U l s], .bool (fitB (W * d + n))]) ∧ Sl w' T k r (lOf (jZ (fitB (W * d + n)) (W * d + n))) ∧ Sl w' U l s (lOf (jZ (fitB (W * d + n)) d)) ∧ Below w.heap.size w w' := by
  have S1 := Lib.hid hA
  have S2 := Lib.hid hB
  have S3 := Lib.hid hC
  have H1 := Lib.hid h1
  have H2 := Lib.hid h2
  have H3 := Lib.hid h3
  have L1 := Lib.hid l1
  have L2 := Lib.hid l2
  clear hA hB hC h1 h2 h3 l1 l2
  have BW := Lib.hid (Below.refl w.heap.size w)
  go_enter Tryz.func54, Tryz.ntmps54
  go_upto_region 1 with fail
  have S1 := Lib.hid (S1.out.alloc (.cells #[.bool (nOf (W)), .slice A na ca] 24))
  have S2 := Lib.hid (S2.out.alloc (.cells #[.bool (nOf (W)), .slice A na ca] 24))
  have S3 := Lib.hid (S3.out.alloc (.cells #[.bool (nOf (W)), .slice A na ca] 24))
  have BW := Lib.hid (BW.out.alloc BW.out.size (.cells #[.bool (nOf (W)), .slice A na ca] 24))
  have X1 := Lib.hid (Bk.new 24 w #[.bool (nOf (W)), .slice A na ca])
  have S1 := Lib.hid (S1.out.alloc (.cells #[.bool (nOf (n)), .slice B nb cb, .bool (nOf (d)), .slice C nc cc] 26))
  have S2 := Lib.hid (S2.out.alloc (.cells #[.bool (nOf (n)), .slice B nb cb, .bool (nOf (d)), .slice C nc cc] 26))
  have S3 := Lib.hid (S3.out.alloc (.cells #[.bool (nOf (n)), .slice B nb cb, .bool (nOf (d)), .slice C nc cc] 26))
  have BW := Lib.hid (BW.out.alloc BW.out.size (.cells #[.bool (nOf (n)), .slice B nb cb, .bool (nOf (d)), .slice C nc cc] 26))
  have X1 := Lib.hid (X1.out.alloc (.cells #[.bool (nOf (n)), .slice B nb cb, .bool (nOf (d)), .slice C nc cc] 26))
  have X2 := Lib.hid (Bk.new 26 (w.alloc (.cells #[.bool (nOf (W)), .slice A na ca] 24)) #[.bool (nOf (n)), .slice B nb cb, .bool (nOf (d)), .slice C nc cc])
  rw [alloc_sz] at X2
  have S1 := Lib.hid (S1.out.alloc (.cells #[.bool false, .slice none 0 0, .bool false, .slice none 0 0] 26))
  have S2 := Lib.hid (S2.out.alloc (.cells #[.bool false, .slice none 0 0, .bool false, .slice none 0 0] 26))
  have S3 := Lib.hid (S3.out.alloc (.cells #[.bool false, .slice none 0 0, .bool false, .slice none 0 0] 26))
  have BW := Lib.hid (BW.out.alloc BW.out.size (.cells #[.bool false, .slice none 0 0, .bool false, .slice none 0 0] 26))
  have X1 := Lib.hid (X1.out.alloc (.cells #[.bool false, .slice none 0 0, .bool false, .slice none 0 0] 26))
  have X2 := Lib.hid (X2.out.alloc (.cells #[.bool false, .slice none 0 0, .bool false, .slice none 0 0] 26))
  have X3 := Lib.hid (Bk.new 26 ((w.alloc (.cells #[.bool (nOf (W)), .slice A na ca] 24)).alloc (.cells #[.bool (nOf (n)), .slice B nb cb, .bool (nOf (d)), .slice C nc cc] 26)) #[.bool false, .slice none 0 0, .bool false, .slice none 0 0])
  rw [alloc_sz, alloc_sz] at X3
  generalize (((w.alloc (.cells #[.bool (nOf (W)), .slice A na ca] 24)).alloc (.cells #[.bool (nOf (n)), .slice B nb cb, .bool (nOf (d)), .slice C nc cc] 26)).alloc (.cells #[.bool false, .slice none 0 0, .bool false, .slice none 0 0] 26)) = W0 at *
  have e0 : W0.cell? ⟨w.heap.size + 1, 0, none⟩ = some (.bool (nOf (n))) := X2.out.c 0 rfl
  have e1 : W0.cell? ⟨w.heap.size + 1, 1, none⟩ = some (.slice B nb cb) := X2.out.c 1 rfl
  have e2 : W0.cell? ⟨w.heap.size + 1, 2, none⟩ = some (.bool (nOf (d))) := X2.out.c 2 rfl
  have e3 : W0.cell? ⟨w.heap.size + 1, 3, none⟩ = some (.slice C nc cc) := X2.out.c 3 rfl
  go_upto_region 2 with fail
  clear e0 e1 e2 e3
  have ln1 := X1.out.lt
  have ln2 := X2.out.lt
  have ln3 := X3.out.lt
  have S1 := Lib.hid (S1.out.alloc (.cells #[.bool (nOf (n)), .slice B nb cb] 24))
  have S2 := Lib.hid (S2.out.alloc (.cells #[.bool (nOf (n)), .slice B nb cb] 24))
  have S3 := Lib.hid (S3.out.alloc (.cells #[.bool (nOf (n)), .slice B nb cb] 24))
  have BW := Lib.hid (BW.out.alloc BW.out.size (.cells #[.bool (nOf (n)), .slice B nb cb] 24))
  have X1 := Lib.hid (X1.out.alloc (.cells #[.bool (nOf (n)), .slice B nb cb] 24))
  have X2 := Lib.hid (X2.out.alloc (.cells #[.bool (nOf (n)), .slice B nb cb] 24))
  have X3 := Lib.hid (X3.out.alloc (.cells #[.bool (nOf (n)), .slice B nb cb] 24))
  have X4 := Lib.hid (Bk.new 24 W0 #[.bool (nOf (n)), .slice B nb cb])
  generalize (W0.alloc (.cells #[.bool (nOf (n)), .slice B nb cb] 24)) = W1 at *
  have RG1 := cmp_range W 0
  have RG2 := cmp_range n 0
  generalize hc1 : cmpI W 0 = c1 at *
  generalize hc2 : cmpI n 0 = c2 at *
  have C1 := Lib.hid hc1
  have C2 := Lib.hid hc2
  clear hc1 hc2
  by_cases hp : c1 * c2 < 0
  · have HPR := Lib.hid hp
    have hv : c1 * c2 = -1 := by
      rcases (by omega : c1 = -1 ∨ c1 = 0 ∨ c1 = 1) with h | h | h <;> rcases (by omega : c2 = -1 ∨ c2 = 0 ∨ c2 = 1) with k | k | k <;> subst h <;> subst k <;> omega
    have HV := Lib.hid hv
    have hw : IntKind.i64.wrap (c1 * c2) = -1 := by rw [hv]; rfl
    clear hp hv
    have e0 : W1.cell? ⟨w.heap.size, 0, none⟩ = some (.bool (nOf (W))) := X1.out.c 0 rfl
    have e1 : W1.cell? ⟨w.heap.size, 1, none⟩ = some (.slice A na ca) := X1.out.c 1 rfl
    have e2 : W1.cell? ⟨W0.heap.size, 0, none⟩ = some (.bool (nOf (n))) := X4.out.c 0 rfl
    have e3 : W1.cell? ⟨W0.heap.size, 1, none⟩ = some (.slice B nb cb) := X4.out.c 1 rfl
    go_region_held3 (fun w' => w'.cell? ⟨w.heap.size, 0, none⟩ = some (.bool (nOf (W))) ∧ w'.cell? ⟨w.heap.size, 1, none⟩ = some (.slice A na ca) ∧ w'.cell? ⟨W0.heap.size, 0, none⟩ = some (.bool (nOf (n))) ∧ w'.cell? ⟨W0.heap.size, 1, none⟩ = some (.slice B nb cb)) (go_keep)
      (first | (go_at_call 45; (with_reducible refine (sign_z W A na ca _ (by first | exact S1.out | exact S1.out.drew) H1.out).mono ?_); rintro e a1 ⟨rfl, hb⟩; rw [C1.out]; have BB1 := Lib.hid (show Below W1.heap.size W1 a1 from (by first | exact hb | exact (Below.refl _ _).drew.trans (hb.mono (Nat.le_refl _)))); have f0 : a1.cell? ⟨w.heap.size, 0, none⟩ = some (.bool (nOf (W))) := (X1.out.below BB1.out).c 0 rfl; have f1 : a1.cell? ⟨w.heap.size, 1, none⟩ = some (.slice A na ca) := (X1.out.below BB1.out).c 1 rfl; have f2 : a1.cell? ⟨W0.heap.size, 0, none⟩ = some (.bool (nOf (n))) := (X4.out.below BB1.out).c 0 rfl; have f3 : a1.cell? ⟨W0.heap.size, 1, none⟩ = some (.slice B nb cb) := (X4.out.below BB1.out).c 1 rfl; clear hb) | (go_at_call 45; (with_reducible refine (sign_z n B nb cb _ (S2.out.below BB1.out) H2.out).mono ?_); rintro e a2 ⟨rfl, hb⟩; rw [C2.out]; have BB2 := Lib.hid (below_up BB1.out hb); have f0 : a2.cell? ⟨w.heap.size, 0, none⟩ = some (.bool (nOf (W))) := (X1.out.below BB2.out).c 0 rfl; have f1 : a2.cell? ⟨w.heap.size, 1, none⟩ = some (.slice A na ca) := (X1.out.below BB2.out).c 1 rfl; have f2 : a2.cell? ⟨W0.heap.size, 0, none⟩ = some (.bool (nOf (n))) := (X4.out.below BB2.out).c 0 rfl; have f3 : a2.cell? ⟨W0.heap.size, 1, none⟩ = some (.slice B nb cb) := (X4.out.below BB2.out).c 1 rfl; clear hb))
    clear e0 e1 e2 e3
    try clear f0 f1 f2 f3
    have S1 := Lib.hid (S1.out.below BB2.out)
    have S2 := Lib.hid (S2.out.below BB2.out)
    have S3 := Lib.hid (S3.out.below BB2.out)
    have BW := Lib.hid (below_on BW.out BB2.out)
    have X1 := Lib.hid (X1.out.below BB2.out)
    have X2 := Lib.hid (X2.out.below BB2.out)
    have X3 := Lib.hid (X3.out.below BB2.out)
    have X4 := Lib.hid (X4.out.below BB2.out)
    have FS := Lib.hid (fit_small1 RG1.1 RG1.2)
    have e0 : a2.cell? ⟨w.heap.size, 0, none⟩ = some (.bool (nOf (W))) := X1.out.c 0 rfl
    have e1 : a2.cell? ⟨w.heap.size, 1, none⟩ = some (.slice A na ca) := X1.out.c 1 rfl
    go_wp2_with fail
    ((with_reducible refine (sign_z W A na ca _ S1.out H1.out).mono ?_); rintro e w3 ⟨rfl, hb⟩)
    rw [C1.out]
    clear e0 e1
    have S1 := Lib.hid (S1.out.below hb)
    have S2 := Lib.hid (S2.out.below hb)
    have S3 := Lib.hid (S3.out.below hb)
    have BW := Lib.hid (below_on BW.out hb)
    have X1 := Lib.hid (X1.out.below hb)
    have X2 := Lib.hid (X2.out.below hb)
    have X3 := Lib.hid (X3.out.below hb)
    have X4 := Lib.hid (X4.out.below hb)
    clear hb
    go_wp2_with fail
    ((with_reducible refine (of_any c1 _ (by omega) (by omega)).mono ?_); rintro e w4 ⟨T4, k4, i4, rfl, hs, hb⟩)
    have S1 := Lib.hid (S1.out.below hb)
    have S2 := Lib.hid (S2.out.below hb)
    have S3 := Lib.hid (S3.out.below hb)
    have BW := Lib.hid (below_on BW.out hb)
    have X1 := Lib.hid (X1.out.below hb)
    have X2 := Lib.hid (X2.out.below hb)
    have X3 := Lib.hid (X3.out.below hb)
    have X4 := Lib.hid (X4.out.below hb)
    clear hb
    have S4 := Lib.hid hs
    clear hs
    go_upto_region 4 with fail
    have ln4 := X1.out.lt
    have ln5 := X2.out.lt
    have ln6 := X3.out.lt
    have ln7 := X4.out.lt
    have S1 := Lib.hid (S1.out.alloc (.cells #[.bool (nOf (c1)), .slice T4 k4 i4] 24))
    have S2 := Lib.hid (S2.out.alloc (.cells #[.bool (nOf (c1)), .slice T4 k4 i4] 24))
    have S3 := Lib.hid (S3.out.alloc (.cells #[.bool (nOf (c1)), .slice T4 k4 i4] 24))
    have BW := Lib.hid (BW.out.alloc BW.out.size (.cells #[.bool (nOf (c1)), .slice T4 k4 i4] 24))
    have X1 := Lib.hid (X1.out.alloc (.cells #[.bool (nOf (c1)), .slice T4 k4 i4] 24))
    have X2 := Lib.hid (X2.out.alloc (.cells #[.bool (nOf (c1)), .slice T4 k4 i4] 24))
    have X3 := Lib.hid (X3.out.alloc (.cells #[.bool (nOf (c1)), .slice T4 k4 i4] 24))
    have X4 := Lib.hid (X4.out.alloc (.cells #[.bool (nOf (c1)), .slice T4 k4 i4] 24))
    have S4 := Lib.hid (S4.out.alloc (.cells #[.bool (nOf (c1)), .slice T4 k4 i4] 24))
    have X5 := Lib.hid (Bk.new 24 w4 #[.bool (nOf (c1)), .slice T4 k4 i4])
    generalize (w4.alloc (.cells #[.bool (nOf (c1)), .slice T4 k4 i4] 24)) = W4 at *
    have NE : Hid (fitB (c1 * d) = true ∧ fitB (W - c1) = true ∧ fitB (n + c1 * d) = true ∧ (W - c1) * d + (n + c1 * d) = W * d + n ∧ (0 ≤ (W - c1) * d ∧ 0 ≤ n + c1 * d ∨ (W - c1) * d ≤ 0 ∧ n + c1 * d ≤ 0)) := join_step C1.out C2.out HV.out H1.out H3.out L1.out L2.out
    have FM := Lib.hid NE.out.1
    have FW := Lib.hid NE.out.2.1
    have FN := Lib.hid NE.out.2.2.1
    have EQ := Lib.hid NE.out.2.2.2.1
    have SG := Lib.hid NE.out.2.2.2.2
    have e0 : W4.cell? ⟨w4.heap.size, 0, none⟩ = some (.bool (nOf (c1))) := X5.out.c 0 rfl
    have e1 : W4.cell? ⟨w4.heap.size, 1, none⟩ = some (.slice T4 k4 i4) := X5.out.c 1 rfl
    have e2 : W4.cell? ⟨w.heap.size + 1, 0, none⟩ = some (.bool (nOf (n))) := X2.out.c 0 rfl
    have e3 : W4.cell? ⟨w.heap.size + 1, 1, none⟩ = some (.slice B nb cb) := X2.out.c 1 rfl
    have e4 : W4.cell? ⟨w.heap.size + 1, 2, none⟩ = some (.bool (nOf (d))) := X2.out.c 2 rfl
    have e5 : W4.cell? ⟨w.heap.size + 1, 3, none⟩ = some (.slice C nc cc) := X2.out.c 3 rfl
    go_wp2_with fail
    ((with_reducible refine (mul_z c1 d T4 C k4 i4 nc cc _ S4.out S3.out FS.out H3.out).mono ?_); rintro e w5 ⟨T5, k5, i5, rfl, hs, hb⟩)
    rw [FM.out]; rw [fitZ_of FM.out] at hs ⊢
    clear e0 e1 e2 e3 e4 e5
    have S1 := Lib.hid (S1.out.below hb)
    have S2 := Lib.hid (S2.out.below hb)
    have S3 := Lib.hid (S3.out.below hb)
    have BW := Lib.hid (below_on BW.out hb)
    have X1 := Lib.hid (X1.out.below hb)
    have X2 := Lib.hid (X2.out.below hb)
    have X3 := Lib.hid (X3.out.below hb)
    have X4 := Lib.hid (X4.out.below hb)
    have S4 := Lib.hid (S4.out.below hb)
    have X5 := Lib.hid (X5.out.below hb)
    clear hb
    have S5 := Lib.hid hs
    clear hs
    have e0 : w5.cell? ⟨w4.heap.size, 0, none⟩ = some (.bool (nOf (c1))) := X5.out.c 0 rfl
    have e1 : w5.cell? ⟨w4.heap.size, 1, none⟩ = some (.slice T4 k4 i4) := X5.out.c 1 rfl
    have e2 : w5.cell? ⟨w.heap.size + 1, 0, none⟩ = some (.bool (nOf (n))) := X2.out.c 0 rfl
    have e3 : w5.cell? ⟨w.heap.size + 1, 1, none⟩ = some (.slice B nb cb) := X2.out.c 1 rfl
    have e4 : w5.cell? ⟨w.heap.size + 1, 2, none⟩ = some (.bool (nOf (d))) := X2.out.c 2 rfl
    have e5 : w5.cell? ⟨w.heap.size + 1, 3, none⟩ = some (.slice C nc cc) := X2.out.c 3 rfl
    go_upto_region 5 with fail
    clear e0 e1 e2 e3 e4 e5
    have ln8 := X1.out.lt
    have ln9 := X2.out.lt
    have ln10 := X3.out.lt
    have ln11 := X4.out.lt
    have ln12 := X5.out.lt
    have S1 := Lib.hid (S1.out.alloc (.cells #[.bool (nOf (c1 * d)), .slice T5 k5 i5] 24))
    have S2 := Lib.hid (S2.out.alloc (.cells #[.bool (nOf (c1 * d)), .slice T5 k5 i5] 24))
    have S3 := Lib.hid (S3.out.alloc (.cells #[.bool (nOf (c1 * d)), .slice T5 k5 i5] 24))
    have BW := Lib.hid (BW.out.alloc BW.out.size (.cells #[.bool (nOf (c1 * d)), .slice T5 k5 i5] 24))
    have X1 := Lib.hid (X1.out.alloc (.cells #[.bool (nOf (c1 * d)), .slice T5 k5 i5] 24))
    have X2 := Lib.hid (X2.out.alloc (.cells #[.bool (nOf (c1 * d)), .slice T5 k5 i5] 24))
    have X3 := Lib.hid (X3.out.alloc (.cells #[.bool (nOf (c1 * d)), .slice T5 k5 i5] 24))
    have X4 := Lib.hid (X4.out.alloc (.cells #[.bool (nOf (c1 * d)), .slice T5 k5 i5] 24))
    have S4 := Lib.hid (S4.out.alloc (.cells #[.bool (nOf (c1 * d)), .slice T5 k5 i5] 24))
    have X5 := Lib.hid (X5.out.alloc (.cells #[.bool (nOf (c1 * d)), .slice T5 k5 i5] 24))
    have S5 := Lib.hid (S5.out.alloc (.cells #[.bool (nOf (c1 * d)), .slice T5 k5 i5] 24))
    have X6 := Lib.hid (Bk.new 24 w5 #[.bool (nOf (c1 * d)), .slice T5 k5 i5])
    generalize (w5.alloc (.cells #[.bool (nOf (c1 * d)), .slice T5 k5 i5] 24)) = W5 at *
    have e0 : W5.cell? ⟨w.heap.size, 0, none⟩ = some (.bool (nOf (W))) := X1.out.c 0 rfl
    have e1 : W5.cell? ⟨w.heap.size, 1, none⟩ = some (.slice A na ca) := X1.out.c 1 rfl
    have e2 : W5.cell? ⟨w4.heap.size, 0, none⟩ = some (.bool (nOf (c1))) := X5.out.c 0 rfl
    have e3 : W5.cell? ⟨w4.heap.size, 1, none⟩ = some (.slice T4 k4 i4) := X5.out.c 1 rfl
    go_wp2_with fail
    ((with_reducible refine (sub_z W c1 A T4 na ca k4 i4 _ S1.out S4.out H1.out FS.out).mono ?_); rintro e w6 ⟨T6, k6, i6, rfl, hs, hb⟩)
    rw [FW.out]; rw [fitZ_of FW.out] at hs ⊢
    clear e0 e1 e2 e3
    have S1 := Lib.hid (S1.out.below hb)
    have S2 := Lib.hid (S2.out.below hb)
    have S3 := Lib.hid (S3.out.below hb)
    have BW := Lib.hid (below_on BW.out hb)
    have X1 := Lib.hid (X1.out.below hb)
    have X2 := Lib.hid (X2.out.below hb)
    have X3 := Lib.hid (X3.out.below hb)
    have X4 := Lib.hid (X4.out.below hb)
    have S4 := Lib.hid (S4.out.below hb)
    have X5 := Lib.hid (X5.out.below hb)
    have S5 := Lib.hid (S5.out.below hb)
    have X6 := Lib.hid (X6.out.below hb)
    clear hb
    have S6 := Lib.hid hs
    clear hs
    have e0 : w6.cell? ⟨w.heap.size, 0, none⟩ = some (.bool (nOf (W))) := X1.out.c 0 rfl
    have e1 : w6.cell? ⟨w.heap.size, 1, none⟩ = some (.slice A na ca) := X1.out.c 1 rfl
    have e2 : w6.cell? ⟨w4.heap.size, 0, none⟩ = some (.bool (nOf (c1))) := X5.out.c 0 rfl
    have e3 : w6.cell? ⟨w4.heap.size, 1, none⟩ = some (.slice T4 k4 i4) := X5.out.c 1 rfl
    have z4 := X1.out.fz 0
    have z5 := X1.out.fz 1
    go_upto_region 6 with fail
    clear e0 e1 e2 e3 z4 z5
    have S1 := Lib.hid (S1.out.bk2 X1.out (.bool (nOf (W - c1))) (.slice T6 k6 i6))
    have S2 := Lib.hid (S2.out.bk2 X1.out (.bool (nOf (W - c1))) (.slice T6 k6 i6))
    have S3 := Lib.hid (S3.out.bk2 X1.out (.bool (nOf (W - c1))) (.slice T6 k6 i6))
    have BW := Lib.hid (below_set2 BW.out (show w.heap.size ≤ w.heap.size by omega) (.bool (nOf (W - c1))) (.slice T6 k6 i6))
    have X2 := Lib.hid (X2.out.far2 (show w.heap.size + 1 ≠ w.heap.size by omega) (.bool (nOf (W - c1))) (.slice T6 k6 i6))
    have X3 := Lib.hid (X3.out.far2 (show w.heap.size + 1 + 1 ≠ w.heap.size by omega) (.bool (nOf (W - c1))) (.slice T6 k6 i6))
    have X4 := Lib.hid (X4.out.far2 (show W0.heap.size ≠ w.heap.size by omega) (.bool (nOf (W - c1))) (.slice T6 k6 i6))
    have S4 := Lib.hid (S4.out.bk2 X1.out (.bool (nOf (W - c1))) (.slice T6 k6 i6))
    have X5 := Lib.hid (X5.out.far2 (show w4.heap.size ≠ w.heap.size by omega) (.bool (nOf (W - c1))) (.slice T6 k6 i6))
    have S5 := Lib.hid (S5.out.bk2 X1.out (.bool (nOf (W - c1))) (.slice T6 k6 i6))
    have X6 := Lib.hid (X6.out.far2 (show w5.heap.size ≠ w.heap.size by omega) (.bool (nOf (W - c1))) (.slice T6 k6 i6))
    have S6 := Lib.hid (S6.out.bk2 X1.out (.bool (nOf (W - c1))) (.slice T6 k6 i6))
    have X1 := Lib.hid (X1.out.set2 (.bool (nOf (W - c1))) (.slice T6 k6 i6))
    generalize ((w6.setCell ⟨w.heap.size, 0, none⟩ (.bool (nOf (W - c1)))).setCell ⟨w.heap.size, 1, none⟩ (.slice T6 k6 i6)) = W6 at *
    have e0 : W6.cell? ⟨W0.heap.size, 0, none⟩ = some (.bool (nOf (n))) := X4.out.c 0 rfl
    have e1 : W6.cell? ⟨W0.heap.size, 1, none⟩ = some (.slice B nb cb) := X4.out.c 1 rfl
    have e2 : W6.cell? ⟨w5.heap.size, 0, none⟩ = some (.bool (nOf (c1 * d))) := X6.out.c 0 rfl
    have e3 : W6.cell? ⟨w5.heap.size, 1, none⟩ = some (.slice T5 k5 i5) := X6.out.c 1 rfl
    go_wp2_with fail
    ((with_reducible refine (add_z n (c1 * d) B T5 nb cb k5 i5 _ S2.out S5.out H2.out FM.out).mono ?_); rintro e w8 ⟨T9, k9, i9, rfl, hs, hb⟩)
    rw [FN.out]; rw [fitZ_of FN.out] at hs ⊢
    clear e0 e1 e2 e3
    have S1 := Lib.hid (S1.out.below hb)
    have S2 := Lib.hid (S2.out.below hb)
    have S3 := Lib.hid (S3.out.below hb)
    have BW := Lib.hid (below_on BW.out hb)
    have X1 := Lib.hid (X1.out.below hb)
    have X2 := Lib.hid (X2.out.below hb)
    have X3 := Lib.hid (X3.out.below hb)
    have X4 := Lib.hid (X4.out.below hb)
    have S4 := Lib.hid (S4.out.below hb)
    have X5 := Lib.hid (X5.out.below hb)
    have S5 := Lib.hid (S5.out.below hb)
    have X6 := Lib.hid (X6.out.below hb)
    have S6 := Lib.hid (S6.out.below hb)
    clear hb
    have S9 := Lib.hid hs
    clear hs
    have e0 : w8.cell? ⟨W0.heap.size, 0, none⟩ = some (.bool (nOf (n))) := X4.out.c 0 rfl
    have e1 : w8.cell? ⟨W0.heap.size, 1, none⟩ = some (.slice B nb cb) := X4.out.c 1 rfl
    have e2 : w8.cell? ⟨w5.heap.size, 0, none⟩ = some (.bool (nOf (c1 * d))) := X6.out.c 0 rfl
    have e3 : w8.cell? ⟨w5.heap.size, 1, none⟩ = some (.slice T5 k5 i5) := X6.out.c 1 rfl
    have z4 := X4.out.fz 0
    have z5 := X4.out.fz 1
    go_upto_region 7 with fail
    clear e0 e1 e2 e3 z4 z5
    have S1 := Lib.hid (S1.out.bk2 X4.out (.bool (nOf (n + c1 * d))) (.slice T9 k9 i9))
    have S2 := Lib.hid (S2.out.bk2 X4.out (.bool (nOf (n + c1 * d))) (.slice T9 k9 i9))
    have S3 := Lib.hid (S3.out.bk2 X4.out (.bool (nOf (n + c1 * d))) (.slice T9 k9 i9))
    have BW := Lib.hid (below_set2 BW.out (show w.heap.size ≤ W0.heap.size by omega) (.bool (nOf (n + c1 * d))) (.slice T9 k9 i9))
    have X1 := Lib.hid (X1.out.far2 (show w.heap.size ≠ W0.heap.size by omega) (.bool (nOf (n + c1 * d))) (.slice T9 k9 i9))
    have X2 := Lib.hid (X2.out.far2 (show w.heap.size + 1 ≠ W0.heap.size by omega) (.bool (nOf (n + c1 * d))) (.slice T9 k9 i9))
    have X3 := Lib.hid (X3.out.far2 (show w.heap.size + 1 + 1 ≠ W0.heap.size by omega) (.bool (nOf (n + c1 * d))) (.slice T9 k9 i9))
    have S4 := Lib.hid (S4.out.bk2 X4.out (.bool (nOf (n + c1 * d))) (.slice T9 k9 i9))
    have X5 := Lib.hid (X5.out.far2 (show w4.heap.size ≠ W0.heap.size by omega) (.bool (nOf (n + c1 * d))) (.slice T9 k9 i9))
    have S5 := Lib.hid (S5.out.bk2 X4.out (.bool (nOf (n + c1 * d))) (.slice T9 k9 i9))
    have X6 := Lib.hid (X6.out.far2 (show w5.heap.size ≠ W0.heap.size by omega) (.bool (nOf (n + c1 * d))) (.slice T9 k9 i9))
    have S6 := Lib.hid (S6.out.bk2 X4.out (.bool (nOf (n + c1 * d))) (.slice T9 k9 i9))
    have S9 := Lib.hid (S9.out.bk2 X4.out (.bool (nOf (n + c1 * d))) (.slice T9 k9 i9))
    have X4 := Lib.hid (X4.out.set2 (.bool (nOf (n + c1 * d))) (.slice T9 k9 i9))
    generalize ((w8.setCell ⟨W0.heap.size, 0, none⟩ (.bool (nOf (n + c1 * d)))).setCell ⟨W0.heap.size, 1, none⟩ (.slice T9 k9 i9)) = W8 at *
    rcases Bool.eq_false_or_eq_true (fitB ((W - c1) * d)) with hm | hm
    · have HM := Lib.hid hm
      clear hm
      have e0 : W8.cell? ⟨w.heap.size, 0, none⟩ = some (.bool (nOf (W - c1))) := X1.out.c 0 rfl
      have e1 : W8.cell? ⟨w.heap.size, 1, none⟩ = some (.slice T6 k6 i6) := X1.out.c 1 rfl
      have e2 : W8.cell? ⟨w.heap.size + 1, 0, none⟩ = some (.bool (nOf (n))) := X2.out.c 0 rfl
      have e3 : W8.cell? ⟨w.heap.size + 1, 1, none⟩ = some (.slice B nb cb) := X2.out.c 1 rfl
      have e4 : W8.cell? ⟨w.heap.size + 1, 2, none⟩ = some (.bool (nOf (d))) := X2.out.c 2 rfl
      have e5 : W8.cell? ⟨w.heap.size + 1, 3, none⟩ = some (.slice C nc cc) := X2.out.c 3 rfl
      go_wp2_with fail
      ((with_reducible refine (mul_z ((W - c1)) d T6 C k6 i6 nc cc _ S6.out S3.out FW.out H3.out).mono ?_); rintro e u7 ⟨T7, k7, i7, rfl, hs, hb⟩)
      rw [HM.out]; rw [fitZ_of HM.out] at hs ⊢
      clear e0 e1 e2 e3 e4 e5
      have S1 := Lib.hid (S1.out.below hb)
      have S2 := Lib.hid (S2.out.below hb)
      have S3 := Lib.hid (S3.out.below hb)
      have BW := Lib.hid (below_on BW.out hb)
      have X1 := Lib.hid (X1.out.below hb)
      have X2 := Lib.hid (X2.out.below hb)
      have X3 := Lib.hid (X3.out.below hb)
      have X4 := Lib.hid (X4.out.below hb)
      have S4 := Lib.hid (S4.out.below hb)
      have X5 := Lib.hid (X5.out.below hb)
      have S5 := Lib.hid (S5.out.below hb)
      have X6 := Lib.hid (X6.out.below hb)
      have S6 := Lib.hid (S6.out.below hb)
      have S9 := Lib.hid (S9.out.below hb)
      clear hb
      have S7 := Lib.hid hs
      clear hs
      have e0 : u7.cell? ⟨w.heap.size, 0, none⟩ = some (.bool (nOf (W - c1))) := X1.out.c 0 rfl
      have e1 : u7.cell? ⟨w.heap.size, 1, none⟩ = some (.slice T6 k6 i6) := X1.out.c 1 rfl
      have e2 : u7.cell? ⟨w.heap.size + 1, 0, none⟩ = some (.bool (nOf (n))) := X2.out.c 0 rfl
      have e3 : u7.cell? ⟨w.heap.size + 1, 1, none⟩ = some (.slice B nb cb) := X2.out.c 1 rfl
      have e4 : u7.cell? ⟨w.heap.size + 1, 2, none⟩ = some (.bool (nOf (d))) := X2.out.c 2 rfl
      have e5 : u7.cell? ⟨w.heap.size + 1, 3, none⟩ = some (.slice C nc cc) := X2.out.c 3 rfl
      go_upto_region 8 with fail
      clear e0 e1 e2 e3 e4 e5
      have ln13 := X1.out.lt
      have ln14 := X2.out.lt
      have ln15 := X3.out.lt
      have ln16 := X4.out.lt
      have ln17 := X5.out.lt
      have ln18 := X6.out.lt
      have S1 := Lib.hid (S1.out.alloc (.cells #[.bool (nOf ((W - c1) * d)), .slice T7 k7 i7] 24))
      have S2 := Lib.hid (S2.out.alloc (.cells #[.bool (nOf ((W - c1) * d)), .slice T7 k7 i7] 24))
      have S3 := Lib.hid (S3.out.alloc (.cells #[.bool (nOf ((W - c1) * d)), .slice T7 k7 i7] 24))
      have BW := Lib.hid (BW.out.alloc BW.out.size (.cells #[.bool (nOf ((W - c1) * d)), .slice T7 k7 i7] 24))
      have X1 := Lib.hid (X1.out.alloc (.cells #[.bool (nOf ((W - c1) * d)), .slice T7 k7 i7] 24))
      have X2 := Lib.hid (X2.out.alloc (.cells #[.bool (nOf ((W - c1) * d)), .slice T7 k7 i7] 24))
      have X3 := Lib.hid (X3.out.alloc (.cells #[.bool (nOf ((W - c1) * d)), .slice T7 k7 i7] 24))
      have X4 := Lib.hid (X4.out.alloc (.cells #[.bool (nOf ((W - c1) * d)), .slice T7 k7 i7] 24))
      have S4 := Lib.hid (S4.out.alloc (.cells #[.bool (nOf ((W - c1) * d)), .slice T7 k7 i7] 24))
      have X5 := Lib.hid (X5.out.alloc (.cells #[.bool (nOf ((W - c1) * d)), .slice T7 k7 i7] 24))
      have S5 := Lib.hid (S5.out.alloc (.cells #[.bool (nOf ((W - c1) * d)), .slice T7 k7 i7] 24))
      have X6 := Lib.hid (X6.out.alloc (.cells #[.bool (nOf ((W - c1) * d)), .slice T7 k7 i7] 24))
      have S6 := Lib.hid (S6.out.alloc (.cells #[.bool (nOf ((W - c1) * d)), .slice T7 k7 i7] 24))
      have S9 := Lib.hid (S9.out.alloc (.cells #[.bool (nOf ((W - c1) * d)), .slice T7 k7 i7] 24))
      have S7 := Lib.hid (S7.out.alloc (.cells #[.bool (nOf ((W - c1) * d)), .slice T7 k7 i7] 24))
      have X7 := Lib.hid (Bk.new 24 u7 #[.bool (nOf ((W - c1) * d)), .slice T7 k7 i7])
      generalize (u7.alloc (.cells #[.bool (nOf ((W - c1) * d)), .slice T7 k7 i7] 24)) = V7 at *
      rcases Bool.eq_false_or_eq_true (fitB (W * d + n)) with hf | hf
      · have HF := Lib.hid hf
        have E1 := Lib.hid (j_yes (W * d + n) hf)
        have E2 := Lib.hid (j_yes d hf)
        clear hf
        have e0 : V7.cell? ⟨u7.heap.size, 0, none⟩ = some (.bool (nOf ((W - c1) * d))) := X7.out.c 0 rfl
        have e1 : V7.cell? ⟨u7.heap.size, 1, none⟩ = some (.slice T7 k7 i7) := X7.out.c 1 rfl
        have e2 : V7.cell? ⟨W0.heap.size, 0, none⟩ = some (.bool (nOf (n + c1 * d))) := X4.out.c 0 rfl
        have e3 : V7.cell? ⟨W0.heap.size, 1, none⟩ = some (.slice T9 k9 i9) := X4.out.c 1 rfl
        go_wp2_with fail
        ((with_reducible refine (add_z ((W - c1) * d) (n + c1 * d) T7 T9 k7 i7 k9 i9 _ S7.out S9.out HM.out FN.out).mono ?_); rintro e u8 ⟨T8, k8, i8, rfl, hs, hb⟩)
        rw [EQ.out, HF.out]; rw [EQ.out, fitZ_of HF.out] at hs; rw [fitZ_of HF.out]
        clear e0 e1 e2 e3
        have S1 := Lib.hid (S1.out.below hb)
        have S2 := Lib.hid (S2.out.below hb)
        have S3 := Lib.hid (S3.out.below hb)
        have BW := Lib.hid (below_on BW.out hb)
        have X1 := Lib.hid (X1.out.below hb)
        have X2 := Lib.hid (X2.out.below hb)
        have X3 := Lib.hid (X3.out.below hb)
        have X4 := Lib.hid (X4.out.below hb)
        have S4 := Lib.hid (S4.out.below hb)
        have X5 := Lib.hid (X5.out.below hb)
        have S5 := Lib.hid (S5.out.below hb)
        have X6 := Lib.hid (X6.out.below hb)
        have S6 := Lib.hid (S6.out.below hb)
        have S9 := Lib.hid (S9.out.below hb)
        have S7 := Lib.hid (S7.out.below hb)
        have X7 := Lib.hid (X7.out.below hb)
        clear hb
        have S8 := Lib.hid hs
        clear hs
        have e0 : u8.cell? ⟨u7.heap.size, 0, none⟩ = some (.bool (nOf ((W - c1) * d))) := X7.out.c 0 rfl
        have e1 : u8.cell? ⟨u7.heap.size, 1, none⟩ = some (.slice T7 k7 i7) := X7.out.c 1 rfl
        have e2 : u8.cell? ⟨W0.heap.size, 0, none⟩ = some (.bool (nOf (n + c1 * d))) := X4.out.c 0 rfl
        have e3 : u8.cell? ⟨W0.heap.size, 1, none⟩ = some (.slice T9 k9 i9) := X4.out.c 1 rfl
        go_upto_region 9 with fail
        clear e0 e1 e2 e3
        have ln19 := X1.out.lt
        have ln20 := X2.out.lt
        have ln21 := X3.out.lt
        have ln22 := X4.out.lt
        have ln23 := X5.out.lt
        have ln24 := X6.out.lt
        have ln25 := X7.out.lt
        have S1 := Lib.hid (S1.out.alloc (.cells #[.bool (nOf (W * d + n)), .slice T8 k8 i8] 24))
        have S2 := Lib.hid (S2.out.alloc (.cells #[.bool (nOf (W * d + n)), .slice T8 k8 i8] 24))
        have S3 := Lib.hid (S3.out.alloc (.cells #[.bool (nOf (W * d + n)), .slice T8 k8 i8] 24))
        have BW := Lib.hid (BW.out.alloc BW.out.size (.cells #[.bool (nOf (W * d + n)), .slice T8 k8 i8] 24))
        have X1 := Lib.hid (X1.out.alloc (.cells #[.bool (nOf (W * d + n)), .slice T8 k8 i8] 24))
        have X2 := Lib.hid (X2.out.alloc (.cells #[.bool (nOf (W * d + n)), .slice T8 k8 i8] 24))
        have X3 := Lib.hid (X3.out.alloc (.cells #[.bool (nOf (W * d + n)), .slice T8 k8 i8] 24))
        have X4 := Lib.hid (X4.out.alloc (.cells #[.bool (nOf (W * d + n)), .slice T8 k8 i8] 24))
        have S4 := Lib.hid (S4.out.alloc (.cells #[.bool (nOf (W * d + n)), .slice T8 k8 i8] 24))
        have X5 := Lib.hid (X5.out.alloc (.cells #[.bool (nOf (W * d + n)), .slice T8 k8 i8] 24))
        have S5 := Lib.hid (S5.out.alloc (.cells #[.bool (nOf (W * d + n)), .slice T8 k8 i8] 24))
        have X6 := Lib.hid (X6.out.alloc (.cells #[.bool (nOf (W * d + n)), .slice T8 k8 i8] 24))
        have S6 := Lib.hid (S6.out.alloc (.cells #[.bool (nOf (W * d + n)), .slice T8 k8 i8] 24))
        have S9 := Lib.hid (S9.out.alloc (.cells #[.bool (nOf (W * d + n)), .slice T8 k8 i8] 24))
        have S7 := Lib.hid (S7.out.alloc (.cells #[.bool (nOf (W * d + n)), .slice T8 k8 i8] 24))
        have X7 := Lib.hid (X7.out.alloc (.cells #[.bool (nOf (W * d + n)), .slice T8 k8 i8] 24))
        have S8 := Lib.hid (S8.out.alloc (.cells #[.bool (nOf (W * d + n)), .slice T8 k8 i8] 24))
        have X8 := Lib.hid (Bk.new 24 u8 #[.bool (nOf (W * d + n)), .slice T8 k8 i8])
        generalize (u8.alloc (.cells #[.bool (nOf (W * d + n)), .slice T8 k8 i8] 24)) = V8 at *
        have e0 : V8.cell? ⟨u8.heap.size, 0, none⟩ = some (.bool (nOf (W * d + n))) := X8.out.c 0 rfl
        have e1 : V8.cell? ⟨u8.heap.size, 1, none⟩ = some (.slice T8 k8 i8) := X8.out.c 1 rfl
        have e2 : V8.cell? ⟨w.heap.size + 1, 0, none⟩ = some (.bool (nOf (n))) := X2.out.c 0 rfl
        have e3 : V8.cell? ⟨w.heap.size + 1, 1, none⟩ = some (.slice B nb cb) := X2.out.c 1 rfl
        have e4 : V8.cell? ⟨w.heap.size + 1, 2, none⟩ = some (.bool (nOf (d))) := X2.out.c 2 rfl
        have e5 : V8.cell? ⟨w.heap.size + 1, 3, none⟩ = some (.slice C nc cc) := X2.out.c 3 rfl
        have e6 : V8.cell? ⟨w.heap.size + 1 + 1, 0, none⟩ = some (.bool false) := X3.out.c 0 rfl
        have e7 : V8.cell? ⟨w.heap.size + 1 + 1, 1, none⟩ = some (.slice none 0 0) := X3.out.c 1 rfl
        have e8 : V8.cell? ⟨w.heap.size + 1 + 1, 2, none⟩ = some (.bool false) := X3.out.c 2 rfl
        have e9 : V8.cell? ⟨w.heap.size + 1 + 1, 3, none⟩ = some (.slice none 0 0) := X3.out.c 3 rfl
        have z10 := X3.out.fz 0
        have z11 := X3.out.fz 1
        have z12 := X3.out.fz 2
        have z13 := X3.out.fz 3
        go_wp2_with fail
        refine bodyPost_ret (v := .tuple #[.agg #[.bool (nOf (W * d + n)), .slice T8 k8 i8, .bool (nOf (d)), .slice C nc cc], .bool true]) (by simp [results, Tryz.results54, go_sem, *]) rfl ⟨T8, k8, i8, C, nc, cc, ?_, ?_, ?_, below_set4 BW.out (by omega) _ _ _ _⟩
        · rw [E1.out, E2.out, HF.out]
        · rw [E1.out]; exact S8.out.bk4 X3.out _ _ _ _
        · rw [E2.out]; exact S3.out.bk4 X3.out _ _ _ _
      · have HF := Lib.hid hf
        have E1 := Lib.hid (j_no (W * d + n) hf)
        have E2 := Lib.hid (j_no d hf)
        clear hf
        have e0 : V7.cell? ⟨u7.heap.size, 0, none⟩ = some (.bool (nOf ((W - c1) * d))) := X7.out.c 0 rfl
        have e1 : V7.cell? ⟨u7.heap.size, 1, none⟩ = some (.slice T7 k7 i7) := X7.out.c 1 rfl
        have e2 : V7.cell? ⟨W0.heap.size, 0, none⟩ = some (.bool (nOf (n + c1 * d))) := X4.out.c 0 rfl
        have e3 : V7.cell? ⟨W0.heap.size, 1, none⟩ = some (.slice T9 k9 i9) := X4.out.c 1 rfl
        go_wp2_with fail
        ((with_reducible refine (add_z ((W - c1) * d) (n + c1 * d) T7 T9 k7 i7 k9 i9 _ S7.out S9.out HM.out FN.out).mono ?_); rintro e u8 ⟨T8, k8, i8, rfl, hs, hb⟩)
        rw [EQ.out, HF.out]; rw [EQ.out] at hs
        clear e0 e1 e2 e3
        have S1 := Lib.hid (S1.out.below hb)
        have S2 := Lib.hid (S2.out.below hb)
        have S3 := Lib.hid (S3.out.below hb)
        have BW := Lib.hid (below_on BW.out hb)
        have X1 := Lib.hid (X1.out.below hb)
        have X2 := Lib.hid (X2.out.below hb)
        have X3 := Lib.hid (X3.out.below hb)
        have X4 := Lib.hid (X4.out.below hb)
        have S4 := Lib.hid (S4.out.below hb)
        have X5 := Lib.hid (X5.out.below hb)
        have S5 := Lib.hid (S5.out.below hb)
        have X6 := Lib.hid (X6.out.below hb)
        have S6 := Lib.hid (S6.out.below hb)
        have S9 := Lib.hid (S9.out.below hb)
        have S7 := Lib.hid (S7.out.below hb)
        have X7 := Lib.hid (X7.out.below hb)
        clear hb
        have S8 := Lib.hid hs
        clear hs
        have e0 : u8.cell? ⟨u7.heap.size, 0, none⟩ = some (.bool (nOf ((W - c1) * d))) := X7.out.c 0 rfl
        have e1 : u8.cell? ⟨u7.heap.size, 1, none⟩ = some (.slice T7 k7 i7) := X7.out.c 1 rfl
        have e2 : u8.cell? ⟨W0.heap.size, 0, none⟩ = some (.bool (nOf (n + c1 * d))) := X4.out.c 0 rfl
        have e3 : u8.cell? ⟨W0.heap.size, 1, none⟩ = some (.slice T9 k9 i9) := X4.out.c 1 rfl
        go_upto_region 9 with fail
        clear e0 e1 e2 e3
        have ln19 := X1.out.lt
        have ln20 := X2.out.lt
        have ln21 := X3.out.lt
        have ln22 := X4.out.lt
        have ln23 := X5.out.lt
        have ln24 := X6.out.lt
        have ln25 := X7.out.lt
        have S1 := Lib.hid (S1.out.alloc (.cells #[.bool (nOf (fitZ (W * d + n))), .slice T8 k8 i8] 24))
        have S2 := Lib.hid (S2.out.alloc (.cells #[.bool (nOf (fitZ (W * d + n))), .slice T8 k8 i8] 24))
        have S3 := Lib.hid (S3.out.alloc (.cells #[.bool (nOf (fitZ (W * d + n))), .slice T8 k8 i8] 24))
        have BW := Lib.hid (BW.out.alloc BW.out.size (.cells #[.bool (nOf (fitZ (W * d + n))), .slice T8 k8 i8] 24))
        have X1 := Lib.hid (X1.out.alloc (.cells #[.bool (nOf (fitZ (W * d + n))), .slice T8 k8 i8] 24))
        have X2 := Lib.hid (X2.out.alloc (.cells #[.bool (nOf (fitZ (W * d + n))), .slice T8 k8 i8] 24))
        have X3 := Lib.hid (X3.out.alloc (.cells #[.bool (nOf (fitZ (W * d + n))), .slice T8 k8 i8] 24))
        have X4 := Lib.hid (X4.out.alloc (.cells #[.bool (nOf (fitZ (W * d + n))), .slice T8 k8 i8] 24))
        have S4 := Lib.hid (S4.out.alloc (.cells #[.bool (nOf (fitZ (W * d + n))), .slice T8 k8 i8] 24))
        have X5 := Lib.hid (X5.out.alloc (.cells #[.bool (nOf (fitZ (W * d + n))), .slice T8 k8 i8] 24))
        have S5 := Lib.hid (S5.out.alloc (.cells #[.bool (nOf (fitZ (W * d + n))), .slice T8 k8 i8] 24))
        have X6 := Lib.hid (X6.out.alloc (.cells #[.bool (nOf (fitZ (W * d + n))), .slice T8 k8 i8] 24))
        have S6 := Lib.hid (S6.out.alloc (.cells #[.bool (nOf (fitZ (W * d + n))), .slice T8 k8 i8] 24))
        have S9 := Lib.hid (S9.out.alloc (.cells #[.bool (nOf (fitZ (W * d + n))), .slice T8 k8 i8] 24))
        have S7 := Lib.hid (S7.out.alloc (.cells #[.bool (nOf (fitZ (W * d + n))), .slice T8 k8 i8] 24))
        have X7 := Lib.hid (X7.out.alloc (.cells #[.bool (nOf (fitZ (W * d + n))), .slice T8 k8 i8] 24))
        have S8 := Lib.hid (S8.out.alloc (.cells #[.bool (nOf (fitZ (W * d + n))), .slice T8 k8 i8] 24))
        have X8 := Lib.hid (Bk.new 24 u8 #[.bool (nOf (fitZ (W * d + n))), .slice T8 k8 i8])
        generalize (u8.alloc (.cells #[.bool (nOf (fitZ (W * d + n))), .slice T8 k8 i8] 24)) = V8 at *
        have e0 : V8.cell? ⟨w.heap.size + 1 + 1, 0, none⟩ = some (.bool false) := X3.out.c 0 rfl
        have e1 : V8.cell? ⟨w.heap.size + 1 + 1, 1, none⟩ = some (.slice none 0 0) := X3.out.c 1 rfl
        have e2 : V8.cell? ⟨w.heap.size + 1 + 1, 2, none⟩ = some (.bool false) := X3.out.c 2 rfl
        have e3 : V8.cell? ⟨w.heap.size + 1 + 1, 3, none⟩ = some (.slice none 0 0) := X3.out.c 3 rfl
        have z4 := X3.out.fz 0
        have z5 := X3.out.fz 1
        have z6 := X3.out.fz 2
        have z7 := X3.out.fz 3
        go_wp2_with fail
        refine bodyPost_ret (v := .tuple #[.agg #[.bool false, .slice none 0 0, .bool false, .slice none 0 0], .bool false]) (by simp [results, Tryz.results54, go_sem, *]) rfl ⟨none, 0, 0, none, 0, 0, ?_, ?_, ?_, below_set4 BW.out (by omega) _ _ _ _⟩
        · rw [E1.out, E2.out, HF.out]; rfl
        · rw [E1.out, lOf_zero]; exact Sl.nil _
        · rw [E2.out, lOf_zero]; exact Sl.nil _
    · have HM := Lib.hid hm
      have hf : fitB (W * d + n) = false := by rw [← EQ.out]; exact sum_fit SG.out hm
      have HF := Lib.hid hf
      have E1 := Lib.hid (j_no (W * d + n) hf)
      have E2 := Lib.hid (j_no d hf)
      clear hf hm
      have e0 : W8.cell? ⟨w.heap.size, 0, none⟩ = some (.bool (nOf (W - c1))) := X1.out.c 0 rfl
      have e1 : W8.cell? ⟨w.heap.size, 1, none⟩ = some (.slice T6 k6 i6) := X1.out.c 1 rfl
      have e2 : W8.cell? ⟨w.heap.size + 1, 0, none⟩ = some (.bool (nOf (n))) := X2.out.c 0 rfl
      have e3 : W8.cell? ⟨w.heap.size + 1, 1, none⟩ = some (.slice B nb cb) := X2.out.c 1 rfl
      have e4 : W8.cell? ⟨w.heap.size + 1, 2, none⟩ = some (.bool (nOf (d))) := X2.out.c 2 rfl
      have e5 : W8.cell? ⟨w.heap.size + 1, 3, none⟩ = some (.slice C nc cc) := X2.out.c 3 rfl
      go_wp2_with fail
      ((with_reducible refine (mul_z ((W - c1)) d T6 C k6 i6 nc cc _ S6.out S3.out FW.out H3.out).mono ?_); rintro e u7 ⟨T7, k7, i7, rfl, hs, hb⟩)
      rw [HM.out]; rw [fitZ_not HM.out] at hs ⊢
      clear e0 e1 e2 e3 e4 e5
      have S1 := Lib.hid (S1.out.below hb)
      have S2 := Lib.hid (S2.out.below hb)
      have S3 := Lib.hid (S3.out.below hb)
      have BW := Lib.hid (below_on BW.out hb)
      have X1 := Lib.hid (X1.out.below hb)
      have X2 := Lib.hid (X2.out.below hb)
      have X3 := Lib.hid (X3.out.below hb)
      have X4 := Lib.hid (X4.out.below hb)
      have S4 := Lib.hid (S4.out.below hb)
      have X5 := Lib.hid (X5.out.below hb)
      have S5 := Lib.hid (S5.out.below hb)
      have X6 := Lib.hid (X6.out.below hb)
      have S6 := Lib.hid (S6.out.below hb)
      have S9 := Lib.hid (S9.out.below hb)
      clear hb
      have S7 := Lib.hid hs
      clear hs
      have e0 : u7.cell? ⟨w.heap.size, 0, none⟩ = some (.bool (nOf (W - c1))) := X1.out.c 0 rfl
      have e1 : u7.cell? ⟨w.heap.size, 1, none⟩ = some (.slice T6 k6 i6) := X1.out.c 1 rfl
      have e2 : u7.cell? ⟨w.heap.size + 1, 0, none⟩ = some (.bool (nOf (n))) := X2.out.c 0 rfl
      have e3 : u7.cell? ⟨w.heap.size + 1, 1, none⟩ = some (.slice B nb cb) := X2.out.c 1 rfl
      have e4 : u7.cell? ⟨w.heap.size + 1, 2, none⟩ = some (.bool (nOf (d))) := X2.out.c 2 rfl
      have e5 : u7.cell? ⟨w.heap.size + 1, 3, none⟩ = some (.slice C nc cc) := X2.out.c 3 rfl
      go_upto_region 8 with fail
      clear e0 e1 e2 e3 e4 e5
      have ln13 := X1.out.lt
      have ln14 := X2.out.lt
      have ln15 := X3.out.lt
      have ln16 := X4.out.lt
      have ln17 := X5.out.lt
      have ln18 := X6.out.lt
      have S1 := Lib.hid (S1.out.alloc (.cells #[.bool (nOf (0)), .slice T7 k7 i7] 24))
      have S2 := Lib.hid (S2.out.alloc (.cells #[.bool (nOf (0)), .slice T7 k7 i7] 24))
      have S3 := Lib.hid (S3.out.alloc (.cells #[.bool (nOf (0)), .slice T7 k7 i7] 24))
      have BW := Lib.hid (BW.out.alloc BW.out.size (.cells #[.bool (nOf (0)), .slice T7 k7 i7] 24))
      have X1 := Lib.hid (X1.out.alloc (.cells #[.bool (nOf (0)), .slice T7 k7 i7] 24))
      have X2 := Lib.hid (X2.out.alloc (.cells #[.bool (nOf (0)), .slice T7 k7 i7] 24))
      have X3 := Lib.hid (X3.out.alloc (.cells #[.bool (nOf (0)), .slice T7 k7 i7] 24))
      have X4 := Lib.hid (X4.out.alloc (.cells #[.bool (nOf (0)), .slice T7 k7 i7] 24))
      have S4 := Lib.hid (S4.out.alloc (.cells #[.bool (nOf (0)), .slice T7 k7 i7] 24))
      have X5 := Lib.hid (X5.out.alloc (.cells #[.bool (nOf (0)), .slice T7 k7 i7] 24))
      have S5 := Lib.hid (S5.out.alloc (.cells #[.bool (nOf (0)), .slice T7 k7 i7] 24))
      have X6 := Lib.hid (X6.out.alloc (.cells #[.bool (nOf (0)), .slice T7 k7 i7] 24))
      have S6 := Lib.hid (S6.out.alloc (.cells #[.bool (nOf (0)), .slice T7 k7 i7] 24))
      have S9 := Lib.hid (S9.out.alloc (.cells #[.bool (nOf (0)), .slice T7 k7 i7] 24))
      have S7 := Lib.hid (S7.out.alloc (.cells #[.bool (nOf (0)), .slice T7 k7 i7] 24))
      have X7 := Lib.hid (Bk.new 24 u7 #[.bool (nOf (0)), .slice T7 k7 i7])
      generalize (u7.alloc (.cells #[.bool (nOf (0)), .slice T7 k7 i7] 24)) = V7 at *
      have e0 : V7.cell? ⟨u7.heap.size, 0, none⟩ = some (.bool (nOf (0))) := X7.out.c 0 rfl
      have e1 : V7.cell? ⟨u7.heap.size, 1, none⟩ = some (.slice T7 k7 i7) := X7.out.c 1 rfl
      have e2 : V7.cell? ⟨W0.heap.size, 0, none⟩ = some (.bool (nOf (n + c1 * d))) := X4.out.c 0 rfl
      have e3 : V7.cell? ⟨W0.heap.size, 1, none⟩ = some (.slice T9 k9 i9) := X4.out.c 1 rfl
      go_wp2_with fail
      ((with_reducible refine (add_z 0 (n + c1 * d) T7 T9 k7 i7 k9 i9 _ S7.out S9.out fit_zero FN.out).mono ?_); rintro e u8 ⟨T8, k8, i8, rfl, hs, hb⟩)
      rw [Int.zero_add, FN.out]; rw [Int.zero_add, fitZ_of FN.out] at hs; rw [fitZ_of FN.out]
      clear e0 e1 e2 e3
      have S1 := Lib.hid (S1.out.below hb)
      have S2 := Lib.hid (S2.out.below hb)
      have S3 := Lib.hid (S3.out.below hb)
      have BW := Lib.hid (below_on BW.out hb)
      have X1 := Lib.hid (X1.out.below hb)
      have X2 := Lib.hid (X2.out.below hb)
      have X3 := Lib.hid (X3.out.below hb)
      have X4 := Lib.hid (X4.out.below hb)
      have S4 := Lib.hid (S4.out.below hb)
      have X5 := Lib.hid (X5.out.below hb)
      have S5 := Lib.hid (S5.out.below hb)
      have X6 := Lib.hid (X6.out.below hb)
      have S6 := Lib.hid (S6.out.below hb)
      have S9 := Lib.hid (S9.out.below hb)
      have S7 := Lib.hid (S7.out.below hb)
      have X7 := Lib.hid (X7.out.below hb)
      clear hb
      have S8 := Lib.hid hs
      clear hs
      have e0 : u8.cell? ⟨u7.heap.size, 0, none⟩ = some (.bool (nOf (0))) := X7.out.c 0 rfl
      have e1 : u8.cell? ⟨u7.heap.size, 1, none⟩ = some (.slice T7 k7 i7) := X7.out.c 1 rfl
      have e2 : u8.cell? ⟨W0.heap.size, 0, none⟩ = some (.bool (nOf (n + c1 * d))) := X4.out.c 0 rfl
      have e3 : u8.cell? ⟨W0.heap.size, 1, none⟩ = some (.slice T9 k9 i9) := X4.out.c 1 rfl
      go_upto_region 9 with fail
      clear e0 e1 e2 e3
      have ln19 := X1.out.lt
      have ln20 := X2.out.lt
      have ln21 := X3.out.lt
      have ln22 := X4.out.lt
      have ln23 := X5.out.lt
      have ln24 := X6.out.lt
      have ln25 := X7.out.lt
      have S1 := Lib.hid (S1.out.alloc (.cells #[.bool (nOf (n + c1 * d)), .slice T8 k8 i8] 24))
      have S2 := Lib.hid (S2.out.alloc (.cells #[.bool (nOf (n + c1 * d)), .slice T8 k8 i8] 24))
      have S3 := Lib.hid (S3.out.alloc (.cells #[.bool (nOf (n + c1 * d)), .slice T8 k8 i8] 24))
      have BW := Lib.hid (BW.out.alloc BW.out.size (.cells #[.bool (nOf (n + c1 * d)), .slice T8 k8 i8] 24))
      have X1 := Lib.hid (X1.out.alloc (.cells #[.bool (nOf (n + c1 * d)), .slice T8 k8 i8] 24))
      have X2 := Lib.hid (X2.out.alloc (.cells #[.bool (nOf (n + c1 * d)), .slice T8 k8 i8] 24))
      have X3 := Lib.hid (X3.out.alloc (.cells #[.bool (nOf (n + c1 * d)), .slice T8 k8 i8] 24))
      have X4 := Lib.hid (X4.out.alloc (.cells #[.bool (nOf (n + c1 * d)), .slice T8 k8 i8] 24))
      have S4 := Lib.hid (S4.out.alloc (.cells #[.bool (nOf (n + c1 * d)), .slice T8 k8 i8] 24))
      have X5 := Lib.hid (X5.out.alloc (.cells #[.bool (nOf (n + c1 * d)), .slice T8 k8 i8] 24))
      have S5 := Lib.hid (S5.out.alloc (.cells #[.bool (nOf (n + c1 * d)), .slice T8 k8 i8] 24))
      have X6 := Lib.hid (X6.out.alloc (.cells #[.bool (nOf (n + c1 * d)), .slice T8 k8 i8] 24))
      have S6 := Lib.hid (S6.out.alloc (.cells #[.bool (nOf (n + c1 * d)), .slice T8 k8 i8] 24))
      have S9 := Lib.hid (S9.out.alloc (.cells #[.bool (nOf (n + c1 * d)), .slice T8 k8 i8] 24))
      have S7 := Lib.hid (S7.out.alloc (.cells #[.bool (nOf (n + c1 * d)), .slice T8 k8 i8] 24))
      have X7 := Lib.hid (X7.out.alloc (.cells #[.bool (nOf (n + c1 * d)), .slice T8 k8 i8] 24))
      have S8 := Lib.hid (S8.out.alloc (.cells #[.bool (nOf (n + c1 * d)), .slice T8 k8 i8] 24))
      have X8 := Lib.hid (Bk.new 24 u8 #[.bool (nOf (n + c1 * d)), .slice T8 k8 i8])
      generalize (u8.alloc (.cells #[.bool (nOf (n + c1 * d)), .slice T8 k8 i8] 24)) = V8 at *
      have e0 : V8.cell? ⟨w.heap.size + 1 + 1, 0, none⟩ = some (.bool false) := X3.out.c 0 rfl
      have e1 : V8.cell? ⟨w.heap.size + 1 + 1, 1, none⟩ = some (.slice none 0 0) := X3.out.c 1 rfl
      have e2 : V8.cell? ⟨w.heap.size + 1 + 1, 2, none⟩ = some (.bool false) := X3.out.c 2 rfl
      have e3 : V8.cell? ⟨w.heap.size + 1 + 1, 3, none⟩ = some (.slice none 0 0) := X3.out.c 3 rfl
      have z4 := X3.out.fz 0
      have z5 := X3.out.fz 1
      have z6 := X3.out.fz 2
      have z7 := X3.out.fz 3
      go_wp2_with fail
      refine bodyPost_ret (v := .tuple #[.agg #[.bool false, .slice none 0 0, .bool false, .slice none 0 0], .bool false]) (by simp [results, Tryz.results54, go_sem, *]) rfl ⟨none, 0, 0, none, 0, 0, ?_, ?_, ?_, below_set4 BW.out (by omega) _ _ _ _⟩
      · rw [E1.out, E2.out, HF.out]; rfl
      · rw [E1.out, lOf_zero]; exact Sl.nil _
      · rw [E2.out, lOf_zero]; exact Sl.nil _
  · have HPR := Lib.hid hp
    have hw : IntKind.i64.wrap (c1 * c2) = c1 * c2 := by
      rcases (by omega : c1 = -1 ∨ c1 = 0 ∨ c1 = 1) with h | h | h <;> rcases (by omega : c2 = -1 ∨ c2 = 0 ∨ c2 = 1) with k | k | k <;> subst h <;> subst k <;> rfl
    have e0 : W1.cell? ⟨w.heap.size, 0, none⟩ = some (.bool (nOf (W))) := X1.out.c 0 rfl
    have e1 : W1.cell? ⟨w.heap.size, 1, none⟩ = some (.slice A na ca) := X1.out.c 1 rfl
    have e2 : W1.cell? ⟨W0.heap.size, 0, none⟩ = some (.bool (nOf (n))) := X4.out.c 0 rfl
    have e3 : W1.cell? ⟨W0.heap.size, 1, none⟩ = some (.slice B nb cb) := X4.out.c 1 rfl
    go_region_held3 (fun w' => w'.cell? ⟨w.heap.size, 0, none⟩ = some (.bool (nOf (W))) ∧ w'.cell? ⟨w.heap.size, 1, none⟩ = some (.slice A na ca) ∧ w'.cell? ⟨W0.heap.size, 0, none⟩ = some (.bool (nOf (n))) ∧ w'.cell? ⟨W0.heap.size, 1, none⟩ = some (.slice B nb cb)) (go_keep)
      (first | (go_at_call 45; (with_reducible refine (sign_z W A na ca _ (by first | exact S1.out | exact S1.out.drew) H1.out).mono ?_); rintro e a1 ⟨rfl, hb⟩; rw [C1.out]; have BB1 := Lib.hid (show Below W1.heap.size W1 a1 from (by first | exact hb | exact (Below.refl _ _).drew.trans (hb.mono (Nat.le_refl _)))); have f0 : a1.cell? ⟨w.heap.size, 0, none⟩ = some (.bool (nOf (W))) := (X1.out.below BB1.out).c 0 rfl; have f1 : a1.cell? ⟨w.heap.size, 1, none⟩ = some (.slice A na ca) := (X1.out.below BB1.out).c 1 rfl; have f2 : a1.cell? ⟨W0.heap.size, 0, none⟩ = some (.bool (nOf (n))) := (X4.out.below BB1.out).c 0 rfl; have f3 : a1.cell? ⟨W0.heap.size, 1, none⟩ = some (.slice B nb cb) := (X4.out.below BB1.out).c 1 rfl; clear hb) | (go_at_call 45; (with_reducible refine (sign_z n B nb cb _ (S2.out.below BB1.out) H2.out).mono ?_); rintro e a2 ⟨rfl, hb⟩; rw [C2.out]; have BB2 := Lib.hid (below_up BB1.out hb); have f0 : a2.cell? ⟨w.heap.size, 0, none⟩ = some (.bool (nOf (W))) := (X1.out.below BB2.out).c 0 rfl; have f1 : a2.cell? ⟨w.heap.size, 1, none⟩ = some (.slice A na ca) := (X1.out.below BB2.out).c 1 rfl; have f2 : a2.cell? ⟨W0.heap.size, 0, none⟩ = some (.bool (nOf (n))) := (X4.out.below BB2.out).c 0 rfl; have f3 : a2.cell? ⟨W0.heap.size, 1, none⟩ = some (.slice B nb cb) := (X4.out.below BB2.out).c 1 rfl; clear hb))
    clear e0 e1 e2 e3
    try clear f0 f1 f2 f3
    have S1 := Lib.hid (S1.out.below BB2.out)
    have S2 := Lib.hid (S2.out.below BB2.out)
    have S3 := Lib.hid (S3.out.below BB2.out)
    have BW := Lib.hid (below_on BW.out BB2.out)
    have X1 := Lib.hid (X1.out.below BB2.out)
    have X2 := Lib.hid (X2.out.below BB2.out)
    have X3 := Lib.hid (X3.out.below BB2.out)
    have X4 := Lib.hid (X4.out.below BB2.out)
    have FW := H1
    have FN := H2
    have SG : Hid (0 ≤ W * d ∧ 0 ≤ n ∨ W * d ≤ 0 ∧ n ≤ 0) := join_same C1.out C2.out (by have := HPR.out; omega) (by have := L1.out; have := L2.out; omega)
    go_upto_region 7 with fail
    clear hw hp
    rcases Bool.eq_false_or_eq_true (fitB (W * d)) with hm | hm
    · have HM := Lib.hid hm
      clear hm
      have e0 : a2.cell? ⟨w.heap.size, 0, none⟩ = some (.bool (nOf (W))) := X1.out.c 0 rfl
      have e1 : a2.cell? ⟨w.heap.size, 1, none⟩ = some (.slice A na ca) := X1.out.c 1 rfl
      have e2 : a2.cell? ⟨w.heap.size + 1, 0, none⟩ = some (.bool (nOf (n))) := X2.out.c 0 rfl
      have e3 : a2.cell? ⟨w.heap.size + 1, 1, none⟩ = some (.slice B nb cb) := X2.out.c 1 rfl
      have e4 : a2.cell? ⟨w.heap.size + 1, 2, none⟩ = some (.bool (nOf (d))) := X2.out.c 2 rfl
      have e5 : a2.cell? ⟨w.heap.size + 1, 3, none⟩ = some (.slice C nc cc) := X2.out.c 3 rfl
      go_wp2_with fail
      ((with_reducible refine (mul_z (W) d A C na ca nc cc _ S1.out S3.out FW.out H3.out).mono ?_); rintro e u7 ⟨T7, k7, i7, rfl, hs, hb⟩)
      rw [HM.out]; rw [fitZ_of HM.out] at hs ⊢
      clear e0 e1 e2 e3 e4 e5
      have S1 := Lib.hid (S1.out.below hb)
      have S2 := Lib.hid (S2.out.below hb)
      have S3 := Lib.hid (S3.out.below hb)
      have BW := Lib.hid (below_on BW.out hb)
      have X1 := Lib.hid (X1.out.below hb)
      have X2 := Lib.hid (X2.out.below hb)
      have X3 := Lib.hid (X3.out.below hb)
      have X4 := Lib.hid (X4.out.below hb)
      clear hb
      have S7 := Lib.hid hs
      clear hs
      have e0 : u7.cell? ⟨w.heap.size, 0, none⟩ = some (.bool (nOf (W))) := X1.out.c 0 rfl
      have e1 : u7.cell? ⟨w.heap.size, 1, none⟩ = some (.slice A na ca) := X1.out.c 1 rfl
      have e2 : u7.cell? ⟨w.heap.size + 1, 0, none⟩ = some (.bool (nOf (n))) := X2.out.c 0 rfl
      have e3 : u7.cell? ⟨w.heap.size + 1, 1, none⟩ = some (.slice B nb cb) := X2.out.c 1 rfl
      have e4 : u7.cell? ⟨w.heap.size + 1, 2, none⟩ = some (.bool (nOf (d))) := X2.out.c 2 rfl
      have e5 : u7.cell? ⟨w.heap.size + 1, 3, none⟩ = some (.slice C nc cc) := X2.out.c 3 rfl
      go_upto_region 8 with fail
      clear e0 e1 e2 e3 e4 e5
      have ln4 := X1.out.lt
      have ln5 := X2.out.lt
      have ln6 := X3.out.lt
      have ln7 := X4.out.lt
      have S1 := Lib.hid (S1.out.alloc (.cells #[.bool (nOf (W * d)), .slice T7 k7 i7] 24))
      have S2 := Lib.hid (S2.out.alloc (.cells #[.bool (nOf (W * d)), .slice T7 k7 i7] 24))
      have S3 := Lib.hid (S3.out.alloc (.cells #[.bool (nOf (W * d)), .slice T7 k7 i7] 24))
      have BW := Lib.hid (BW.out.alloc BW.out.size (.cells #[.bool (nOf (W * d)), .slice T7 k7 i7] 24))
      have X1 := Lib.hid (X1.out.alloc (.cells #[.bool (nOf (W * d)), .slice T7 k7 i7] 24))
      have X2 := Lib.hid (X2.out.alloc (.cells #[.bool (nOf (W * d)), .slice T7 k7 i7] 24))
      have X3 := Lib.hid (X3.out.alloc (.cells #[.bool (nOf (W * d)), .slice T7 k7 i7] 24))
      have X4 := Lib.hid (X4.out.alloc (.cells #[.bool (nOf (W * d)), .slice T7 k7 i7] 24))
      have S7 := Lib.hid (S7.out.alloc (.cells #[.bool (nOf (W * d)), .slice T7 k7 i7] 24))
      have X7 := Lib.hid (Bk.new 24 u7 #[.bool (nOf (W * d)), .slice T7 k7 i7])
      generalize (u7.alloc (.cells #[.bool (nOf (W * d)), .slice T7 k7 i7] 24)) = V7 at *
      rcases Bool.eq_false_or_eq_true (fitB (W * d + n)) with hf | hf
      · have HF := Lib.hid hf
        have E1 := Lib.hid (j_yes (W * d + n) hf)
        have E2 := Lib.hid (j_yes d hf)
        clear hf
        have e0 : V7.cell? ⟨u7.heap.size, 0, none⟩ = some (.bool (nOf (W * d))) := X7.out.c 0 rfl
        have e1 : V7.cell? ⟨u7.heap.size, 1, none⟩ = some (.slice T7 k7 i7) := X7.out.c 1 rfl
        have e2 : V7.cell? ⟨W0.heap.size, 0, none⟩ = some (.bool (nOf (n))) := X4.out.c 0 rfl
        have e3 : V7.cell? ⟨W0.heap.size, 1, none⟩ = some (.slice B nb cb) := X4.out.c 1 rfl
        go_wp2_with fail
        ((with_reducible refine (add_z (W * d) (n) T7 B k7 i7 nb cb _ S7.out S2.out HM.out FN.out).mono ?_); rintro e u8 ⟨T8, k8, i8, rfl, hs, hb⟩)
        rw [HF.out]; rw [fitZ_of HF.out] at hs ⊢
        clear e0 e1 e2 e3
        have S1 := Lib.hid (S1.out.below hb)
        have S2 := Lib.hid (S2.out.below hb)
        have S3 := Lib.hid (S3.out.below hb)
        have BW := Lib.hid (below_on BW.out hb)
        have X1 := Lib.hid (X1.out.below hb)
        have X2 := Lib.hid (X2.out.below hb)
        have X3 := Lib.hid (X3.out.below hb)
        have X4 := Lib.hid (X4.out.below hb)
        have S7 := Lib.hid (S7.out.below hb)
        have X7 := Lib.hid (X7.out.below hb)
        clear hb
        have S8 := Lib.hid hs
        clear hs
        have e0 : u8.cell? ⟨u7.heap.size, 0, none⟩ = some (.bool (nOf (W * d))) := X7.out.c 0 rfl
        have e1 : u8.cell? ⟨u7.heap.size, 1, none⟩ = some (.slice T7 k7 i7) := X7.out.c 1 rfl
        have e2 : u8.cell? ⟨W0.heap.size, 0, none⟩ = some (.bool (nOf (n))) := X4.out.c 0 rfl
        have e3 : u8.cell? ⟨W0.heap.size, 1, none⟩ = some (.slice B nb cb) := X4.out.c 1 rfl
        go_upto_region 9 with fail
        clear e0 e1 e2 e3
        have ln8 := X1.out.lt
        have ln9 := X2.out.lt
        have ln10 := X3.out.lt
        have ln11 := X4.out.lt
        have ln12 := X7.out.lt
        have S1 := Lib.hid (S1.out.alloc (.cells #[.bool (nOf (W * d + n)), .slice T8 k8 i8] 24))
        have S2 := Lib.hid (S2.out.alloc (.cells #[.bool (nOf (W * d + n)), .slice T8 k8 i8] 24))
        have S3 := Lib.hid (S3.out.alloc (.cells #[.bool (nOf (W * d + n)), .slice T8 k8 i8] 24))
        have BW := Lib.hid (BW.out.alloc BW.out.size (.cells #[.bool (nOf (W * d + n)), .slice T8 k8 i8] 24))
        have X1 := Lib.hid (X1.out.alloc (.cells #[.bool (nOf (W * d + n)), .slice T8 k8 i8] 24))
        have X2 := Lib.hid (X2.out.alloc (.cells #[.bool (nOf (W * d + n)), .slice T8 k8 i8] 24))
        have X3 := Lib.hid (X3.out.alloc (.cells #[.bool (nOf (W * d + n)), .slice T8 k8 i8] 24))
        have X4 := Lib.hid (X4.out.alloc (.cells #[.bool (nOf (W * d + n)), .slice T8 k8 i8] 24))
        have S7 := Lib.hid (S7.out.alloc (.cells #[.bool (nOf (W * d + n)), .slice T8 k8 i8] 24))
        have X7 := Lib.hid (X7.out.alloc (.cells #[.bool (nOf (W * d + n)), .slice T8 k8 i8] 24))
        have S8 := Lib.hid (S8.out.alloc (.cells #[.bool (nOf (W * d + n)), .slice T8 k8 i8] 24))
        have X8 := Lib.hid (Bk.new 24 u8 #[.bool (nOf (W * d + n)), .slice T8 k8 i8])
        generalize (u8.alloc (.cells #[.bool (nOf (W * d + n)), .slice T8 k8 i8] 24)) = V8 at *
        have e0 : V8.cell? ⟨u8.heap.size, 0, none⟩ = some (.bool (nOf (W * d + n))) := X8.out.c 0 rfl
        have e1 : V8.cell? ⟨u8.heap.size, 1, none⟩ = some (.slice T8 k8 i8) := X8.out.c 1 rfl
        have e2 : V8.cell? ⟨w.heap.size + 1, 0, none⟩ = some (.bool (nOf (n))) := X2.out.c 0 rfl
        have e3 : V8.cell? ⟨w.heap.size + 1, 1, none⟩ = some (.slice B nb cb) := X2.out.c 1 rfl
        have e4 : V8.cell? ⟨w.heap.size + 1, 2, none⟩ = some (.bool (nOf (d))) := X2.out.c 2 rfl
        have e5 : V8.cell? ⟨w.heap.size + 1, 3, none⟩ = some (.slice C nc cc) := X2.out.c 3 rfl
        have e6 : V8.cell? ⟨w.heap.size + 1 + 1, 0, none⟩ = some (.bool false) := X3.out.c 0 rfl
        have e7 : V8.cell? ⟨w.heap.size + 1 + 1, 1, none⟩ = some (.slice none 0 0) := X3.out.c 1 rfl
        have e8 : V8.cell? ⟨w.heap.size + 1 + 1, 2, none⟩ = some (.bool false) := X3.out.c 2 rfl
        have e9 : V8.cell? ⟨w.heap.size + 1 + 1, 3, none⟩ = some (.slice none 0 0) := X3.out.c 3 rfl
        have z10 := X3.out.fz 0
        have z11 := X3.out.fz 1
        have z12 := X3.out.fz 2
        have z13 := X3.out.fz 3
        go_wp2_with fail
        refine bodyPost_ret (v := .tuple #[.agg #[.bool (nOf (W * d + n)), .slice T8 k8 i8, .bool (nOf (d)), .slice C nc cc], .bool true]) (by simp [results, Tryz.results54, go_sem, *]) rfl ⟨T8, k8, i8, C, nc, cc, ?_, ?_, ?_, below_set4 BW.out (by omega) _ _ _ _⟩
        · rw [E1.out, E2.out, HF.out]
        · rw [E1.out]; exact S8.out.bk4 X3.out _ _ _ _
        · rw [E2.out]; exact S3.out.bk4 X3.out _ _ _ _
      · have HF := Lib.hid hf
        have E1 := Lib.hid (j_no (W * d + n) hf)
        have E2 := Lib.hid (j_no d hf)
        clear hf
        have e0 : V7.cell? ⟨u7.heap.size, 0, none⟩ = some (.bool (nOf (W * d))) := X7.out.c 0 rfl
        have e1 : V7.cell? ⟨u7.heap.size, 1, none⟩ = some (.slice T7 k7 i7) := X7.out.c 1 rfl
        have e2 : V7.cell? ⟨W0.heap.size, 0, none⟩ = some (.bool (nOf (n))) := X4.out.c 0 rfl
        have e3 : V7.cell? ⟨W0.heap.size, 1, none⟩ = some (.slice B nb cb) := X4.out.c 1 rfl
        go_wp2_with fail
        ((with_reducible refine (add_z (W * d) (n) T7 B k7 i7 nb cb _ S7.out S2.out HM.out FN.out).mono ?_); rintro e u8 ⟨T8, k8, i8, rfl, hs, hb⟩)
        rw [HF.out]
        clear e0 e1 e2 e3
        have S1 := Lib.hid (S1.out.below hb)
        have S2 := Lib.hid (S2.out.below hb)
        have S3 := Lib.hid (S3.out.below hb)
        have BW := Lib.hid (below_on BW.out hb)
        have X1 := Lib.hid (X1.out.below hb)
        have X2 := Lib.hid (X2.out.below hb)
        have X3 := Lib.hid (X3.out.below hb)
        have X4 := Lib.hid (X4.out.below hb)
        have S7 := Lib.hid (S7.out.below hb)
        have X7 := Lib.hid (X7.out.below hb)
        clear hb
        have S8 := Lib.hid hs
        clear hs
        have e0 : u8.cell? ⟨u7.heap.size, 0, none⟩ = some (.bool (nOf (W * d))) := X7.out.c 0 rfl
        have e1 : u8.cell? ⟨u7.heap.size, 1, none⟩ = some (.slice T7 k7 i7) := X7.out.c 1 rfl
        have e2 : u8.cell? ⟨W0.heap.size, 0, none⟩ = some (.bool (nOf (n))) := X4.out.c 0 rfl
        have e3 : u8.cell? ⟨W0.heap.size, 1, none⟩ = some (.slice B nb cb) := X4.out.c 1 rfl
        go_upto_region 9 with fail
        clear e0 e1 e2 e3
        have ln8 := X1.out.lt
        have ln9 := X2.out.lt
        have ln10 := X3.out.lt
        have ln11 := X4.out.lt
        have ln12 := X7.out.lt
        have S1 := Lib.hid (S1.out.alloc (.cells #[.bool (nOf (fitZ (W * d + n))), .slice T8 k8 i8] 24))
        have S2 := Lib.hid (S2.out.alloc (.cells #[.bool (nOf (fitZ (W * d + n))), .slice T8 k8 i8] 24))
        have S3 := Lib.hid (S3.out.alloc (.cells #[.bool (nOf (fitZ (W * d + n))), .slice T8 k8 i8] 24))
        have BW := Lib.hid (BW.out.alloc BW.out.size (.cells #[.bool (nOf (fitZ (W * d + n))), .slice T8 k8 i8] 24))
        have X1 := Lib.hid (X1.out.alloc (.cells #[.bool (nOf (fitZ (W * d + n))), .slice T8 k8 i8] 24))
        have X2 := Lib.hid (X2.out.alloc (.cells #[.bool (nOf (fitZ (W * d + n))), .slice T8 k8 i8] 24))
        have X3 := Lib.hid (X3.out.alloc (.cells #[.bool (nOf (fitZ (W * d + n))), .slice T8 k8 i8] 24))
        have X4 := Lib.hid (X4.out.alloc (.cells #[.bool (nOf (fitZ (W * d + n))), .slice T8 k8 i8] 24))
        have S7 := Lib.hid (S7.out.alloc (.cells #[.bool (nOf (fitZ (W * d + n))), .slice T8 k8 i8] 24))
        have X7 := Lib.hid (X7.out.alloc (.cells #[.bool (nOf (fitZ (W * d + n))), .slice T8 k8 i8] 24))
        have S8 := Lib.hid (S8.out.alloc (.cells #[.bool (nOf (fitZ (W * d + n))), .slice T8 k8 i8] 24))
        have X8 := Lib.hid (Bk.new 24 u8 #[.bool (nOf (fitZ (W * d + n))), .slice T8 k8 i8])
        generalize (u8.alloc (.cells #[.bool (nOf (fitZ (W * d + n))), .slice T8 k8 i8] 24)) = V8 at *
        have e0 : V8.cell? ⟨w.heap.size + 1 + 1, 0, none⟩ = some (.bool false) := X3.out.c 0 rfl
        have e1 : V8.cell? ⟨w.heap.size + 1 + 1, 1, none⟩ = some (.slice none 0 0) := X3.out.c 1 rfl
        have e2 : V8.cell? ⟨w.heap.size + 1 + 1, 2, none⟩ = some (.bool false) := X3.out.c 2 rfl
        have e3 : V8.cell? ⟨w.heap.size + 1 + 1, 3, none⟩ = some (.slice none 0 0) := X3.out.c 3 rfl
        have z4 := X3.out.fz 0
        have z5 := X3.out.fz 1
        have z6 := X3.out.fz 2
        have z7 := X3.out.fz 3
        go_wp2_with fail
        refine bodyPost_ret (v := .tuple #[.agg #[.bool false, .slice none 0 0, .bool false, .slice none 0 0], .bool false]) (by simp [results, Tryz.results54, go_sem, *]) rfl ⟨none, 0, 0, none, 0, 0, ?_, ?_, ?_, below_set4 BW.out (by omega) _ _ _ _⟩
        · rw [E1.out, E2.out, HF.out]; rfl
        · rw [E1.out, lOf_zero]; exact Sl.nil _
        · rw [E2.out, lOf_zero]; exact Sl.nil _
    · have HM := Lib.hid hm
      have hf : fitB (W * d + n) = false := by exact sum_fit SG.out hm
      have HF := Lib.hid hf
      have E1 := Lib.hid (j_no (W * d + n) hf)
      have E2 := Lib.hid (j_no d hf)
      clear hf hm
      have e0 : a2.cell? ⟨w.heap.size, 0, none⟩ = some (.bool (nOf (W))) := X1.out.c 0 rfl
      have e1 : a2.cell? ⟨w.heap.size, 1, none⟩ = some (.slice A na ca) := X1.out.c 1 rfl
      have e2 : a2.cell? ⟨w.heap.size + 1, 0, none⟩ = some (.bool (nOf (n))) := X2.out.c 0 rfl
      have e3 : a2.cell? ⟨w.heap.size + 1, 1, none⟩ = some (.slice B nb cb) := X2.out.c 1 rfl
      have e4 : a2.cell? ⟨w.heap.size + 1, 2, none⟩ = some (.bool (nOf (d))) := X2.out.c 2 rfl
      have e5 : a2.cell? ⟨w.heap.size + 1, 3, none⟩ = some (.slice C nc cc) := X2.out.c 3 rfl
      go_wp2_with fail
      ((with_reducible refine (mul_z (W) d A C na ca nc cc _ S1.out S3.out FW.out H3.out).mono ?_); rintro e u7 ⟨T7, k7, i7, rfl, hs, hb⟩)
      rw [HM.out]; rw [fitZ_not HM.out] at hs ⊢
      clear e0 e1 e2 e3 e4 e5
      have S1 := Lib.hid (S1.out.below hb)
      have S2 := Lib.hid (S2.out.below hb)
      have S3 := Lib.hid (S3.out.below hb)
      have BW := Lib.hid (below_on BW.out hb)
      have X1 := Lib.hid (X1.out.below hb)
      have X2 := Lib.hid (X2.out.below hb)
      have X3 := Lib.hid (X3.out.below hb)
      have X4 := Lib.hid (X4.out.below hb)
      clear hb
      have S7 := Lib.hid hs
      clear hs
      have e0 : u7.cell? ⟨w.heap.size, 0, none⟩ = some (.bool (nOf (W))) := X1.out.c 0 rfl
      have e1 : u7.cell? ⟨w.heap.size, 1, none⟩ = some (.slice A na ca) := X1.out.c 1 rfl
      have e2 : u7.cell? ⟨w.heap.size + 1, 0, none⟩ = some (.bool (nOf (n))) := X2.out.c 0 rfl
      have e3 : u7.cell? ⟨w.heap.size + 1, 1, none⟩ = some (.slice B nb cb) := X2.out.c 1 rfl
      have e4 : u7.cell? ⟨w.heap.size + 1, 2, none⟩ = some (.bool (nOf (d))) := X2.out.c 2 rfl
      have e5 : u7.cell? ⟨w.heap.size + 1, 3, none⟩ = some (.slice C nc cc) := X2.out.c 3 rfl
      go_upto_region 8 with fail
      clear e0 e1 e2 e3 e4 e5
      have ln4 := X1.out.lt
      have ln5 := X2.out.lt
      have ln6 := X3.out.lt
      have ln7 := X4.out.lt
      have S1 := Lib.hid (S1.out.alloc (.cells #[.bool (nOf (0)), .slice T7 k7 i7] 24))
      have S2 := Lib.hid (S2.out.alloc (.cells #[.bool (nOf (0)), .slice T7 k7 i7] 24))
      have S3 := Lib.hid (S3.out.alloc (.cells #[.bool (nOf (0)), .slice T7 k7 i7] 24))
      have BW := Lib.hid (BW.out.alloc BW.out.size (.cells #[.bool (nOf (0)), .slice T7 k7 i7] 24))
      have X1 := Lib.hid (X1.out.alloc (.cells #[.bool (nOf (0)), .slice T7 k7 i7] 24))
      have X2 := Lib.hid (X2.out.alloc (.cells #[.bool (nOf (0)), .slice T7 k7 i7] 24))
      have X3 := Lib.hid (X3.out.alloc (.cells #[.bool (nOf (0)), .slice T7 k7 i7] 24))
      have X4 := Lib.hid (X4.out.alloc (.cells #[.bool (nOf (0)), .slice T7 k7 i7] 24))
      have S7 := Lib.hid (S7.out.alloc (.cells #[.bool (nOf (0)), .slice T7 k7 i7] 24))
      have X7 := Lib.hid (Bk.new 24 u7 #[.bool (nOf (0)), .slice T7 k7 i7])
      generalize (u7.alloc (.cells #[.bool (nOf (0)), .slice T7 k7 i7] 24)) = V7 at *
      have e0 : V7.cell? ⟨u7.heap.size, 0, none⟩ = some (.bool (nOf (0))) := X7.out.c 0 rfl
      have e1 : V7.cell? ⟨u7.heap.size, 1, none⟩ = some (.slice T7 k7 i7) := X7.out.c 1 rfl
      have e2 : V7.cell? ⟨W0.heap.size, 0, none⟩ = some (.bool (nOf (n))) := X4.out.c 0 rfl
      have e3 : V7.cell? ⟨W0.heap.size, 1, none⟩ = some (.slice B nb cb) := X4.out.c 1 rfl
      go_wp2_with fail
      ((with_reducible refine (add_z 0 (n) T7 B k7 i7 nb cb _ S7.out S2.out fit_zero FN.out).mono ?_); rintro e u8 ⟨T8, k8, i8, rfl, hs, hb⟩)
      rw [Int.zero_add, FN.out]; rw [Int.zero_add, fitZ_of FN.out] at hs; rw [fitZ_of FN.out]
      clear e0 e1 e2 e3
      have S1 := Lib.hid (S1.out.below hb)
      have S2 := Lib.hid (S2.out.below hb)
      have S3 := Lib.hid (S3.out.below hb)
      have BW := Lib.hid (below_on BW.out hb)
      have X1 := Lib.hid (X1.out.below hb)
      have X2 := Lib.hid (X2.out.below hb)
      have X3 := Lib.hid (X3.out.below hb)
      have X4 := Lib.hid (X4.out.below hb)
      have S7 := Lib.hid (S7.out.below hb)
      have X7 := Lib.hid (X7.out.below hb)
      clear hb
      have S8 := Lib.hid hs
      clear hs
      have e0 : u8.cell? ⟨u7.heap.size, 0, none⟩ = some (.bool (nOf (0))) := X7.out.c 0 rfl
      have e1 : u8.cell? ⟨u7.heap.size, 1, none⟩ = some (.slice T7 k7 i7) := X7.out.c 1 rfl
      have e2 : u8.cell? ⟨W0.heap.size, 0, none⟩ = some (.bool (nOf (n))) := X4.out.c 0 rfl
      have e3 : u8.cell? ⟨W0.heap.size, 1, none⟩ = some (.slice B nb cb) := X4.out.c 1 rfl
      go_upto_region 9 with fail
      clear e0 e1 e2 e3
      have ln8 := X1.out.lt
      have ln9 := X2.out.lt
      have ln10 := X3.out.lt
      have ln11 := X4.out.lt
      have ln12 := X7.out.lt
      have S1 := Lib.hid (S1.out.alloc (.cells #[.bool (nOf (n)), .slice T8 k8 i8] 24))
      have S2 := Lib.hid (S2.out.alloc (.cells #[.bool (nOf (n)), .slice T8 k8 i8] 24))
      have S3 := Lib.hid (S3.out.alloc (.cells #[.bool (nOf (n)), .slice T8 k8 i8] 24))
      have BW := Lib.hid (BW.out.alloc BW.out.size (.cells #[.bool (nOf (n)), .slice T8 k8 i8] 24))
      have X1 := Lib.hid (X1.out.alloc (.cells #[.bool (nOf (n)), .slice T8 k8 i8] 24))
      have X2 := Lib.hid (X2.out.alloc (.cells #[.bool (nOf (n)), .slice T8 k8 i8] 24))
      have X3 := Lib.hid (X3.out.alloc (.cells #[.bool (nOf (n)), .slice T8 k8 i8] 24))
      have X4 := Lib.hid (X4.out.alloc (.cells #[.bool (nOf (n)), .slice T8 k8 i8] 24))
      have S7 := Lib.hid (S7.out.alloc (.cells #[.bool (nOf (n)), .slice T8 k8 i8] 24))
      have X7 := Lib.hid (X7.out.alloc (.cells #[.bool (nOf (n)), .slice T8 k8 i8] 24))
      have S8 := Lib.hid (S8.out.alloc (.cells #[.bool (nOf (n)), .slice T8 k8 i8] 24))
      have X8 := Lib.hid (Bk.new 24 u8 #[.bool (nOf (n)), .slice T8 k8 i8])
      generalize (u8.alloc (.cells #[.bool (nOf (n)), .slice T8 k8 i8] 24)) = V8 at *
      have e0 : V8.cell? ⟨w.heap.size + 1 + 1, 0, none⟩ = some (.bool false) := X3.out.c 0 rfl
      have e1 : V8.cell? ⟨w.heap.size + 1 + 1, 1, none⟩ = some (.slice none 0 0) := X3.out.c 1 rfl
      have e2 : V8.cell? ⟨w.heap.size + 1 + 1, 2, none⟩ = some (.bool false) := X3.out.c 2 rfl
      have e3 : V8.cell? ⟨w.heap.size + 1 + 1, 3, none⟩ = some (.slice none 0 0) := X3.out.c 3 rfl
      have z4 := X3.out.fz 0
      have z5 := X3.out.fz 1
      have z6 := X3.out.fz 2
      have z7 := X3.out.fz 3
      go_wp2_with fail
      refine bodyPost_ret (v := .tuple #[.agg #[.bool false, .slice none 0 0, .bool false, .slice none 0 0], .bool false]) (by simp [results, Tryz.results54, go_sem, *]) rfl ⟨none, 0, 0, none, 0, 0, ?_, ?_, ?_, below_set4 BW.out (by omega) _ _ _ _⟩
      · rw [E1.out, E2.out, HF.out]; rfl
      · rw [E1.out, lOf_zero]; exact Sl.nil _
      · rw [E2.out, lOf_zero]; exact Sl.nil _
end Go.Proofs.YtfenmogbellhdaaGreatDoor
