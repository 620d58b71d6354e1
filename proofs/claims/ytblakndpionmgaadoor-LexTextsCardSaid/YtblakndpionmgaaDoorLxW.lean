/-
  Contracts of the functions on bytes and runes.
-/
import Derived.Test.YtblakndpionmgaaDoorNmA
import Derived.Test.YtblakndpionmgaaDoorLxMath
namespace Go.Proofs.YtblakndpionmgaaDoor
open Go.RowKit

def smN (n : Nat) : Bool := decide (97 ≤ n) && decide (n ≤ 122)
def cpN (n : Nat) : Bool := decide (65 ≤ n) && decide (n ≤ 90)
def dgN (n : Nat) : Bool := decide (48 ≤ n) && decide (n ≤ 57)
def idN (n : Nat) : Bool := smN n || cpN n || dgN n || decide (n = 95)
theorem sm_n (c : UInt8) : smN c.toNat = smB c := rfl
theorem cp_n (c : UInt8) : cpN c.toNat = cpB c := rfl
theorem dg_n (c : UInt8) : dgN c.toNat = dgB c := rfl
theorem id_n (c : UInt8) : idN c.toNat = idB c := by
  unfold idN idB
  rw [sm_n, cp_n, dg_n]
  have h95 : (c == (95 : UInt8)) = decide (c.toNat = 95) := by
    rw [Bool.eq_iff_iff, beq_iff_eq, decide_eq_true_iff, ← UInt8.toNat_inj]; rfl
  rw [h95]
theorem high_n {n : Nat} (h : 128 ≤ n) : smN n = false ∧ cpN n = false ∧ dgN n = false ∧ idN n = false := by
  unfold idN smN cpN dgN
  refine ⟨?_, ?_, ?_, ?_⟩ <;> simp <;> omega
theorem lsm_any (n : Nat) (w : World) : Calls Tryd.prog 69 #[.int .i32 (n : Int)] w fun e w' => e = .returned (.bool (smN n)) ∧ w = w' := by
  by_cases h1 : 97 ≤ n
  · by_cases h2 : n ≤ 122
    · have HB : Hid (smN n = true) := by show smN n = true; unfold smN; rw [decide_eq_true h1, decide_eq_true h2]; rfl
      have p1 : (97 : Int) ≤ (n : Int) := by omega
      have p2 : (n : Int) ≤ 122 := by omega
      clear h1 h2
      go_enter Tryd.func69, Tryd.ntmps69
      go_wp2_with fail
      go_ret
      exact ⟨nret_bool HB.out.symm, rfl⟩
    · have HB : Hid (smN n = false) := by show smN n = false; unfold smN; rw [decide_eq_true h1, decide_eq_false h2]; rfl
      have p1 : (97 : Int) ≤ (n : Int) := by omega
      have p2 : ¬ (n : Int) ≤ 122 := by omega
      clear h1 h2
      go_enter Tryd.func69, Tryd.ntmps69
      go_wp2_with fail
      go_ret
      exact ⟨nret_bool HB.out.symm, rfl⟩
  · have HB : Hid (smN n = false) := by show smN n = false; unfold smN; rw [decide_eq_false h1]; rfl
    have p1 : ¬ (97 : Int) ≤ (n : Int) := by omega
    clear h1
    go_enter Tryd.func69, Tryd.ntmps69
    go_wp2_with fail
    go_ret
    exact ⟨nret_bool HB.out.symm, rfl⟩
theorem lcp_any (n : Nat) (w : World) : Calls Tryd.prog 72 #[.int .i32 (n : Int)] w fun e w' => e = .returned (.bool (cpN n)) ∧ w = w' := by
  by_cases h1 : 65 ≤ n
  · by_cases h2 : n ≤ 90
    · have HB : Hid (cpN n = true) := by show cpN n = true; unfold cpN; rw [decide_eq_true h1, decide_eq_true h2]; rfl
      have p1 : (65 : Int) ≤ (n : Int) := by omega
      have p2 : (n : Int) ≤ 90 := by omega
      clear h1 h2
      go_enter Tryd.func72, Tryd.ntmps72
      go_wp2_with fail
      go_ret
      exact ⟨nret_bool HB.out.symm, rfl⟩
    · have HB : Hid (cpN n = false) := by show cpN n = false; unfold cpN; rw [decide_eq_true h1, decide_eq_false h2]; rfl
      have p1 : (65 : Int) ≤ (n : Int) := by omega
      have p2 : ¬ (n : Int) ≤ 90 := by omega
      clear h1 h2
      go_enter Tryd.func72, Tryd.ntmps72
      go_wp2_with fail
      go_ret
      exact ⟨nret_bool HB.out.symm, rfl⟩
  · have HB : Hid (cpN n = false) := by show cpN n = false; unfold cpN; rw [decide_eq_false h1]; rfl
    have p1 : ¬ (65 : Int) ≤ (n : Int) := by omega
    clear h1
    go_enter Tryd.func72, Tryd.ntmps72
    go_wp2_with fail
    go_ret
    exact ⟨nret_bool HB.out.symm, rfl⟩
theorem ldg_any (n : Nat) (w : World) : Calls Tryd.prog 73 #[.int .i32 (n : Int)] w fun e w' => e = .returned (.bool (dgN n)) ∧ w = w' := by
  by_cases h1 : 48 ≤ n
  · by_cases h2 : n ≤ 57
    · have HB : Hid (dgN n = true) := by show dgN n = true; unfold dgN; rw [decide_eq_true h1, decide_eq_true h2]; rfl
      have p1 : (48 : Int) ≤ (n : Int) := by omega
      have p2 : (n : Int) ≤ 57 := by omega
      clear h1 h2
      go_enter Tryd.func73, Tryd.ntmps73
      go_wp2_with fail
      go_ret
      exact ⟨nret_bool HB.out.symm, rfl⟩
    · have HB : Hid (dgN n = false) := by show dgN n = false; unfold dgN; rw [decide_eq_true h1, decide_eq_false h2]; rfl
      have p1 : (48 : Int) ≤ (n : Int) := by omega
      have p2 : ¬ (n : Int) ≤ 57 := by omega
      clear h1 h2
      go_enter Tryd.func73, Tryd.ntmps73
      go_wp2_with fail
      go_ret
      exact ⟨nret_bool HB.out.symm, rfl⟩
  · have HB : Hid (dgN n = false) := by show dgN n = false; unfold dgN; rw [decide_eq_false h1]; rfl
    have p1 : ¬ (48 : Int) ≤ (n : Int) := by omega
    clear h1
    go_enter Tryd.func73, Tryd.ntmps73
    go_wp2_with fail
    go_ret
    exact ⟨nret_bool HB.out.symm, rfl⟩
theorem xsm_any (c : UInt8) (w : World) : Calls Tryd.prog 76 #[.int .u8 (c.toNat : Int)] w fun e w' => e = .returned (.bool (smB c)) ∧ w = w' := by
  by_cases h1 : 97 ≤ c.toNat
  · by_cases h2 : c.toNat ≤ 122
    · have HB : Hid (smB c = true) := by show smB c = true; unfold smB; rw [decide_eq_true h1, decide_eq_true h2]; rfl
      have p1 : (97 : Int) ≤ (c.toNat : Int) := by omega
      have p2 : (c.toNat : Int) ≤ 122 := by omega
      clear h1 h2
      go_enter Tryd.func76, Tryd.ntmps76
      go_wp2_with fail
      go_ret
      exact ⟨nret_bool HB.out.symm, rfl⟩
    · have HB : Hid (smB c = false) := by show smB c = false; unfold smB; rw [decide_eq_true h1, decide_eq_false h2]; rfl
      have p1 : (97 : Int) ≤ (c.toNat : Int) := by omega
      have p2 : ¬ (c.toNat : Int) ≤ 122 := by omega
      clear h1 h2
      go_enter Tryd.func76, Tryd.ntmps76
      go_wp2_with fail
      go_ret
      exact ⟨nret_bool HB.out.symm, rfl⟩
  · have HB : Hid (smB c = false) := by show smB c = false; unfold smB; rw [decide_eq_false h1]; rfl
    have p1 : ¬ (97 : Int) ≤ (c.toNat : Int) := by omega
    clear h1
    go_enter Tryd.func76, Tryd.ntmps76
    go_wp2_with fail
    go_ret
    exact ⟨nret_bool HB.out.symm, rfl⟩
theorem xcp_any (c : UInt8) (w : World) : Calls Tryd.prog 77 #[.int .u8 (c.toNat : Int)] w fun e w' => e = .returned (.bool (cpB c)) ∧ w = w' := by
  by_cases h1 : 65 ≤ c.toNat
  · by_cases h2 : c.toNat ≤ 90
    · have HB : Hid (cpB c = true) := by show cpB c = true; unfold cpB; rw [decide_eq_true h1, decide_eq_true h2]; rfl
      have p1 : (65 : Int) ≤ (c.toNat : Int) := by omega
      have p2 : (c.toNat : Int) ≤ 90 := by omega
      clear h1 h2
      go_enter Tryd.func77, Tryd.ntmps77
      go_wp2_with fail
      go_ret
      exact ⟨nret_bool HB.out.symm, rfl⟩
    · have HB : Hid (cpB c = false) := by show cpB c = false; unfold cpB; rw [decide_eq_true h1, decide_eq_false h2]; rfl
      have p1 : (65 : Int) ≤ (c.toNat : Int) := by omega
      have p2 : ¬ (c.toNat : Int) ≤ 90 := by omega
      clear h1 h2
      go_enter Tryd.func77, Tryd.ntmps77
      go_wp2_with fail
      go_ret
      exact ⟨nret_bool HB.out.symm, rfl⟩
  · have HB : Hid (cpB c = false) := by show cpB c = false; unfold cpB; rw [decide_eq_false h1]; rfl
    have p1 : ¬ (65 : Int) ≤ (c.toNat : Int) := by omega
    clear h1
    go_enter Tryd.func77, Tryd.ntmps77
    go_wp2_with fail
    go_ret
    exact ⟨nret_bool HB.out.symm, rfl⟩
theorem xdg_any (c : UInt8) (w : World) : Calls Tryd.prog 79 #[.int .u8 (c.toNat : Int)] w fun e w' => e = .returned (.bool (dgB c)) ∧ w = w' := by
  by_cases h1 : 48 ≤ c.toNat
  · by_cases h2 : c.toNat ≤ 57
    · have HB : Hid (dgB c = true) := by show dgB c = true; unfold dgB; rw [decide_eq_true h1, decide_eq_true h2]; rfl
      have p1 : (48 : Int) ≤ (c.toNat : Int) := by omega
      have p2 : (c.toNat : Int) ≤ 57 := by omega
      clear h1 h2
      go_enter Tryd.func79, Tryd.ntmps79
      go_wp2_with fail
      go_ret
      exact ⟨nret_bool HB.out.symm, rfl⟩
    · have HB : Hid (dgB c = false) := by show dgB c = false; unfold dgB; rw [decide_eq_true h1, decide_eq_false h2]; rfl
      have p1 : (48 : Int) ≤ (c.toNat : Int) := by omega
      have p2 : ¬ (c.toNat : Int) ≤ 57 := by omega
      clear h1 h2
      go_enter Tryd.func79, Tryd.ntmps79
      go_wp2_with fail
      go_ret
      exact ⟨nret_bool HB.out.symm, rfl⟩
  · have HB : Hid (dgB c = false) := by show dgB c = false; unfold dgB; rw [decide_eq_false h1]; rfl
    have p1 : ¬ (48 : Int) ≤ (c.toNat : Int) := by omega
    clear h1
    go_enter Tryd.func79, Tryd.ntmps79
    go_wp2_with fail
    go_ret
    exact ⟨nret_bool HB.out.symm, rfl⟩
theorem lid_any (n : Nat) (w : World) : Calls Tryd.prog 71 #[.int .i32 (n : Int)] w fun e w' => e = .returned (.bool (idN n)) ∧ w = w' := by
  cases h0 : smN n with
  | true =>
    have HB : Hid (idN n = true) := by show idN n = true; unfold idN; rw [h0]; simp
    have H0 := Lib.hid h0
    clear h0
    go_enter Tryd.func71, Tryd.ntmps71
    go_wp2_with fail
    ((with_reducible refine (lsm_any n _).mono ?_); rintro e wx ⟨rfl, rfl⟩)
    rw [H0.out]
    go_wp2_with fail
    go_ret
    exact ⟨nret_bool HB.out.symm, rfl⟩
  | false =>
    cases h1 : cpN n with
    | true =>
      have HB : Hid (idN n = true) := by show idN n = true; unfold idN; rw [h0, h1]; simp
      have H0 := Lib.hid h0
      have H1 := Lib.hid h1
      clear h0 h1
      go_enter Tryd.func71, Tryd.ntmps71
      go_wp2_with fail
      ((with_reducible refine (lsm_any n _).mono ?_); rintro e wx ⟨rfl, rfl⟩)
      rw [H0.out]
      go_wp2_with fail
      ((with_reducible refine (lcp_any n _).mono ?_); rintro e wx ⟨rfl, rfl⟩)
      rw [H1.out]
      go_wp2_with fail
      go_ret
      exact ⟨nret_bool HB.out.symm, rfl⟩
    | false =>
      cases h2 : dgN n with
      | true =>
        have HB : Hid (idN n = true) := by show idN n = true; unfold idN; rw [h0, h1, h2]; simp
        have H0 := Lib.hid h0
        have H1 := Lib.hid h1
        have H2 := Lib.hid h2
        clear h0 h1 h2
        go_enter Tryd.func71, Tryd.ntmps71
        go_wp2_with fail
        ((with_reducible refine (lsm_any n _).mono ?_); rintro e wx ⟨rfl, rfl⟩)
        rw [H0.out]
        go_wp2_with fail
        ((with_reducible refine (lcp_any n _).mono ?_); rintro e wx ⟨rfl, rfl⟩)
        rw [H1.out]
        go_wp2_with fail
        ((with_reducible refine (ldg_any n _).mono ?_); rintro e wx ⟨rfl, rfl⟩)
        rw [H2.out]
        go_wp2_with fail
        go_ret
        exact ⟨nret_bool HB.out.symm, rfl⟩
      | false =>
        by_cases h3 : n = 95
        · have q95 : ((n : Int) == 95) = true := by rw [h3]; rfl
          have HB : Hid (idN n = true) := by show idN n = true; unfold idN; rw [h0, h1, h2, decide_eq_true h3]; rfl
          have H0 := Lib.hid h0
          have H1 := Lib.hid h1
          have H2 := Lib.hid h2
          clear h0 h1 h2 h3
          go_enter Tryd.func71, Tryd.ntmps71
          go_wp2_with fail
          ((with_reducible refine (lsm_any n _).mono ?_); rintro e wx ⟨rfl, rfl⟩)
          rw [H0.out]
          go_wp2_with fail
          ((with_reducible refine (lcp_any n _).mono ?_); rintro e wx ⟨rfl, rfl⟩)
          rw [H1.out]
          go_wp2_with fail
          ((with_reducible refine (ldg_any n _).mono ?_); rintro e wx ⟨rfl, rfl⟩)
          rw [H2.out]
          go_wp2_with fail
          go_ret
          exact ⟨nret_bool HB.out.symm, rfl⟩
        · have q95 : ((n : Int) == 95) = false := by rw [beq_eq_false_iff_ne]; omega
          have HB : Hid (idN n = false) := by show idN n = false; unfold idN; rw [h0, h1, h2, decide_eq_false h3]; rfl
          have H0 := Lib.hid h0
          have H1 := Lib.hid h1
          have H2 := Lib.hid h2
          clear h0 h1 h2 h3
          go_enter Tryd.func71, Tryd.ntmps71
          go_wp2_with fail
          ((with_reducible refine (lsm_any n _).mono ?_); rintro e wx ⟨rfl, rfl⟩)
          rw [H0.out]
          go_wp2_with fail
          ((with_reducible refine (lcp_any n _).mono ?_); rintro e wx ⟨rfl, rfl⟩)
          rw [H1.out]
          go_wp2_with fail
          ((with_reducible refine (ldg_any n _).mono ?_); rintro e wx ⟨rfl, rfl⟩)
          rw [H2.out]
          go_wp2_with fail
          go_ret
          exact ⟨nret_bool HB.out.symm, rfl⟩
theorem xid_any (c : UInt8) (w : World) : Calls Tryd.prog 78 #[.int .u8 (c.toNat : Int)] w fun e w' => e = .returned (.bool (idB c)) ∧ w = w' := by
  cases h0 : smB c with
  | true =>
    have HB : Hid (idB c = true) := by show idB c = true; unfold idB; rw [h0]; simp
    have H0 := Lib.hid h0
    clear h0
    go_enter Tryd.func78, Tryd.ntmps78
    go_wp2_with fail
    ((with_reducible refine (xsm_any c _).mono ?_); rintro e wx ⟨rfl, rfl⟩)
    rw [H0.out]
    go_wp2_with fail
    go_ret
    exact ⟨nret_bool HB.out.symm, rfl⟩
  | false =>
    cases h1 : cpB c with
    | true =>
      have HB : Hid (idB c = true) := by show idB c = true; unfold idB; rw [h0, h1]; simp
      have H0 := Lib.hid h0
      have H1 := Lib.hid h1
      clear h0 h1
      go_enter Tryd.func78, Tryd.ntmps78
      go_wp2_with fail
      ((with_reducible refine (xsm_any c _).mono ?_); rintro e wx ⟨rfl, rfl⟩)
      rw [H0.out]
      go_wp2_with fail
      ((with_reducible refine (xcp_any c _).mono ?_); rintro e wx ⟨rfl, rfl⟩)
      rw [H1.out]
      go_wp2_with fail
      go_ret
      exact ⟨nret_bool HB.out.symm, rfl⟩
    | false =>
      cases h2 : dgB c with
      | true =>
        have HB : Hid (idB c = true) := by show idB c = true; unfold idB; rw [h0, h1, h2]; simp
        have H0 := Lib.hid h0
        have H1 := Lib.hid h1
        have H2 := Lib.hid h2
        clear h0 h1 h2
        go_enter Tryd.func78, Tryd.ntmps78
        go_wp2_with fail
        ((with_reducible refine (xsm_any c _).mono ?_); rintro e wx ⟨rfl, rfl⟩)
        rw [H0.out]
        go_wp2_with fail
        ((with_reducible refine (xcp_any c _).mono ?_); rintro e wx ⟨rfl, rfl⟩)
        rw [H1.out]
        go_wp2_with fail
        ((with_reducible refine (xdg_any c _).mono ?_); rintro e wx ⟨rfl, rfl⟩)
        rw [H2.out]
        go_wp2_with fail
        go_ret
        exact ⟨nret_bool HB.out.symm, rfl⟩
      | false =>
        cases h3 : (c == (95 : UInt8)) with
        | true =>
          have q95 : ((c.toNat : Int) == 95) = true := beq_u8 (n := 95) (by omega) h3
          have HB : Hid (idB c = true) := by show idB c = true; unfold idB; rw [h0, h1, h2, h3]; rfl
          have H0 := Lib.hid h0
          have H1 := Lib.hid h1
          have H2 := Lib.hid h2
          clear h0 h1 h2 h3
          go_enter Tryd.func78, Tryd.ntmps78
          go_wp2_with fail
          ((with_reducible refine (xsm_any c _).mono ?_); rintro e wx ⟨rfl, rfl⟩)
          rw [H0.out]
          go_wp2_with fail
          ((with_reducible refine (xcp_any c _).mono ?_); rintro e wx ⟨rfl, rfl⟩)
          rw [H1.out]
          go_wp2_with fail
          ((with_reducible refine (xdg_any c _).mono ?_); rintro e wx ⟨rfl, rfl⟩)
          rw [H2.out]
          go_wp2_with fail
          go_ret
          exact ⟨nret_bool HB.out.symm, rfl⟩
        | false =>
          have q95 : ((c.toNat : Int) == 95) = false := beq_u8 (n := 95) (by omega) h3
          have HB : Hid (idB c = false) := by show idB c = false; unfold idB; rw [h0, h1, h2, h3]; rfl
          have H0 := Lib.hid h0
          have H1 := Lib.hid h1
          have H2 := Lib.hid h2
          clear h0 h1 h2 h3
          go_enter Tryd.func78, Tryd.ntmps78
          go_wp2_with fail
          ((with_reducible refine (xsm_any c _).mono ?_); rintro e wx ⟨rfl, rfl⟩)
          rw [H0.out]
          go_wp2_with fail
          ((with_reducible refine (xcp_any c _).mono ?_); rintro e wx ⟨rfl, rfl⟩)
          rw [H1.out]
          go_wp2_with fail
          ((with_reducible refine (xdg_any c _).mono ?_); rintro e wx ⟨rfl, rfl⟩)
          rw [H2.out]
          go_wp2_with fail
          go_ret
          exact ⟨nret_bool HB.out.symm, rfl⟩
end Go.Proofs.YtblakndpionmgaaDoor
