/-
  Contracts of the law's few and light (two fractions).
-/
import Derived.Test.YtfenmogbellhdaaGreatDoorRatW
namespace Go.Proofs.YtfenmogbellhdaaGreatDoor
open Go.RowKit

/-- Numbers with at most 210 digits. -/
def fewB (n m : Nat) : Bool := decide (n ≤ 210) && decide (m ≤ 210)
theorem few_yes {n m : Nat} (h1 : n ≤ 210) (h2 : m ≤ 210) : fewB n m = true := by unfold fewB; simp [h1, h2]
theorem few_no1 {n m : Nat} (h1 : ¬ n ≤ 210) : fewB n m = false := by unfold fewB; simp [h1]
theorem few_no2 {n m : Nat} (h1 : ¬ m ≤ 210) : fewB n m = false := by unfold fewB; simp [h1]
theorem few_any (g : Nat) (s1 s2 : Bool) (A1 A2 : Option Addr) (n1 c1 n2 c2 : Nat) (w : World) (hg : Bk 24 w g #[.bool s1, .slice A1 n1 c1, .bool s2, .slice A2 n2 c2]) :
    Calls Tryz.prog 21 #[.slice (some ⟨g, 0, none⟩) 2 2] w fun e w' => e = .returned (.bool (fewB n1 n2)) ∧ w = w' := by
  have e0 := hg.c 1 (v := .slice A1 n1 c1) rfl
  have e1 := hg.c 3 (v := .slice A2 n2 c2) rfl
  clear hg
  go_enter Tryz.func21, Tryz.ntmps21
  go_wp2_with fail
  go_loop [3] (fun i => i = .int .i64 0 ∨ i = .int .i64 1 ∧ n1 ≤ 210 ∨ i = .int .i64 2 ∧ n1 ≤ 210 ∧ n2 ≤ 210) (fun i => (2 - intOf i).toNat)
  case atStart => exact .inl rfl
  case round =>
    rcases hrel with rfl | ⟨rfl, h1⟩ | ⟨rfl, h1, h2⟩
    · by_cases h : n1 ≤ 210
      · have b : ¬ (210 : Int) < (n1 : Int) := by omega
        go_wp2_with fail
        go_round
        case rel => exact .inr (.inl ⟨rfl, h⟩)
        case measure => simp [intOf]
      · have b : (210 : Int) < (n1 : Int) := by omega
        have HF := Lib.hid (few_no1 (m := n2) h)
        clear h
        go_wp2_with fail
        go_ret
        exact ⟨ret_bool HF.out.symm, rfl⟩
    · by_cases h : n2 ≤ 210
      · have b : ¬ (210 : Int) < (n2 : Int) := by omega
        go_wp2_with fail
        go_round
        case rel => exact .inr (.inr ⟨rfl, h1, h⟩)
        case measure => simp [intOf]
      · have b : (210 : Int) < (n2 : Int) := by omega
        have HF := Lib.hid (few_no2 (n := n1) h)
        clear h
        go_wp2_with fail
        go_ret
        exact ⟨ret_bool HF.out.symm, rfl⟩
    · have HF := Lib.hid (few_yes h1 h2)
      clear h1 h2
      go_wp2_with fail
      go_ret
      exact ⟨ret_bool HF.out.symm, rfl⟩

set_option maxHeartbeats 2000000 in
theorem light2_any (g : Nat) (s1 t1 : Bool) (A1 B1 : Option Addr) (n1 c1 m1 d1 : Nat) (s2 t2 : Bool) (A2 B2 : Option Addr) (n2 c2 m2 d2 : Nat) (w : World) (hg : Bk 26 w g #[.bool s1, .slice A1 n1 c1, .bool t1, .slice B1 m1 d1, .bool s2, .slice A2 n2 c2, .bool t2, .slice B2 m2 d2]) :
    Calls Tryz.prog 5 #[.slice (some ⟨g, 0, none⟩) 2 2] w fun e w' => e = .returned (.bool (fewB n1 m1 && fewB n2 m2)) ∧ Below w.heap.size w w' := by
  have X := Lib.hid hg
  clear hg
  go_enter Tryz.func5, Tryz.ntmps5
  go_wp2_with fail
  go_loopw [3] (fun i wr => Below w.heap.size w wr ∧ ((i = .int .i64 0) ∨ (i = .int .i64 1 ∧ fewB n1 m1 = true) ∨ (i = .int .i64 2 ∧ fewB n1 m1 = true ∧ fewB n2 m2 = true))) (fun i _ => (2 - intOf i).toNat)
  case atStart => exact ⟨Below.refl _ _, .inl rfl⟩
  case round =>
    obtain ⟨hb0, hrel⟩ := hrel
    have BW := Lib.hid hb0
    have X := Lib.hid (X.out.below hb0)
    clear hb0
    rcases hrel with rfl | ⟨rfl, h1⟩ | ⟨rfl, h1, h2⟩
    · skip
      have HX : Hid (∃ b, fewB n1 m1 = b) := ⟨_, rfl⟩
      obtain ⟨b, hb'⟩ := HX.out
      have HF := Lib.hid hb'
      clear hb' HX
      go_upto_region 4 with fail
      have e0 : wr.cell? ⟨g, 0, none⟩ = some (.bool s1) := X.out.c 0 rfl
      have e1 : wr.cell? ⟨g, 1, none⟩ = some (.slice A1 n1 c1) := X.out.c 1 rfl
      have e2 : wr.cell? ⟨g, 2, none⟩ = some (.bool t1) := X.out.c 2 rfl
      have e3 : wr.cell? ⟨g, 3, none⟩ = some (.slice B1 m1 d1) := X.out.c 3 rfl
      have e4 : wr.cell? ⟨g, 4, none⟩ = some (.bool s2) := X.out.c 4 rfl
      have e5 : wr.cell? ⟨g, 5, none⟩ = some (.slice A2 n2 c2) := X.out.c 5 rfl
      have e6 : wr.cell? ⟨g, 6, none⟩ = some (.bool t2) := X.out.c 6 rfl
      have e7 : wr.cell? ⟨g, 7, none⟩ = some (.slice B2 m2 d2) := X.out.c 7 rfl
      have lt := X.out.lt
      have i1 : ¬ wr.heap.size = g := by omega
      have i2 : ¬ g = wr.heap.size := by omega
      go_region_held3 (fun w' => w'.cell? ⟨g, 0, none⟩ = some (.bool s1) ∧ w'.cell? ⟨g, 1, none⟩ = some (.slice A1 n1 c1) ∧ w'.cell? ⟨g, 2, none⟩ = some (.bool t1) ∧ w'.cell? ⟨g, 3, none⟩ = some (.slice B1 m1 d1) ∧ w'.cell? ⟨g, 4, none⟩ = some (.bool s2) ∧ w'.cell? ⟨g, 5, none⟩ = some (.slice A2 n2 c2) ∧ w'.cell? ⟨g, 6, none⟩ = some (.bool t2) ∧ w'.cell? ⟨g, 7, none⟩ = some (.slice B2 m2 d2)) (go_keep)
        (first | (go_at_call 21; (with_reducible refine (few_any wr.heap.size s1 t1 A1 B1 n1 c1 m1 d1 _ (by first | exact Bk.new _ _ _ | exact (Bk.new _ _ _).drew)).mono ?_); rintro e a1 ⟨rfl, rfl⟩; rw [HF.out]))
      clear e0 e1 e2 e3 e4 e5 e6 e7
      cases b with
      | true =>
        all_goals
          go_wp2_with fail
          go_roundw
          case rel => exact ⟨by first | exact BW.out.alloc BW.out.size _ | exact (BW.out.alloc BW.out.size _).drew | exact BW.out.drew.alloc BW.out.drew.size _, .inr (.inl ⟨rfl, HF.out⟩)⟩
          case measure => simp [intOf]
      | false =>
        all_goals
          go_wp2_with fail
          go_ret
          exact ⟨ret_bool (by rw [HF.out]; simp), by first | exact BW.out.alloc BW.out.size _ | exact (BW.out.alloc BW.out.size _).drew | exact BW.out.drew.alloc BW.out.drew.size _⟩
    · have H1 := Lib.hid h1
      clear h1
      have HX : Hid (∃ b, fewB n2 m2 = b) := ⟨_, rfl⟩
      obtain ⟨b, hb'⟩ := HX.out
      have HF := Lib.hid hb'
      clear hb' HX
      go_upto_region 4 with fail
      have e0 : wr.cell? ⟨g, 0, none⟩ = some (.bool s1) := X.out.c 0 rfl
      have e1 : wr.cell? ⟨g, 1, none⟩ = some (.slice A1 n1 c1) := X.out.c 1 rfl
      have e2 : wr.cell? ⟨g, 2, none⟩ = some (.bool t1) := X.out.c 2 rfl
      have e3 : wr.cell? ⟨g, 3, none⟩ = some (.slice B1 m1 d1) := X.out.c 3 rfl
      have e4 : wr.cell? ⟨g, 4, none⟩ = some (.bool s2) := X.out.c 4 rfl
      have e5 : wr.cell? ⟨g, 5, none⟩ = some (.slice A2 n2 c2) := X.out.c 5 rfl
      have e6 : wr.cell? ⟨g, 6, none⟩ = some (.bool t2) := X.out.c 6 rfl
      have e7 : wr.cell? ⟨g, 7, none⟩ = some (.slice B2 m2 d2) := X.out.c 7 rfl
      have lt := X.out.lt
      have i1 : ¬ wr.heap.size = g := by omega
      have i2 : ¬ g = wr.heap.size := by omega
      go_region_held3 (fun w' => w'.cell? ⟨g, 0, none⟩ = some (.bool s1) ∧ w'.cell? ⟨g, 1, none⟩ = some (.slice A1 n1 c1) ∧ w'.cell? ⟨g, 2, none⟩ = some (.bool t1) ∧ w'.cell? ⟨g, 3, none⟩ = some (.slice B1 m1 d1) ∧ w'.cell? ⟨g, 4, none⟩ = some (.bool s2) ∧ w'.cell? ⟨g, 5, none⟩ = some (.slice A2 n2 c2) ∧ w'.cell? ⟨g, 6, none⟩ = some (.bool t2) ∧ w'.cell? ⟨g, 7, none⟩ = some (.slice B2 m2 d2)) (go_keep)
        (first | (go_at_call 21; (with_reducible refine (few_any wr.heap.size s2 t2 A2 B2 n2 c2 m2 d2 _ (by first | exact Bk.new _ _ _ | exact (Bk.new _ _ _).drew)).mono ?_); rintro e a1 ⟨rfl, rfl⟩; rw [HF.out]))
      clear e0 e1 e2 e3 e4 e5 e6 e7
      cases b with
      | true =>
        all_goals
          go_wp2_with fail
          go_roundw
          case rel => exact ⟨by first | exact BW.out.alloc BW.out.size _ | exact (BW.out.alloc BW.out.size _).drew | exact BW.out.drew.alloc BW.out.drew.size _, .inr (.inr (⟨rfl, H1.out, HF.out⟩))⟩
          case measure => simp [intOf]
      | false =>
        all_goals
          go_wp2_with fail
          go_ret
          exact ⟨ret_bool (by rw [H1.out, HF.out]; simp), by first | exact BW.out.alloc BW.out.size _ | exact (BW.out.alloc BW.out.size _).drew | exact BW.out.drew.alloc BW.out.drew.size _⟩
    · have H1 := Lib.hid h1
      clear h1
      have H2 := Lib.hid h2
      clear h2
      go_wp2_with fail
      go_ret
      exact ⟨ret_bool (by rw [H1.out, H2.out]; rfl), BW.out⟩
end Go.Proofs.YtfenmogbellhdaaGreatDoor
