/-
  Contracts of Div and Mod (of the program and of the reference): for every two ints, in every world, with the same answers.
-/
import Derived.Test.YthbendnhpjfenaaDoorNumA
namespace Go.Proofs.YthbendnhpjfenaaDoor
open Go.RowKit

theorem div_eq {a b : Int} (h : divB a b = true) : quo a b = divV a b ∧ true = divB a b := by simp [divV, h]
theorem div_no {a b : Int} (h : divB a b = false) : 0 = divV a b ∧ false = divB a b := by simp [divV, h]
theorem mod_eq {a b : Int} (h : divB a b = true) : rest a b = modV a b ∧ true = divB a b := by simp [modV, h]
theorem mod_no {a b : Int} (h : divB a b = false) : 0 = modV a b ∧ false = divB a b := by simp [modV, h]
theorem quo_ru {a b : Int} (h : ruB a b = true) : a.tdiv b - 1 = quo a b := by simp [quo, h]
theorem quo_nr {a b : Int} (h : ruB a b = false) : a.tdiv b = quo a b := by simp [quo, h]
theorem rest_ru {a b : Int} (h : ruB a b = true) : a.tmod b + b = rest a b := by simp [rest, h]
theorem rest_nr {a b : Int} (h : ruB a b = false) : a.tmod b = rest a b := by simp [rest, h]
theorem divB_parts {a b : Int} (h : divB a b = true) : inB a = true ∧ inB b = true ∧ (b != 0) = true := by simpa [divB, and_assoc] using h
theorem divB_no {a b : Int} (h : divB a b = false) : inB a = false ∨ inB a = true ∧ inB b = false ∨ inB a = true ∧ inB b = true ∧ b = 0 := by
  unfold divB at h
  cases ha : inB a <;> cases hb : inB b <;> simp_all

theorem divides_any (a b : Int) (w : World) : Calls Tryd.prog 31 #[.int .i64 a, .int .i64 b] w fun e w' => e = .returned (.bool (divB a b)) ∧ w = w' := by
  have H : Hid (divB a b = (inB a && inB b && b != 0)) := rfl
  cases ha : inB a <;> cases hb : inB b <;> cases hz : (b != 0) <;>
  · rw [ha, hb, hz] at H
    go_enter Tryd.func31, Tryd.ntmps31
    go_wp2_with (go_at_call 15; refine (in_any _ _).mono ?_; rintro e w' ⟨rfl, rfl⟩)
    go_ret
    exact ⟨ret_bool H.out.symm, rfl⟩

theorem ru_any (a b : Int) (w : World) (hz : ¬ b = 0) : Calls Tryd.prog 32 #[.int .i64 a, .int .i64 b] w fun e w' => e = .returned (.bool (ruB a b)) ∧ w = w' := by
  have H : Hid (ruB a b = (a.tmod b != 0 && (decide (a < 0) != decide (b < 0)))) := rfl
  cases hm : (a.tmod b != 0) <;> cases ha : decide (a < 0) <;> cases hb : decide (b < 0) <;>
  · rw [hm, ha, hb] at H
    go_enter Tryd.func32, Tryd.ntmps32
    go_wp2_with fail
    go_ret
    exact ⟨ret_bool H.out.symm, rfl⟩

theorem tdiv_bd {a b : Int} (ha : inB a = true) : -1000000000000 ≤ a.tdiv b ∧ a.tdiv b ≤ 1000000000000 := by
  have := of_inB ha
  have := @tdiv_le a b
  omega
theorem tmod_bd {a b : Int} (ha : inB a = true) : -1000000000000 ≤ a.tmod b ∧ a.tmod b ≤ 1000000000000 := by
  have := of_inB ha
  have h : (a.tmod b).natAbs ≤ a.natAbs := by rw [Int.natAbs_tmod]; exact Nat.mod_le _ _
  omega

theorem div_any (a b : Int) (w : World) : Calls Tryd.prog 18 #[.int .i64 a, .int .i64 b] w fun e w' => e = .returned (.tuple #[.int .i64 (divV a b), .bool (divB a b)]) ∧ w = w' := by
  cases hd : divB a b with
  | false =>
    have H := Lib.hid (div_no hd)
    rw [hd] at H
    go_enter Tryd.func18, Tryd.ntmps18
    go_wp2_with (go_at_call 31; refine (divides_any _ _ _).mono ?_; rintro e w' ⟨rfl, rfl⟩)
    go_ret2
    exact ⟨ret_two H.out.1 rfl, rfl⟩
  | true =>
    have H := Lib.hid (div_eq hd)
    rw [hd] at H
    obtain ⟨ha, hb, hz0⟩ := divB_parts hd
    have hz : ¬ b = 0 := by simpa using hz0
    obtain ⟨t1, t2⟩ := tdiv_bd (b := b) ha
    cases hr : ruB a b with
    | false =>
      have R := Lib.hid (quo_nr hr)
      go_enter Tryd.func18, Tryd.ntmps18
      go_wp2_with (first | (go_at_call 31; refine (divides_any _ _ _).mono ?_; rintro e w' ⟨rfl, rfl⟩) | (go_at_call 32; refine (ru_any _ _ _ hz).mono ?_; rintro e w' ⟨rfl, rfl⟩))
      go_ret2
      exact ⟨ret_two (R.out.trans H.out.1) rfl, rfl⟩
    | true =>
      have R := Lib.hid (quo_ru hr)
      go_enter Tryd.func18, Tryd.ntmps18
      go_wp2_with (first | (go_at_call 31; refine (divides_any _ _ _).mono ?_; rintro e w' ⟨rfl, rfl⟩) | (go_at_call 32; refine (ru_any _ _ _ hz).mono ?_; rintro e w' ⟨rfl, rfl⟩))
      go_ret2
      exact ⟨ret_two (R.out.trans H.out.1) rfl, rfl⟩

theorem mod_any (a b : Int) (w : World) : Calls Tryd.prog 20 #[.int .i64 a, .int .i64 b] w fun e w' => e = .returned (.tuple #[.int .i64 (modV a b), .bool (divB a b)]) ∧ w = w' := by
  cases hd : divB a b with
  | false =>
    have H := Lib.hid (mod_no hd)
    rw [hd] at H
    go_enter Tryd.func20, Tryd.ntmps20
    go_wp2_with (go_at_call 31; refine (divides_any _ _ _).mono ?_; rintro e w' ⟨rfl, rfl⟩)
    go_ret2
    exact ⟨ret_two H.out.1 rfl, rfl⟩
  | true =>
    have H := Lib.hid (mod_eq hd)
    rw [hd] at H
    obtain ⟨ha, hb, hz0⟩ := divB_parts hd
    have hz : ¬ b = 0 := by simpa using hz0
    obtain ⟨t1, t2⟩ := tmod_bd (b := b) ha
    obtain ⟨t3, t4⟩ := of_inB hb
    cases hr : ruB a b with
    | false =>
      have R := Lib.hid (rest_nr hr)
      go_enter Tryd.func20, Tryd.ntmps20
      go_wp2_with (first | (go_at_call 31; refine (divides_any _ _ _).mono ?_; rintro e w' ⟨rfl, rfl⟩) | (go_at_call 32; refine (ru_any _ _ _ hz).mono ?_; rintro e w' ⟨rfl, rfl⟩))
      go_ret2
      exact ⟨ret_two (R.out.trans H.out.1) rfl, rfl⟩
    | true =>
      have R := Lib.hid (rest_ru hr)
      go_enter Tryd.func20, Tryd.ntmps20
      go_wp2_with (first | (go_at_call 31; refine (divides_any _ _ _).mono ?_; rintro e w' ⟨rfl, rfl⟩) | (go_at_call 32; refine (ru_any _ _ _ hz).mono ?_; rintro e w' ⟨rfl, rfl⟩))
      go_ret2
      exact ⟨ret_two (R.out.trans H.out.1) rfl, rfl⟩

/-! ### The reference's -/

theorem back_bd {a b : Int} (ha : inB a = true) : -1000000000000 ≤ a.tdiv b * b ∧ a.tdiv b * b ≤ 1000000000000 := by
  have := of_inB ha
  have h1 := @tdiv_mul a b
  have h2 : (b * a.tdiv b).natAbs ≤ a.natAbs := by
    rw [Int.natAbs_mul, Int.natAbs_tdiv]; exact Nat.mul_div_le _ _
  rw [Int.mul_comm]
  omega

theorem rdiv_any (a b : Int) (w : World) : Calls Tryd.prog 19 #[.int .i64 a, .int .i64 b] w fun e w' => e = .returned (.tuple #[.int .i64 (divV a b), .bool (divB a b)]) ∧ w = w' := by
  cases hd : divB a b with
  | false =>
    have H := Lib.hid (div_no hd)
    rw [hd] at H
    rcases divB_no hd with ha | ⟨ha, hb⟩ | ⟨ha, hb, hz⟩
    · go_enter Tryd.func19, Tryd.ntmps19
      go_wp2_with (go_at_call 16; refine (rin_any _ _).mono ?_; rintro e w' ⟨rfl, rfl⟩)
      go_ret2
      exact ⟨ret_two H.out.1 rfl, rfl⟩
    · go_enter Tryd.func19, Tryd.ntmps19
      go_wp2_with (go_at_call 16; refine (rin_any _ _).mono ?_; rintro e w' ⟨rfl, rfl⟩)
      go_ret2
      exact ⟨ret_two H.out.1 rfl, rfl⟩
    · subst hz
      go_enter Tryd.func19, Tryd.ntmps19
      go_wp2_with (go_at_call 16; refine (rin_any _ _).mono ?_; rintro e w' ⟨rfl, rfl⟩)
      go_ret2
      exact ⟨ret_two H.out.1 rfl, rfl⟩
  | true =>
    have H := Lib.hid (div_eq hd)
    rw [hd] at H
    obtain ⟨ha, hb, hz0⟩ := divB_parts hd
    have hz : ¬ b = 0 := by simpa using hz0
    obtain ⟨t1, t2⟩ := tdiv_bd (b := b) ha
    obtain ⟨t3, t4⟩ := back_bd (b := b) ha
    have B : Hid ((a.tdiv b * b != a) = (a.tmod b != 0)) := back_ne
    have R1 : Hid (ruB a b = false → a.tdiv b = quo a b) := quo_nr
    have R2 : Hid (ruB a b = true → a.tdiv b - 1 = quo a b) := quo_ru
    have RB : Hid (ruB a b = (a.tmod b != 0 && (decide (a < 0) != decide (b < 0)))) := rfl
    cases hm : (a.tdiv b * b != a) <;> cases hsa : decide (a < 0) <;> cases hsb : decide (b < 0) <;>
    · have B' := B.out
      rw [hm] at B'
      have RB' := RB.out
      rw [← B', hsa, hsb] at RB'
      have RC := Lib.hid RB'
      clear B' RB' hd
      go_enter Tryd.func19, Tryd.ntmps19
      go_wp2_with (go_at_call 16; refine (rin_any _ _).mono ?_; rintro e w' ⟨rfl, rfl⟩)
      go_ret2
      exact ⟨ret_two (by first | exact (R1.out RC.out).trans H.out.1 | exact (R2.out RC.out).trans H.out.1) rfl, rfl⟩

theorem rmod_any (a b : Int) (w : World) : Calls Tryd.prog 21 #[.int .i64 a, .int .i64 b] w fun e w' => e = .returned (.tuple #[.int .i64 (modV a b), .bool (divB a b)]) ∧ w = w' := by
  cases hd : divB a b with
  | false =>
    have H := Lib.hid (mod_no hd)
    rw [hd] at H
    go_enter Tryd.func21, Tryd.ntmps21
    go_wp2_with (go_at_call 19; refine (rdiv_any _ _ _).mono ?_; rintro e w' ⟨rfl, rfl⟩)
    go_ret2
    exact ⟨ret_two H.out.1 rfl, rfl⟩
  | true =>
    have H := Lib.hid (mod_eq hd)
    have D := Lib.hid (div_eq hd)
    rw [hd] at H
    obtain ⟨ha, hb, hz0⟩ := divB_parts hd
    have hz : b ≠ 0 := by simpa using hz0
    have s := rest_sign (a := a) hz
    obtain ⟨t1, t2⟩ := of_inB ha
    obtain ⟨t3, t4⟩ := of_inB hb
    have E : Hid (a - b * divV a b = rest a b) := by rw [← D.out.1]; exact rest_eq
    have q1 : -1000000000000 ≤ rest a b ∧ rest a b ≤ 1000000000000 := by
      rcases Int.lt_or_gt_of_ne hz with h | h
      · have := s.2 h; omega
      · have := s.1 h; omega
    have q2 : -2000000000000 ≤ b * divV a b ∧ b * divV a b ≤ 2000000000000 := by have := E.out; omega
    obtain ⟨q3, q4⟩ := q2
    obtain ⟨q5, q6⟩ := q1
    have q7 : -1000000000000 ≤ a - b * divV a b := by have := E.out; omega
    have q8 : a - b * divV a b ≤ 1000000000000 := by have := E.out; omega
    clear s hz hz0 ha hb
    go_enter Tryd.func21, Tryd.ntmps21
    go_wp2_with (go_at_call 19; refine (rdiv_any _ _ _).mono ?_; rintro e w' ⟨rfl, rfl⟩)
    go_ret2
    exact ⟨ret_two (E.out.trans H.out.1) rfl, rfl⟩
end Go.Proofs.YthbendnhpjfenaaDoor
