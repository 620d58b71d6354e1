/-
  The reference's Core.
-/
import Derived.Test.YtegognbnphpigaaDoorSbKA
import Derived.Test.YtegognbnphpigaaDoorSbKB
namespace Go.Proofs.YtegognbnphpigaaDoor
open Go.RowKit

theorem core_ok {l p : Txt} {t : List Txt} (h : l.length ≤ 120) (hc : cut46 l = p :: t) (hk : nameB p = true ∨ titleB p = true ∨ p = [118] ∧ t ≠ []) : coreB l = t.all partB := by
  unfold coreB
  rw [decide_eq_true h, hc]
  cases t with
  | nil =>
    rcases hk with h1 | h1 | h1
    · simp [h1]
    · simp [h1]
    · exact absurd rfl h1.2
  | cons q r =>
    rcases hk with h1 | h1 | h1
    · simp [h1]
    · simp [h1]
    · simp [h1.1]
theorem core_bad {l p : Txt} {t : List Txt} (hc : cut46 l = p :: t) (h1 : nameB p = false) (h2 : titleB p = false) (h3 : p ≠ [118] ∨ t = []) : coreB l = false := by
  unfold coreB
  rw [hc]
  cases t with
  | nil => simp [h1, h2]
  | cons q r =>
    rcases h3 with h3 | h3
    · simp [h1, h2, h3]
    · cases h3
theorem all_snoc_t {l : List Txt} {k : Nat} (h : k < l.length) (p : Txt → Bool) : (l.take (k + 1)).all p = ((l.take k).all p && p (l.getD k [])) := by
  rw [take_snoc h, List.all_append]; simp
theorem all_bad_t {l : List Txt} {k : Nat} (h : k < l.length) {p : Txt → Bool} (hp : p (l.getD k []) = false) : l.all p = false := by
  rw [List.all_eq_false]
  exact ⟨_, getD_mem h, by rw [hp]; simp⟩
set_option maxRecDepth 100000 in
set_option maxHeartbeats 8000000 in
theorem rcore_any (s : ByteArray) (w : World) : Calls Tryd.prog 33 #[.string s] w fun e w' => e = .returned (.int .i64 (errI (coreB s.data.toList))) ∧ Below w.heap.size w w' := by
  by_cases h : s.size ≤ 120
  · have p1 : ¬ (120 : Int) < (s.size : Int) := by omega
    have HLE : Hid ((s.data.toList).length ≤ 120) := by show _ ≤ _; rw [← size_list]; exact h
    obtain ⟨p, t, hcut⟩ : ∃ p t, cut46 s.data.toList = p :: t := by
      cases hq : cut46 s.data.toList with
      | nil => exact absurd hq (cut46_ne _)
      | cons a r => exact ⟨a, r, rfl⟩
    have HCUT := Lib.hid hcut
    clear hcut
    cases hn : nameB p with
    | true =>
      have HN := Lib.hid hn
      have HOK : Hid (coreB s.data.toList = t.all partB) := core_ok HLE.out HCUT.out (.inl hn)
      clear hn
      go_enter Tryd.func33, Tryd.ntmps33
      go_wp2_with fail
      (refine (parts_any s _ (by omega)).mono ?_); rintro e w1 ⟨C, n, c, rfl, hss, hb⟩
      have HB1 := Lib.hid hb
      rw [HCUT.out] at hss
      have HSS := Lib.hid hss
      have hn := hss.len
      rw [List.length_cons] at hn
      have h47 : n ≤ 9223372036854775807 := Nat.le_trans hss.cap hss.top
      obtain ⟨g, o, x, rfl, hg, hc0, hx⟩ := hss.at_ (k := 0) (by omega)
      have HX : Hid (x.data.toList = p) := hx.out
      have hc1 : w1.cell? ⟨g, o, none⟩ = some (.string x) := by simpa using hc0
      have HCL := Lib.hid hc1
      have HG := Lib.hid hg
      have q0 : (0 : Int) < (n : Int) := by omega
      clear hss hb hc0 hx hg
      go_wp2_with fail
      (refine (rcheck_any x _).mono ?_); rintro e w2 ⟨rfl, hb⟩
      have HB2 := Lib.hid hb
      rw [HX.out, HN.out, show errI true = 0 from rfl]
      have hc2 := (hb.cell (p := ⟨g, o, none⟩) HG.out).trans HCL.out
      clear hb
      obtain ⟨B, m, d, RS, hsl⟩ := slice_from (HSS.out.below HB2.out) (k := 1) (by omega) 1 rfl
      have HSL : Hid (Ss w2 B m d t) := hsl
      have HBZ := Lib.hid (HB1.out.trans (HB2.out.mono HB1.out.size))
      clear hsl
      have hml := HSL.out.len
      have h47 : m ≤ 9223372036854775807 := Nat.le_trans HSL.out.cap HSL.out.top
      go_wp2_with fail
      go_loop [37] (fun i => ∃ k : Nat, k ≤ m ∧ i = .int .i64 (k : Int) ∧ (t.take k).all partB = true) (fun i => m - (intOf i).toNat)
      case atStart => exact ⟨0, Nat.zero_le _, rfl, by simp⟩
      case round =>
        obtain ⟨k, hk, rfl, ha⟩ := hrel
        have HA := Lib.hid ha
        clear ha
        by_cases hlt : k < m
        · obtain ⟨g, o, y, rfl, hg, hc, hy⟩ := HSL.out.at_ hlt
          have hkl : k < t.length := by rw [hml]; exact hlt
          have HKL := Lib.hid hkl
          have CP := rpart_any y w2
          rw [hy.out] at CP
          have q1 : (k : Int) < m := by omega
          clear hy hg hkl hml
          cases hp : partB (t.getD k []) with
          | true =>
            have HP := Lib.hid hp
            rw [hp] at CP
            clear hp
            go_wp2_with fail
            ((with_reducible refine CP.mono ?_); rintro e wx ⟨rfl, rfl⟩)
            go_wp2_with fail
            go_round
            case rel => exact ⟨k + 1, by omega, by go_num, by rw [all_snoc_t HKL.out, HA.out, HP.out]; rfl⟩
            case measure => simp [intOf] <;> omega
          | false =>
            have HP := Lib.hid hp
            rw [hp] at CP
            clear hp
            go_wp2_with fail
            ((with_reducible refine CP.mono ?_); rintro e wx ⟨rfl, rfl⟩)
            go_wp2_with fail
            go_ret
            exact ⟨nret_int (by rw [HOK.out, all_bad_t HKL.out HP.out]; rfl), HBZ.out⟩
        · have hke : k = m := by omega
          subst hke
          go_wp2_with fail
          go_ret
          exact ⟨nret_int (by rw [HOK.out]; have := HA.out; rw [List.take_of_length_le (by rw [hml]; exact Nat.le_refl _)] at this; rw [this]; rfl), HBZ.out⟩
    | false =>
      have HN := Lib.hid hn
      clear hn
      cases ht : titleB p with
      | true =>
        have HT := Lib.hid ht
        have HOK : Hid (coreB s.data.toList = t.all partB) := core_ok HLE.out HCUT.out (.inr (.inl ht))
        clear ht
        go_enter Tryd.func33, Tryd.ntmps33
        go_wp2_with fail
        (refine (parts_any s _ (by omega)).mono ?_); rintro e w1 ⟨C, n, c, rfl, hss, hb⟩
        have HB1 := Lib.hid hb
        rw [HCUT.out] at hss
        have HSS := Lib.hid hss
        have hn := hss.len
        rw [List.length_cons] at hn
        have h47 : n ≤ 9223372036854775807 := Nat.le_trans hss.cap hss.top
        obtain ⟨g, o, x, rfl, hg, hc0, hx⟩ := hss.at_ (k := 0) (by omega)
        have HX : Hid (x.data.toList = p) := hx.out
        have hc1 : w1.cell? ⟨g, o, none⟩ = some (.string x) := by simpa using hc0
        have HCL := Lib.hid hc1
        have HG := Lib.hid hg
        have q0 : (0 : Int) < (n : Int) := by omega
        clear hss hb hc0 hx hg
        go_wp2_with fail
        (refine (rcheck_any x _).mono ?_); rintro e w2 ⟨rfl, hb⟩
        have HB2 := Lib.hid hb
        rw [HX.out, HN.out, show errI false = 3 from rfl]
        have hc2 := (hb.cell (p := ⟨g, o, none⟩) HG.out).trans HCL.out
        clear hb
        go_wp2_with fail
        ((with_reducible refine (rtitle_any x _).mono ?_); rintro e wx ⟨rfl, rfl⟩)
        rw [HX.out, HT.out, show errI true = 0 from rfl]
        obtain ⟨B, m, d, RS, hsl⟩ := slice_from (HSS.out.below HB2.out) (k := 1) (by omega) 1 rfl
        have HSL : Hid (Ss w2 B m d t) := hsl
        have HBZ := Lib.hid (HB1.out.trans (HB2.out.mono HB1.out.size))
        clear hsl
        have hml := HSL.out.len
        have h47 : m ≤ 9223372036854775807 := Nat.le_trans HSL.out.cap HSL.out.top
        go_wp2_with fail
        go_loop [37] (fun i => ∃ k : Nat, k ≤ m ∧ i = .int .i64 (k : Int) ∧ (t.take k).all partB = true) (fun i => m - (intOf i).toNat)
        case atStart => exact ⟨0, Nat.zero_le _, rfl, by simp⟩
        case round =>
          obtain ⟨k, hk, rfl, ha⟩ := hrel
          have HA := Lib.hid ha
          clear ha
          by_cases hlt : k < m
          · obtain ⟨g, o, y, rfl, hg, hc, hy⟩ := HSL.out.at_ hlt
            have hkl : k < t.length := by rw [hml]; exact hlt
            have HKL := Lib.hid hkl
            have CP := rpart_any y w2
            rw [hy.out] at CP
            have q1 : (k : Int) < m := by omega
            clear hy hg hkl hml
            cases hp : partB (t.getD k []) with
            | true =>
              have HP := Lib.hid hp
              rw [hp] at CP
              clear hp
              go_wp2_with fail
              ((with_reducible refine CP.mono ?_); rintro e wx ⟨rfl, rfl⟩)
              go_wp2_with fail
              go_round
              case rel => exact ⟨k + 1, by omega, by go_num, by rw [all_snoc_t HKL.out, HA.out, HP.out]; rfl⟩
              case measure => simp [intOf] <;> omega
            | false =>
              have HP := Lib.hid hp
              rw [hp] at CP
              clear hp
              go_wp2_with fail
              ((with_reducible refine CP.mono ?_); rintro e wx ⟨rfl, rfl⟩)
              go_wp2_with fail
              go_ret
              exact ⟨nret_int (by rw [HOK.out, all_bad_t HKL.out HP.out]; rfl), HBZ.out⟩
          · have hke : k = m := by omega
            subst hke
            go_wp2_with fail
            go_ret
            exact ⟨nret_int (by rw [HOK.out]; have := HA.out; rw [List.take_of_length_le (by rw [hml]; exact Nat.le_refl _)] at this; rw [this]; rfl), HBZ.out⟩
      | false =>
        have HT := Lib.hid ht
        clear ht
        by_cases hv : p = [118]
        · by_cases ht0 : t = []
          · have HV := Lib.hid hv
            have HT0 := Lib.hid ht0
            have HOK : Hid (coreB s.data.toList = false) := core_bad HCUT.out HN.out HT.out (.inr ht0)
            clear hv ht0
            go_enter Tryd.func33, Tryd.ntmps33
            go_wp2_with fail
            (refine (parts_any s _ (by omega)).mono ?_); rintro e w1 ⟨C, n, c, rfl, hss, hb⟩
            have HB1 := Lib.hid hb
            rw [HCUT.out] at hss
            have HSS := Lib.hid hss
            have hn := hss.len
            rw [List.length_cons] at hn
            have h47 : n ≤ 9223372036854775807 := Nat.le_trans hss.cap hss.top
            obtain ⟨g, o, x, rfl, hg, hc0, hx⟩ := hss.at_ (k := 0) (by omega)
            have HX : Hid (x.data.toList = p) := hx.out
            have hc1 : w1.cell? ⟨g, o, none⟩ = some (.string x) := by simpa using hc0
            have HCL := Lib.hid hc1
            have HG := Lib.hid hg
            have q0 : (0 : Int) < (n : Int) := by omega
            clear hss hb hc0 hx hg
            go_wp2_with fail
            (refine (rcheck_any x _).mono ?_); rintro e w2 ⟨rfl, hb⟩
            have HB2 := Lib.hid hb
            rw [HX.out, HN.out, show errI false = 3 from rfl]
            have hc2 := (hb.cell (p := ⟨g, o, none⟩) HG.out).trans HCL.out
            clear hb
            go_wp2_with fail
            ((with_reducible refine (rtitle_any x _).mono ?_); rintro e wx ⟨rfl, rfl⟩)
            rw [HX.out, HT.out, show errI false = 3 from rfl]
            have TB : (x.toList == [118]) = true := by rw [tolist_eq, HX.out]; rw [HV.out]; rfl
            have qn : ((n : Int) == 1) = true := by rw [beq_iff_eq]; have := HT0.out; subst this; simp at hn; omega
            have HBZ := Lib.hid (HB1.out.trans (HB2.out.mono HB1.out.size))
            go_wp2_with fail
            go_ret
            exact ⟨nret_int (by rw [HOK.out]; rfl), HBZ.out⟩
          · have HV := Lib.hid hv
            have HT0 := Lib.hid ht0
            have HOK : Hid (coreB s.data.toList = t.all partB) := core_ok HLE.out HCUT.out (.inr (.inr ⟨hv, ht0⟩))
            clear hv ht0
            go_enter Tryd.func33, Tryd.ntmps33
            go_wp2_with fail
            (refine (parts_any s _ (by omega)).mono ?_); rintro e w1 ⟨C, n, c, rfl, hss, hb⟩
            have HB1 := Lib.hid hb
            rw [HCUT.out] at hss
            have HSS := Lib.hid hss
            have hn := hss.len
            rw [List.length_cons] at hn
            have h47 : n ≤ 9223372036854775807 := Nat.le_trans hss.cap hss.top
            obtain ⟨g, o, x, rfl, hg, hc0, hx⟩ := hss.at_ (k := 0) (by omega)
            have HX : Hid (x.data.toList = p) := hx.out
            have hc1 : w1.cell? ⟨g, o, none⟩ = some (.string x) := by simpa using hc0
            have HCL := Lib.hid hc1
            have HG := Lib.hid hg
            have q0 : (0 : Int) < (n : Int) := by omega
            clear hss hb hc0 hx hg
            go_wp2_with fail
            (refine (rcheck_any x _).mono ?_); rintro e w2 ⟨rfl, hb⟩
            have HB2 := Lib.hid hb
            rw [HX.out, HN.out, show errI false = 3 from rfl]
            have hc2 := (hb.cell (p := ⟨g, o, none⟩) HG.out).trans HCL.out
            clear hb
            go_wp2_with fail
            ((with_reducible refine (rtitle_any x _).mono ?_); rintro e wx ⟨rfl, rfl⟩)
            rw [HX.out, HT.out, show errI false = 3 from rfl]
            have TB : (x.toList == [118]) = true := by rw [tolist_eq, HX.out]; rw [HV.out]; rfl
            have qn : ((n : Int) == 1) = false := by rw [beq_eq_false_iff_ne]; have : t.length ≠ 0 := fun e => HT0.out (List.eq_nil_of_length_eq_zero e); omega
            obtain ⟨B, m, d, RS, hsl⟩ := slice_from (HSS.out.below HB2.out) (k := 1) (by omega) 1 rfl
            have HSL : Hid (Ss w2 B m d t) := hsl
            have HBZ := Lib.hid (HB1.out.trans (HB2.out.mono HB1.out.size))
            clear hsl
            have hml := HSL.out.len
            have h47 : m ≤ 9223372036854775807 := Nat.le_trans HSL.out.cap HSL.out.top
            go_wp2_with fail
            go_loop [37] (fun i => ∃ k : Nat, k ≤ m ∧ i = .int .i64 (k : Int) ∧ (t.take k).all partB = true) (fun i => m - (intOf i).toNat)
            case atStart => exact ⟨0, Nat.zero_le _, rfl, by simp⟩
            case round =>
              obtain ⟨k, hk, rfl, ha⟩ := hrel
              have HA := Lib.hid ha
              clear ha
              by_cases hlt : k < m
              · obtain ⟨g, o, y, rfl, hg, hc, hy⟩ := HSL.out.at_ hlt
                have hkl : k < t.length := by rw [hml]; exact hlt
                have HKL := Lib.hid hkl
                have CP := rpart_any y w2
                rw [hy.out] at CP
                have q1 : (k : Int) < m := by omega
                clear hy hg hkl hml
                cases hp : partB (t.getD k []) with
                | true =>
                  have HP := Lib.hid hp
                  rw [hp] at CP
                  clear hp
                  go_wp2_with fail
                  ((with_reducible refine CP.mono ?_); rintro e wx ⟨rfl, rfl⟩)
                  go_wp2_with fail
                  go_round
                  case rel => exact ⟨k + 1, by omega, by go_num, by rw [all_snoc_t HKL.out, HA.out, HP.out]; rfl⟩
                  case measure => simp [intOf] <;> omega
                | false =>
                  have HP := Lib.hid hp
                  rw [hp] at CP
                  clear hp
                  go_wp2_with fail
                  ((with_reducible refine CP.mono ?_); rintro e wx ⟨rfl, rfl⟩)
                  go_wp2_with fail
                  go_ret
                  exact ⟨nret_int (by rw [HOK.out, all_bad_t HKL.out HP.out]; rfl), HBZ.out⟩
              · have hke : k = m := by omega
                subst hke
                go_wp2_with fail
                go_ret
                exact ⟨nret_int (by rw [HOK.out]; have := HA.out; rw [List.take_of_length_le (by rw [hml]; exact Nat.le_refl _)] at this; rw [this]; rfl), HBZ.out⟩
        · have HV := Lib.hid hv
          have HOK : Hid (coreB s.data.toList = false) := core_bad HCUT.out HN.out HT.out (.inl hv)
          clear hv
          go_enter Tryd.func33, Tryd.ntmps33
          go_wp2_with fail
          (refine (parts_any s _ (by omega)).mono ?_); rintro e w1 ⟨C, n, c, rfl, hss, hb⟩
          have HB1 := Lib.hid hb
          rw [HCUT.out] at hss
          have HSS := Lib.hid hss
          have hn := hss.len
          rw [List.length_cons] at hn
          have h47 : n ≤ 9223372036854775807 := Nat.le_trans hss.cap hss.top
          obtain ⟨g, o, x, rfl, hg, hc0, hx⟩ := hss.at_ (k := 0) (by omega)
          have HX : Hid (x.data.toList = p) := hx.out
          have hc1 : w1.cell? ⟨g, o, none⟩ = some (.string x) := by simpa using hc0
          have HCL := Lib.hid hc1
          have HG := Lib.hid hg
          have q0 : (0 : Int) < (n : Int) := by omega
          clear hss hb hc0 hx hg
          go_wp2_with fail
          (refine (rcheck_any x _).mono ?_); rintro e w2 ⟨rfl, hb⟩
          have HB2 := Lib.hid hb
          rw [HX.out, HN.out, show errI false = 3 from rfl]
          have hc2 := (hb.cell (p := ⟨g, o, none⟩) HG.out).trans HCL.out
          clear hb
          go_wp2_with fail
          ((with_reducible refine (rtitle_any x _).mono ?_); rintro e wx ⟨rfl, rfl⟩)
          rw [HX.out, HT.out, show errI false = 3 from rfl]
          have TB : (x.toList == [118]) = false := by rw [tolist_eq, HX.out]; rw [beq_eq_false_iff_ne]; exact HV.out
          have HBZ := Lib.hid (HB1.out.trans (HB2.out.mono HB1.out.size))
          go_wp2_with fail
          go_ret
          exact ⟨nret_int (by rw [HOK.out]; rfl), HBZ.out⟩
  · have p1 : (120 : Int) < (s.size : Int) := by omega
    go_enter Tryd.func33, Tryd.ntmps33
    go_wp2_with fail
    go_ret
    exact ⟨nret_int (by rw [core_long (by rw [← size_list]; exact h)]; rfl), Below.refl _ _⟩
end Go.Proofs.YtegognbnphpigaaDoor
