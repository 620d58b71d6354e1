/-
  Env of sort, and of the reference.
-/
import Derived.Test.YtegognbnphpigaaDoorSoD
namespace Go.Proofs.YtegognbnphpigaaDoor
open Go.RowKit

/-- No name is longer than memory. -/
structure Fits (v : En) : Prop where
  vars : ∀ x ∈ v.vars, x.name.length ≤ maxLen
  syms : ∀ x ∈ v.syms, x.name.length ≤ maxLen
  holes : ∀ x ∈ v.holes, x.name.length ≤ maxLen ∧ ∀ p ∈ x.ps, p.name.length ≤ maxLen
theorem env_a {v : En} {r : Int} (h : varsI v.vars = r) (hr : r ≠ 0) : envI v = r := by unfold envI; rw [if_pos (by rw [h]; exact hr), h]
theorem env_b {v : En} {r : Int} (h : varsI v.vars = 0) (h2 : symsI v.syms = r) (hr : r ≠ 0) : envI v = r := by unfold envI; rw [if_neg (by rw [h]; decide), if_pos (by rw [h2]; exact hr), h2]
theorem env_c {v : En} (h : varsI v.vars = 0) (h2 : symsI v.syms = 0) : envI v = holesI v.holes := by unfold envI; rw [if_neg (by rw [h]; decide), if_neg (by rw [h2]; decide)]
set_option maxRecDepth 100000 in
set_option maxHeartbeats 2000000 in
theorem env_any (A : Option Addr) (n c : Nat) (B : Option Addr) (m d : Nat) (C : Option Addr) (p q : Nat) (v : En) (w : World) (henv : Env w) (hf : Fits v) (h1 : Vs w A n c v.vars) (h2 : Ys w B m d v.syms) (h3 : Hs w C p q v.holes) : Calls Tryd.prog 17 #[.agg #[.slice A n c, .slice B m d, .slice C p q]] w fun e w' => e = .returned (.int .i64 (envI v)) ∧ Below w.heap.size w w' := by
  have H1 := Lib.hid h1
  have H2 := Lib.hid h2
  have H3 := Lib.hid h3
  have HE := Lib.hid henv
  have HF := Lib.hid hf
  have BK := Lib.hid (Bk.new 36 w #[.slice A n c, .slice B m d, .slice C p q])
  have HB0 : Hid (Below w.heap.size w (w.alloc (.cells #[.slice A n c, .slice B m d, .slice C p q] 36))) := below_alloc _
  clear h1 h2 h3 henv hf
  by_cases ha : varsI v.vars = 0
  · have HA := Lib.hid ha
    by_cases hs : symsI v.syms = 0
    · have HS := Lib.hid hs
      have HR : Hid (envI v = holesI v.holes) := env_c ha hs
      clear ha hs
      go_enter Tryd.func17, Tryd.ntmps17
      go_wp2_with fail
      (refine (checkvars_any A n c v.vars _ (HE.out.below HB0.out) (H1.out.below HB0.out) HF.out.vars).mono ?_); rintro e w1 ⟨rfl, hb⟩
      rw [HA.out]
      have BK1 := Lib.hid (BK.out.below hb)
      have HB1 := Lib.hid (nbelow_on HB0.out hb)
      have e1 := BK1.out.c 1 (v := .slice B m d) rfl
      clear hb
      go_wp2_with fail
      (refine (checksyms_any B m d v.syms w1 (HE.out.below HB1.out) (H2.out.below HB1.out) HF.out.syms).mono ?_); rintro e w2 ⟨rfl, hb⟩
      rw [HS.out]
      have BK2 := Lib.hid (BK1.out.below hb)
      have HB2 := Lib.hid (nbelow_on HB1.out hb)
      have e2 := BK2.out.c 2 (v := .slice C p q) rfl
      clear hb e1
      go_wp2_with fail
      (refine (checkholes_any C p q v.holes w2 (HE.out.below HB2.out) (H3.out.below HB2.out) HF.out.holes).mono ?_); rintro e w3 ⟨rfl, hb⟩
      have HB3 := Lib.hid (nbelow_on HB2.out hb)
      clear hb
      go_wp2_with fail
      go_ret
      exact ⟨nret_int HR.out.symm, HB3.out⟩
    · obtain ⟨r, hr⟩ : ∃ r, symsI v.syms = r := ⟨_, rfl⟩
      have HS := Lib.hid hr
      rw [hr] at hs
      have HR : Hid (envI v = r) := env_b ha hr hs
      have z0 := zero_eq hs
      have z1 := zero_ne hs
      clear ha hs hr
      go_enter Tryd.func17, Tryd.ntmps17
      go_wp2_with fail
      (refine (checkvars_any A n c v.vars _ (HE.out.below HB0.out) (H1.out.below HB0.out) HF.out.vars).mono ?_); rintro e w1 ⟨rfl, hb⟩
      rw [HA.out]
      have BK1 := Lib.hid (BK.out.below hb)
      have HB1 := Lib.hid (nbelow_on HB0.out hb)
      have e1 := BK1.out.c 1 (v := .slice B m d) rfl
      clear hb
      go_wp2_with fail
      (refine (checksyms_any B m d v.syms w1 (HE.out.below HB1.out) (H2.out.below HB1.out) HF.out.syms).mono ?_); rintro e w2 ⟨rfl, hb⟩
      rw [HS.out]
      have HB2 := Lib.hid (nbelow_on HB1.out hb)
      clear hb e1
      go_wp2_with fail
      go_ret
      exact ⟨nret_int HR.out.symm, HB2.out⟩
  · obtain ⟨r, hr⟩ : ∃ r, varsI v.vars = r := ⟨_, rfl⟩
    have HA := Lib.hid hr
    rw [hr] at ha
    have HR : Hid (envI v = r) := env_a hr ha
    have z0 := zero_eq ha
    have z1 := zero_ne ha
    clear ha hr
    go_enter Tryd.func17, Tryd.ntmps17
    go_wp2_with fail
    (refine (checkvars_any A n c v.vars _ (HE.out.below HB0.out) (H1.out.below HB0.out) HF.out.vars).mono ?_); rintro e w1 ⟨rfl, hb⟩
    rw [HA.out]
    have HB1 := Lib.hid (nbelow_on HB0.out hb)
    clear hb
    go_wp2_with fail
    go_ret
    exact ⟨nret_int HR.out.symm, HB1.out⟩
set_option maxRecDepth 100000 in
set_option maxHeartbeats 2000000 in
theorem renv_any (A : Option Addr) (n c : Nat) (B : Option Addr) (m d : Nat) (C : Option Addr) (p q : Nat) (v : En) (w : World) (h1 : Vs w A n c v.vars) (h2 : Ys w B m d v.syms) (h3 : Hs w C p q v.holes) : Calls Tryd.prog 18 #[.agg #[.slice A n c, .slice B m d, .slice C p q]] w fun e w' => e = .returned (.int .i64 (envI v)) ∧ Below w.heap.size w w' := by
  have H1 := Lib.hid h1
  have H2 := Lib.hid h2
  have H3 := Lib.hid h3
  have BK := Lib.hid (Bk.new 36 w #[.slice A n c, .slice B m d, .slice C p q])
  have HB0 : Hid (Below w.heap.size w (w.alloc (.cells #[.slice A n c, .slice B m d, .slice C p q] 36))) := below_alloc _
  clear h1 h2 h3
  by_cases ha : varsI v.vars = 0
  · have HA := Lib.hid ha
    by_cases hs : symsI v.syms = 0
    · have HS := Lib.hid hs
      have HR : Hid (envI v = holesI v.holes) := env_c ha hs
      clear ha hs
      go_enter Tryd.func18, Tryd.ntmps18
      go_wp2_with fail
      (refine (rvars_any A n c v.vars _ (H1.out.below HB0.out)).mono ?_); rintro e w1 ⟨rfl, hb⟩
      rw [HA.out]
      have BK1 := Lib.hid (BK.out.below hb)
      have HB1 := Lib.hid (nbelow_on HB0.out hb)
      have e1 := BK1.out.c 1 (v := .slice B m d) rfl
      clear hb
      go_wp2_with fail
      (refine (rsyms_any B m d v.syms w1 (H2.out.below HB1.out)).mono ?_); rintro e w2 ⟨rfl, hb⟩
      rw [HS.out]
      have BK2 := Lib.hid (BK1.out.below hb)
      have HB2 := Lib.hid (nbelow_on HB1.out hb)
      have e2 := BK2.out.c 2 (v := .slice C p q) rfl
      clear hb e1
      go_wp2_with fail
      (refine (rholes_any C p q v.holes w2 (H3.out.below HB2.out)).mono ?_); rintro e w3 ⟨rfl, hb⟩
      have HB3 := Lib.hid (nbelow_on HB2.out hb)
      clear hb
      go_wp2_with fail
      go_ret
      exact ⟨nret_int HR.out.symm, HB3.out⟩
    · obtain ⟨r, hr⟩ : ∃ r, symsI v.syms = r := ⟨_, rfl⟩
      have HS := Lib.hid hr
      rw [hr] at hs
      have HR : Hid (envI v = r) := env_b ha hr hs
      have z0 := zero_eq hs
      have z1 := zero_ne hs
      clear ha hs hr
      go_enter Tryd.func18, Tryd.ntmps18
      go_wp2_with fail
      (refine (rvars_any A n c v.vars _ (H1.out.below HB0.out)).mono ?_); rintro e w1 ⟨rfl, hb⟩
      rw [HA.out]
      have BK1 := Lib.hid (BK.out.below hb)
      have HB1 := Lib.hid (nbelow_on HB0.out hb)
      have e1 := BK1.out.c 1 (v := .slice B m d) rfl
      clear hb
      go_wp2_with fail
      (refine (rsyms_any B m d v.syms w1 (H2.out.below HB1.out)).mono ?_); rintro e w2 ⟨rfl, hb⟩
      rw [HS.out]
      have HB2 := Lib.hid (nbelow_on HB1.out hb)
      clear hb e1
      go_wp2_with fail
      go_ret
      exact ⟨nret_int HR.out.symm, HB2.out⟩
  · obtain ⟨r, hr⟩ : ∃ r, varsI v.vars = r := ⟨_, rfl⟩
    have HA := Lib.hid hr
    rw [hr] at ha
    have HR : Hid (envI v = r) := env_a hr ha
    have z0 := zero_eq ha
    have z1 := zero_ne ha
    clear ha hr
    go_enter Tryd.func18, Tryd.ntmps18
    go_wp2_with fail
    (refine (rvars_any A n c v.vars _ (H1.out.below HB0.out)).mono ?_); rintro e w1 ⟨rfl, hb⟩
    rw [HA.out]
    have HB1 := Lib.hid (nbelow_on HB0.out hb)
    clear hb
    go_wp2_with fail
    go_ret
    exact ⟨nret_int HR.out.symm, HB1.out⟩
end Go.Proofs.YtegognbnphpigaaDoor
