/-
  Same of the reference and of lex.
-/
import Derived.Test.YtblakndpionmgaaDoorLxC
import Derived.Test.YtblakndpionmgaaDoorLxD
import Derived.BigQuiet
namespace Go.Proofs.YtblakndpionmgaaDoor
open Go.RowKit

def sameB : List Tk → List Tk → Bool
  | [], [] => true
  | a :: r, b :: q => tkB a b && sameB r q
  | _, _ => false
theorem same_iff {a b : List Tk} : sameB a b = true ↔ a = b := by
  induction a generalizing b with
  | nil => cases b <;> simp [sameB]
  | cons x r ih =>
    cases b with
    | nil => simp [sameB]
    | cons y q => rw [sameB, Bool.and_eq_true, tkB_eq, ih]; simp
theorem same_self (a : List Tk) : sameB a a = true := same_iff.2 rfl
theorem same_len {a b : List Tk} (h : a.length ≠ b.length) : sameB a b = false := by
  rw [← Bool.not_eq_true, same_iff]; rintro rfl; exact h rfl
theorem same_bad {a b : List Tk} {k : Nat} (h : a.getD k tk0 ≠ b.getD k tk0) : sameB a b = false := by
  rw [← Bool.not_eq_true, same_iff]; rintro rfl; exact h rfl
theorem same_good {a b : List Tk} (hl : a.length = b.length) (h : ∀ j, j < a.length → a.getD j tk0 = b.getD j tk0) : sameB a b = true := by
  rw [same_iff]
  refine List.ext_getElem hl (fun j h1 h2 => ?_)
  have := h j h1
  simpa [List.getD, h1, h2] using this
set_option maxRecDepth 100000 in
set_option maxHeartbeats 4000000 in
theorem xsame_any (A : Option Addr) (n c : Nat) (ts : List Tk) (B : Option Addr) (m d : Nat) (us : List Tk) (w : World) (ha : Ts w A n c ts) (hb : Ts w B m d us) : Calls Tryd.prog 21 #[.slice A n c, .slice B m d] w fun e w' => e = .returned (.bool (sameB ts us)) ∧ Below w.heap.size w w' := by
  have HA := Lib.hid ha
  have HB := Lib.hid hb
  have LA := Lib.hid ha.len
  have LB := Lib.hid hb.len
  have h47 : n ≤ 9223372036854775807 := Nat.le_trans ha.cap ha.top
  clear ha hb
  by_cases hnm : n = m
  · have HNM := Lib.hid hnm
    have qn : ((n : Int) == (m : Int)) = true := beq_iff_eq.2 (by omega)
    have qn2 : ((n : Int) != (m : Int)) = false := by rw [bne, qn]; rfl
    clear hnm
    go_enter Tryd.func21, Tryd.ntmps21
    go_wp2_with fail
    go_loopw [5] (fun iv wr => ∃ k q : Nat, k ≤ n ∧ iv = .int .i64 (k : Int) ∧ wr = w.drewN q ∧ ∀ j, j < k → ts.getD j tk0 = us.getD j tk0) (fun iv _ => n - (intOf iv).toNat)
    case atStart => exact ⟨0, 0, Nat.zero_le _, rfl, rfl, fun j hj => absurd hj (by omega)⟩
    case round =>
      obtain ⟨k, q, hk, rfl, rfl, he⟩ := hrel
      have HE := Lib.hid he
      clear he
      by_cases hlt : k < n
      · have hkm : k < m := by have := HNM.out; omega
        obtain ⟨g, o, x, rfl, -, c0, c1, c2, c3, hx⟩ := HA.out.at_ hlt
        obtain ⟨g', o', y, rfl, -, d0, d1, d2, d3, hy⟩ := HB.out.at_ hkm
        obtain ⟨t, ht⟩ : ∃ t, ts.getD k tk0 = t := ⟨_, rfl⟩
        obtain ⟨u, hu⟩ : ∃ u, us.getD k tk0 = u := ⟨_, rfl⟩
        rw [ht] at c0 c2 c3
        rw [hu] at d0 d2 d3
        have hxt : x.data.toList = t.text := by rw [hx.out, ht]
        have hyt : y.data.toList = u.text := by rw [hy.out, hu]
        have HTK := Lib.hid ht
        have HUK := Lib.hid hu
        have r1 : (k : Int) < (n : Int) := by omega
        have r2 : (k : Int) < (m : Int) := by omega
        have r3 : (0 : Int) ≤ (k : Int) := by omega
        clear hx hy ht hu
        by_cases g1 : t.kind = u.kind
        · have t1 : (t.kind == u.kind) = true := beq_iff_eq.2 g1
          by_cases g2 : t.text = u.text
          · have t2 : (x.toList == y.toList) = true := by rw [tolist_eq, tolist_eq, hxt, hyt, g2]; exact beq_self_eq_true _
            by_cases g3 : t.n = u.n
            · have t3 : (t.n == u.n) = true := beq_iff_eq.2 g3
              by_cases g4 : t.line = u.line
              · have t4 : (t.line == u.line) = true := beq_iff_eq.2 g4
                have HEQ : Hid (ts.getD k tk0 = us.getD k tk0) := by
                  show _ = _
                  rw [HTK.out, HUK.out]
                  cases t; cases u; simp only at g1 g2 g3 g4; rw [g1, g2, g3, g4]
                clear g1 g2 g3 g4 hxt hyt
                go_wp2_with fail
                go_quiet (fail)
                go_wp2_with fail
                go_roundw
                case rel => exact ⟨k + 1, _, by omega, by go_num, rfl, fun j hj => by rcases Nat.lt_succ_iff_lt_or_eq.1 hj with h | h; exact HE.out j h; subst h; exact HEQ.out⟩
                case measure => simp [intOf] <;> omega
              · have t4 : (t.line == u.line) = false := beq_eq_false_iff_ne.2 g4
                have HF : Hid (sameB ts us = false) := same_bad (k := k) (by rw [HTK.out, HUK.out]; rintro rfl; exact g4 rfl)
                clear g1 g2 g3 g4 hxt hyt
                go_wp2_with fail
                go_quiet (fail)
                go_wp2_with fail
                go_ret
                exact ⟨nret_bool HF.out.symm, below_dn (below_dn (Below.refl _ _) _) _⟩
            · have t3 : (t.n == u.n) = false := beq_eq_false_iff_ne.2 g3
              have HF : Hid (sameB ts us = false) := same_bad (k := k) (by rw [HTK.out, HUK.out]; rintro rfl; exact g3 rfl)
              clear g1 g2 g3 hxt hyt
              go_wp2_with fail
              go_quiet (fail)
              go_wp2_with fail
              go_ret
              exact ⟨nret_bool HF.out.symm, below_dn (below_dn (Below.refl _ _) _) _⟩
          · have t2 : (x.toList == y.toList) = false := by rw [tolist_eq, tolist_eq, hxt, hyt]; exact beq_eq_false_iff_ne.2 g2
            have HF : Hid (sameB ts us = false) := same_bad (k := k) (by rw [HTK.out, HUK.out]; rintro rfl; exact g2 rfl)
            clear g1 g2 hxt hyt
            go_wp2_with fail
            go_quiet (fail)
            go_wp2_with fail
            go_ret
            exact ⟨nret_bool HF.out.symm, below_dn (below_dn (Below.refl _ _) _) _⟩
        · have t1 : (t.kind == u.kind) = false := beq_eq_false_iff_ne.2 g1
          have HF : Hid (sameB ts us = false) := same_bad (k := k) (by rw [HTK.out, HUK.out]; rintro rfl; exact g1 rfl)
          clear g1 hxt hyt
          go_wp2_with fail
          go_quiet (fail)
          go_wp2_with fail
          go_ret
          exact ⟨nret_bool HF.out.symm, below_dn (below_dn (Below.refl _ _) _) _⟩
      · have hke : k = n := by omega
        subst hke
        have HF : Hid (sameB ts us = true) := same_good (by rw [LA.out, LB.out]; exact HNM.out) (by rw [LA.out]; exact HE.out)
        go_wp2_with fail
        go_ret
        exact ⟨nret_bool HF.out.symm, below_dn (Below.refl _ _) _⟩
  · have HF : Hid (sameB ts us = false) := same_len (by rw [LA.out, LB.out]; exact hnm)
    have qn : ((n : Int) == (m : Int)) = false := beq_eq_false_iff_ne.2 (by omega)
    have qn2 : ((n : Int) != (m : Int)) = true := by rw [bne, qn]; rfl
    clear hnm
    go_enter Tryd.func21, Tryd.ntmps21
    go_wp2_with fail
    go_ret
    exact ⟨nret_bool HF.out.symm, Below.refl _ _⟩
set_option maxRecDepth 100000 in
set_option maxHeartbeats 4000000 in
theorem equal_any (A : Option Addr) (n c : Nat) (ts : List Tk) (B : Option Addr) (m d : Nat) (us : List Tk) (w : World) (ha : Ts w A n c ts) (hb : Ts w B m d us) : Calls Tryd.prog 54 #[.slice A n c, .slice B m d] w fun e w' => e = .returned (.bool (sameB ts us)) ∧ Below w.heap.size w w' := by
  have HA := Lib.hid ha
  have HB := Lib.hid hb
  have LA := Lib.hid ha.len
  have LB := Lib.hid hb.len
  have h47 : n ≤ 9223372036854775807 := Nat.le_trans ha.cap ha.top
  clear ha hb
  by_cases hnm : n = m
  · have HNM := Lib.hid hnm
    have qn : ((n : Int) == (m : Int)) = true := beq_iff_eq.2 (by omega)
    have qn2 : ((n : Int) != (m : Int)) = false := by rw [bne, qn]; rfl
    clear hnm
    go_enter Tryd.func54, Tryd.ntmps54
    go_wp2_with fail
    go_loopw [13] (fun iv wr => ∃ k q : Nat, k ≤ n ∧ iv = .int .i64 (k : Int) ∧ wr = w.drewN q ∧ ∀ j, j < k → ts.getD j tk0 = us.getD j tk0) (fun iv _ => n - (intOf iv).toNat)
    case atStart => exact ⟨0, 0, Nat.zero_le _, rfl, rfl, fun j hj => absurd hj (by omega)⟩
    case round =>
      obtain ⟨k, q, hk, rfl, rfl, he⟩ := hrel
      have HE := Lib.hid he
      clear he
      by_cases hlt : k < n
      · have hkm : k < m := by have := HNM.out; omega
        obtain ⟨g, o, x, rfl, -, c0, c1, c2, c3, hx⟩ := HA.out.at_ hlt
        obtain ⟨g', o', y, rfl, -, d0, d1, d2, d3, hy⟩ := HB.out.at_ hkm
        obtain ⟨t, ht⟩ : ∃ t, ts.getD k tk0 = t := ⟨_, rfl⟩
        obtain ⟨u, hu⟩ : ∃ u, us.getD k tk0 = u := ⟨_, rfl⟩
        rw [ht] at c0 c2 c3
        rw [hu] at d0 d2 d3
        have hxt : x.data.toList = t.text := by rw [hx.out, ht]
        have hyt : y.data.toList = u.text := by rw [hy.out, hu]
        have HTK := Lib.hid ht
        have HUK := Lib.hid hu
        have r1 : (k : Int) < (n : Int) := by omega
        have r2 : (k : Int) < (m : Int) := by omega
        have r3 : (0 : Int) ≤ (k : Int) := by omega
        clear hx hy ht hu
        by_cases g1 : t.kind = u.kind
        · have t1 : (t.kind == u.kind) = true := beq_iff_eq.2 g1
          by_cases g2 : t.text = u.text
          · have t2 : (x.toList == y.toList) = true := by rw [tolist_eq, tolist_eq, hxt, hyt, g2]; exact beq_self_eq_true _
            by_cases g3 : t.n = u.n
            · have t3 : (t.n == u.n) = true := beq_iff_eq.2 g3
              by_cases g4 : t.line = u.line
              · have t4 : (t.line == u.line) = true := beq_iff_eq.2 g4
                have HEQ : Hid (ts.getD k tk0 = us.getD k tk0) := by
                  show _ = _
                  rw [HTK.out, HUK.out]
                  cases t; cases u; simp only at g1 g2 g3 g4; rw [g1, g2, g3, g4]
                clear g1 g2 g3 g4 hxt hyt
                go_wp2_with fail
                go_quiet (fail)
                go_wp2_with fail
                go_roundw
                case rel => exact ⟨k + 1, _, by omega, by go_num, rfl, fun j hj => by rcases Nat.lt_succ_iff_lt_or_eq.1 hj with h | h; exact HE.out j h; subst h; exact HEQ.out⟩
                case measure => simp [intOf] <;> omega
              · have t4 : (t.line == u.line) = false := beq_eq_false_iff_ne.2 g4
                have HF : Hid (sameB ts us = false) := same_bad (k := k) (by rw [HTK.out, HUK.out]; rintro rfl; exact g4 rfl)
                clear g1 g2 g3 g4 hxt hyt
                go_wp2_with fail
                go_quiet (fail)
                go_wp2_with fail
                go_ret
                exact ⟨nret_bool HF.out.symm, below_dn (below_dn (Below.refl _ _) _) _⟩
            · have t3 : (t.n == u.n) = false := beq_eq_false_iff_ne.2 g3
              have HF : Hid (sameB ts us = false) := same_bad (k := k) (by rw [HTK.out, HUK.out]; rintro rfl; exact g3 rfl)
              clear g1 g2 g3 hxt hyt
              go_wp2_with fail
              go_quiet (fail)
              go_wp2_with fail
              go_ret
              exact ⟨nret_bool HF.out.symm, below_dn (below_dn (Below.refl _ _) _) _⟩
          · have t2 : (x.toList == y.toList) = false := by rw [tolist_eq, tolist_eq, hxt, hyt]; exact beq_eq_false_iff_ne.2 g2
            have HF : Hid (sameB ts us = false) := same_bad (k := k) (by rw [HTK.out, HUK.out]; rintro rfl; exact g2 rfl)
            clear g1 g2 hxt hyt
            go_wp2_with fail
            go_quiet (fail)
            go_wp2_with fail
            go_ret
            exact ⟨nret_bool HF.out.symm, below_dn (below_dn (Below.refl _ _) _) _⟩
        · have t1 : (t.kind == u.kind) = false := beq_eq_false_iff_ne.2 g1
          have HF : Hid (sameB ts us = false) := same_bad (k := k) (by rw [HTK.out, HUK.out]; rintro rfl; exact g1 rfl)
          clear g1 hxt hyt
          go_wp2_with fail
          go_quiet (fail)
          go_wp2_with fail
          go_ret
          exact ⟨nret_bool HF.out.symm, below_dn (below_dn (Below.refl _ _) _) _⟩
      · have hke : k = n := by omega
        subst hke
        have HF : Hid (sameB ts us = true) := same_good (by rw [LA.out, LB.out]; exact HNM.out) (by rw [LA.out]; exact HE.out)
        go_wp2_with fail
        go_ret
        exact ⟨nret_bool HF.out.symm, below_dn (Below.refl _ _) _⟩
  · have HF : Hid (sameB ts us = false) := same_len (by rw [LA.out, LB.out]; exact hnm)
    have qn : ((n : Int) == (m : Int)) = false := beq_eq_false_iff_ne.2 (by omega)
    have qn2 : ((n : Int) != (m : Int)) = true := by rw [bne, qn]; rfl
    clear hnm
    go_enter Tryd.func54, Tryd.ntmps54
    go_wp2_with fail
    go_ret
    exact ⟨nret_bool HF.out.symm, Below.refl _ _⟩
theorem lsame_any (A : Option Addr) (n c : Nat) (ts : List Tk) (B : Option Addr) (m d : Nat) (us : List Tk) (w : World) (ha : Ts w A n c ts) (hb : Ts w B m d us) : Calls Tryd.prog 25 #[.slice A n c, .slice B m d] w fun e w' => e = .returned (.bool (sameB ts us)) ∧ Below w.heap.size w w' := by
  have CE := equal_any A n c ts B m d us w ha hb
  clear ha hb
  go_enter Tryd.func25, Tryd.ntmps25
  go_wp2_with fail
  (refine CE.mono ?_); rintro e w1 ⟨rfl, hb⟩
  have HB1 := Lib.hid hb
  clear hb CE
  go_wp2_with fail
  go_ret
  exact ⟨rfl, HB1.out⟩
end Go.Proofs.YtblakndpionmgaaDoor
