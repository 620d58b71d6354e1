/-
  Lines of the reference.
-/
import Derived.Test.YtblakndpionmgaaDoorLxM
import Derived.BigQuiet
namespace Go.Proofs.YtblakndpionmgaaDoor
open Go.RowKit

theorem linesI_len (xs : List Int) : (linesI xs).length ≤ xs.length := by
  have h : ∀ (xs acc : List Int), (xs.foldl addI acc).length ≤ acc.length + xs.length := by
    intro xs
    induction xs with
    | nil => intro acc; simp
    | cons x xs ih =>
      intro acc
      have h1 := ih (addI acc x)
      have h2 : (addI acc x).length ≤ acc.length + 1 := by unfold addI; split <;> simp
      rw [List.foldl_cons, List.length_cons]
      omega
  have := h xs []
  simpa [linesI] using this
theorem mem_linesX : ∀ {xs : List Int} {y : Int}, y ∈ linesI xs ↔ y ∈ xs := by
  have h : ∀ (xs acc : List Int) (y : Int), y ∈ xs.foldl addI acc ↔ y ∈ acc ∨ y ∈ xs := by
    intro xs
    induction xs with
    | nil => intro acc y; simp
    | cons x xs ih =>
      intro acc y
      have e : y ∈ addI acc x ↔ y ∈ acc ∨ y = x := by
        unfold addI
        split
        · rename_i h; exact ⟨.inl, fun e => e.elim id (fun e => e ▸ h)⟩
        · rw [List.mem_append, List.mem_singleton]
      rw [List.foldl_cons, ih, e, List.mem_cons, or_assoc]
  intro xs y
  unfold linesI
  rw [h]; simp
def knB (t : Tk) (l : List Tk) : Bool := (t.kind == 0) || decide (t.line ∈ keysL l)
theorem kn_nil (t : Tk) : knB t [] = (t.kind == 0) := by unfold knB keysL; simp
theorem kn_skip {t : Tk} {ts : List Tk} {k : Nat} (hk : k < ts.length) (h : (ts.getD k tk0).kind = 0) : knB t (ts.take (k + 1)) = knB t (ts.take k) := by unfold knB; rw [keys_skip hk h]
theorem kn_add {t : Tk} {ts : List Tk} {k : Nat} (hk : k < ts.length) (h : (ts.getD k tk0).kind ≠ 0) : knB t (ts.take (k + 1)) = (knB t (ts.take k) || decide (t.line = (ts.getD k tk0).line)) := by
  unfold knB
  rw [keys_add hk h, Bool.or_assoc]
  congr 1
  simp
theorem kn_more {t : Tk} {ts : List Tk} {k : Nat} (hk : k < ts.length) (h : knB t (ts.take k) = true) : knB t (ts.take (k + 1)) = true := by
  by_cases h0 : (ts.getD k tk0).kind = 0
  · rw [kn_skip hk h0]; exact h
  · rw [kn_add hk h0, h]; rfl
theorem kn_old {ts : List Tk} {k : Nat} (hk : k < ts.length) (h : knB (ts.getD k tk0) (ts.take k) = true) : (linesI (keysL (ts.take (k + 1)))).length = (linesI (keysL (ts.take k))).length := by
  by_cases h0 : (ts.getD k tk0).kind = 0
  · rw [keys_skip hk h0]
  · rw [keys_add hk h0]
    unfold knB at h
    rw [beq_eq_false_iff_ne.2 h0, Bool.false_or, decide_eq_true_iff] at h
    have : linesI (keysL (ts.take k) ++ [(ts.getD k tk0).line]) = addI (linesI (keysL (ts.take k))) (ts.getD k tk0).line := by unfold linesI; rw [List.foldl_append]; rfl
    rw [this]
    unfold addI
    rw [if_pos (mem_linesX.2 h)]
theorem kn_new {ts : List Tk} {k : Nat} (hk : k < ts.length) (h : knB (ts.getD k tk0) (ts.take k) = false) : (linesI (keysL (ts.take (k + 1)))).length = (linesI (keysL (ts.take k))).length + 1 := by
  unfold knB at h
  rw [Bool.or_eq_false_iff, beq_eq_false_iff_ne, decide_eq_false_iff_not] at h
  rw [keys_add hk h.1]
  have : linesI (keysL (ts.take k) ++ [(ts.getD k tk0).line]) = addI (linesI (keysL (ts.take k))) (ts.getD k tk0).line := by unfold linesI; rw [List.foldl_append]; rfl
  rw [this]
  unfold addI
  rw [if_neg (fun hm => h.2 (mem_linesX.1 hm))]
  simp
set_option maxRecDepth 100000 in
set_option maxHeartbeats 8000000 in
theorem xlines_any (A : Option Addr) (n c : Nat) (ts : List Tk) (w : World) (hs : Ts w A n c ts) (hn : n ≤ 1000000) : Calls Tryd.prog 27 #[.slice A n c] w fun e w' => e = .returned (.int .i64 ((linesN ts : Nat) : Int)) ∧ Below w.heap.size w w' := by
  have HTS := Lib.hid hs
  have HL := Lib.hid hs.len
  clear hs
  go_enter Tryd.func27, Tryd.ntmps27
  go_wp2_with fail
  go_loopw [3, 4] (fun cv iv wr => ∃ i q : Nat, i ≤ n ∧ iv = .int .i64 (i : Int) ∧ cv = .int .i64 (((linesI (keysL (ts.take i))).length : Nat) : Int) ∧ wr = w.drewN q) (fun _ iv _ => n - (intOf iv).toNat)
  case atStart => exact ⟨0, 0, Nat.zero_le _, rfl, rfl, rfl⟩
  case round =>
    obtain ⟨i, q, hi, rfl, rfl, rfl⟩ := hrel
    by_cases hlt : i < n
    · obtain ⟨g, o, x, rfl, -, c0, c1, c2, c3, -⟩ := HTS.out.at_ hlt
      have hkl : i < ts.length := by rw [HL.out]; exact hlt
      have hcl : (linesI (keysL (ts.take i))).length ≤ 1000000 := by
        have h1 := keys_len (ts.take i)
        have h2 := linesI_len (keysL (ts.take i))
        rw [List.length_take] at h1
        omega
      have HKL := Lib.hid hkl
      obtain ⟨t, ht⟩ : ∃ t, ts.getD i tk0 = t := ⟨_, rfl⟩
      rw [ht] at c0 c2 c3
      have HTK := Lib.hid ht
      obtain ⟨cn, hcn⟩ : ∃ cn, (linesI (keysL (ts.take i))).length = cn := ⟨_, rfl⟩
      rw [hcn] at hcl ⊢
      have HCN := Lib.hid hcn
      have r1 : (i : Int) < (n : Int) := by omega
      clear hkl ht hcn
      go_wp2_with fail
      go_loopw [5, 6] (fun kv jv wr => ∃ j q : Nat, j ≤ i ∧ jv = .int .i64 (j : Int) ∧ kv = .bool (knB t (ts.take j)) ∧ wr = w.drewN q) (fun _ jv _ => i - (intOf jv).toNat)
      case atStart => exact ⟨0, _, Nat.zero_le _, rfl, by rw [List.take_zero, kn_nil], rfl⟩
      case round =>
        obtain ⟨j, q2, hj, rfl, rfl, rfl⟩ := hrel
        by_cases hji : j < i
        · obtain ⟨g2, o2, x2, hgo, -, d0, d1, d2, d3, -⟩ := HTS.out.at_ (k := j) (by omega)
          cases hgo
          have hjl : j < ts.length := by rw [HL.out]; omega
          have HJL := Lib.hid hjl
          obtain ⟨u, hu⟩ : ∃ u, ts.getD j tk0 = u := ⟨_, rfl⟩
          rw [hu] at d0 d2 d3
          have HU := Lib.hid hu
          have s1 : (j : Int) < (i : Int) := by omega
          have s2 : (j : Int) < (n : Int) := by omega
          clear hjl hu
          cases hkn : knB t (ts.take j) with
          | true =>
            have HN : Hid (knB t (ts.take (j + 1)) = true) := kn_more HJL.out hkn
            clear hkn
            go_upto_region 9 with fail
            go_quiet (fail)
            go_wp2_with fail
            go_roundw
            case rel => exact ⟨j + 1, _, by omega, by go_num, by rw [HN.out], rfl⟩
            case measure => simp [intOf] <;> omega
          | false =>
            by_cases hu0 : u.kind = 0
            · have gk : (u.kind == 0) = true := by rw [hu0]; rfl
              have gk2 : (u.kind != 0) = false := by rw [bne, gk]; rfl
              have HN : Hid (knB t (ts.take (j + 1)) = false) := by show _ = _; rw [kn_skip HJL.out (by rw [HU.out]; exact hu0)]; exact hkn
              clear hkn hu0
              go_upto_region 9 with fail
              go_quiet (fail)
              go_wp2_with fail
              go_roundw
              case rel => exact ⟨j + 1, _, by omega, by go_num, by rw [HN.out], rfl⟩
              case measure => simp [intOf] <;> omega
            · have gk : (u.kind == 0) = false := beq_eq_false_iff_ne.2 hu0
              have gk2 : (u.kind != 0) = true := by rw [bne, gk]; rfl
              by_cases hul : u.line = t.line
              · have gl : (u.line == t.line) = true := beq_iff_eq.2 hul
                have HN : Hid (knB t (ts.take (j + 1)) = true) := by show _ = _; rw [kn_add HJL.out (by rw [HU.out]; exact hu0), HU.out, decide_eq_true hul.symm, Bool.or_true]
                clear hkn hu0 hul
                go_upto_region 9 with fail
                go_quiet (fail)
                go_wp2_with fail
                go_roundw
                case rel => exact ⟨j + 1, _, by omega, by go_num, by rw [HN.out], rfl⟩
                case measure => simp [intOf] <;> omega
              · have gl : (u.line == t.line) = false := beq_eq_false_iff_ne.2 hul
                have HN : Hid (knB t (ts.take (j + 1)) = false) := by show _ = _; rw [kn_add HJL.out (by rw [HU.out]; exact hu0), HU.out, decide_eq_false (fun e => hul e.symm), hkn]; rfl
                clear hkn hu0 hul
                go_upto_region 9 with fail
                go_quiet (fail)
                go_wp2_with fail
                go_roundw
                case rel => exact ⟨j + 1, _, by omega, by go_num, by rw [HN.out], rfl⟩
                case measure => simp [intOf] <;> omega
        · have hje : j = i := by omega
          subst hje
          have s1 : ¬ (j : Int) < (j : Int) := by omega
          cases hkn : knB t (ts.take j) with
          | true =>
            have HC : Hid ((linesI (keysL (ts.take (j + 1)))).length = cn) := by show _ = _; rw [kn_old HKL.out (by rw [HTK.out]; exact hkn)]; exact HCN.out
            clear hkn
            go_wp2_with fail
            go_roundw
            case rel => exact ⟨j + 1, _, by omega, by go_num, by rw [HC.out], rfl⟩
            case measure => simp [intOf] <;> omega
          | false =>
            have HC : Hid ((linesI (keysL (ts.take (j + 1)))).length = cn + 1) := by show _ = _; rw [kn_new HKL.out (by rw [HTK.out]; exact hkn), HCN.out]
            clear hkn
            go_wp2_with fail
            go_roundw
            case rel => exact ⟨j + 1, _, by omega, by go_num, by rw [HC.out, Int.natCast_add, Int.natCast_one], rfl⟩
            case measure => simp [intOf] <;> omega
    · have hke : i = n := by omega
      have HCE : Hid ((linesI (keysL (ts.take i))).length = linesN ts) := by
        show _ = _
        rw [hke, List.take_of_length_le (by rw [HL.out]; exact Nat.le_refl _)]; rfl
      have r1 : ¬ (i : Int) < (n : Int) := by omega
      clear hke
      go_wp2_with fail
      go_ret
      exact ⟨nret_int (by rw [HCE.out]), below_dn (Below.refl _ _) _⟩
end Go.Proofs.YtblakndpionmgaaDoor
