/-
  Find, Distinct and setOf.
-/
import Derived.Test.YtblakndpionmgaaDoorNmM
namespace Go.Proofs.YtblakndpionmgaaDoor
open Go.RowKit


theorem find_any (A : Option Addr) (n c : Nat) (ss : List Txt) (s : ByteArray) (w : World) (hs : Ss w A n c ss) : Calls Tryd.prog 31 #[.slice A n c, .string s] w fun e w' => e = .returned (.int .i64 (findI ss s.data.toList)) ∧ w = w' := by
  have HS := Lib.hid hs
  have h47 : n ≤ 9223372036854775807 := Nat.le_trans hs.cap hs.top
  clear hs
  go_enter Tryd.func31, Tryd.ntmps31
  go_wp2_with fail
  go_loop [9] (fun i => ∃ k : Nat, k ≤ n ∧ i = .int .i64 (k : Int) ∧ s.data.toList ∉ ss.take k) (fun i => n - (intOf i).toNat)
  case atStart => exact ⟨0, Nat.zero_le _, rfl, by simp⟩
  case round =>
    obtain ⟨k, hk, rfl, ha⟩ := hrel
    have HA := Lib.hid ha
    clear ha
    by_cases hlt : k < n
    · obtain ⟨g, o, x, rfl, hg, hc, hx⟩ := HS.out.at_ hlt
      have HX := Lib.hid hx.out
      have HLT := Lib.hid hlt
      have q1 : (k : Int) < n := by omega
      clear hx hg
      cases hd : decide (s.data.toList = ss.getD k []) with
      | true =>
        have HD := Lib.hid hd
        have TB := txt_beq HX.out hd
        clear hd
        go_wp2_with fail
        go_ret
        exact ⟨nret_int (findI_at (by rw [HS.out.len]; exact HLT.out) (of_decide_eq_true HD.out).symm HA.out).symm, rfl⟩
      | false =>
        have HD := Lib.hid hd
        have TB := txt_beq HX.out hd
        clear hd
        go_wp2_with fail
        go_round
        case rel => exact ⟨k + 1, by omega, by go_num, not_mem_snoc (by rw [HS.out.len]; exact HLT.out) (fun e => of_decide_eq_false HD.out e.symm) HA.out⟩
        case measure => simp [intOf] <;> omega
    · have hke : k = n := by omega
      subst hke
      go_wp2_with fail
      go_ret
      exact ⟨nret_int (findI_no (by have := HA.out; rwa [List.take_of_length_le (by rw [HS.out.len]; exact Nat.le_refl _)] at this)).symm, rfl⟩

theorem take_snoc {l : List Txt} {k : Nat} (hk : k < l.length) : l.take (k + 1) = l.take k ++ [l.getD k []] := by
  rw [List.take_succ_eq_append_getElem hk]; simp [List.getD, hk]
theorem nodup_snoc {l : List Txt} {k : Nat} (hk : k < l.length) (h : (l.take k).Nodup) (hn : l.getD k [] ∉ l.take k) : (l.take (k + 1)).Nodup := by
  rw [take_snoc hk]
  refine List.nodup_append.2 ⟨h, by simp, ?_⟩
  intro a ha b hb e
  rw [List.mem_singleton.1 hb] at e
  exact hn (e ▸ ha)
theorem not_nodup {l : List Txt} {k : Nat} (hk : k < l.length) (hn : l.getD k [] ∈ l.take k) : ¬ l.Nodup := by
  intro h
  have h2 : (l.take (k + 1)).Nodup := h.sublist (List.take_sublist _ _)
  rw [take_snoc hk] at h2
  exact (List.nodup_append.1 h2).2.2 _ hn _ (by simp) rfl
theorem getD_mem {l : List Txt} {k : Nat} (hk : k < l.length) : l.getD k [] ∈ l := by
  have : l.getD k [] = l[k] := by simp [List.getD, hk]
  rw [this]; exact List.getElem_mem _
/-- No text is longer than memory. -/
def Fit_ (ss : List Txt) : Prop := ∀ y ∈ ss, y.length ≤ maxLen
theorem Fit_.at_ {ss : List Txt} (h : Fit_ ss) {k : Nat} (hk : k < ss.length) {x : ByteArray} (hx : x.data.toList = ss.getD k []) : x.size ≤ maxLen := by
  rw [size_list, hx]; exact h _ (getD_mem hk)
def ndB (l : List Txt) : Bool := decide l.Nodup

/-- The cells from ⟨g, o⟩ on hold slices that read as these lists of texts. -/
structure Rows_ (w : World) (g o m : Nat) (rs : List (List Txt)) : Prop where
  len : rs.length = m
  lt : g < w.heap.size
  cells : ∀ k, k < m → ∃ A n c, w.cell? ⟨g, o + k, none⟩ = some (.slice A n c) ∧ Ss w A n c (rs.getD k []) ∧ Fit_ (rs.getD k [])
theorem Rows_.below {w w' : World} {g o m : Nat} {rs : List (List Txt)} (h : Rows_ w g o m rs) (hb : Below w.heap.size w w') : Rows_ w' g o m rs :=
  ⟨h.len, Nat.lt_of_lt_of_le h.lt hb.size, fun k hk => by
    obtain ⟨A, n, c, h1, h2, h3⟩ := h.cells k hk
    exact ⟨A, n, c, (hb.cell h.lt).trans h1, h2.below hb, h3⟩⟩
theorem flat_snoc {rs : List (List Txt)} {k : Nat} (hk : k < rs.length) : (rs.take (k + 1)).flatten = (rs.take k).flatten ++ rs.getD k [] := by
  rw [List.take_succ_eq_append_getElem hk, List.flatten_append]; simp [List.getD, hk]
theorem flat_le {rs : List (List Txt)} {k j : Nat} (hk : k < rs.length) (hj : j ≤ (rs.getD k []).length) : ((rs.take k).flatten ++ (rs.getD k []).take j).length ≤ rs.flatten.length := by
  have h1 : rs.flatten = (rs.take (k + 1)).flatten ++ (rs.drop (k + 1)).flatten := by rw [← List.flatten_append, List.take_append_drop]
  rw [h1, flat_snoc hk]
  simp only [List.length_append, List.length_take]
  omega

set_option maxHeartbeats 1000000 in
theorem setof_any (g o m c0 : Nat) (rs : List (List Txt)) (w : World) (hr : Rows_ w g o m rs) (hm47 : m ≤ 9223372036854775807) (ht : rs.flatten.length < maxLen) : Calls Tryd.prog 55 #[.slice (some ⟨g, o, none⟩) m c0] w fun e w' => e = .returned (.map (some w.heap.size)) ∧ Ms w' w.heap.size rs.flatten ∧ Below w.heap.size w w' := by
  have HR := Lib.hid hr
  have HL := Lib.hid hr.len
  have HT := Lib.hid ht
  have RM := run_makeMap (P := Tryd.prog) 68 w
  clear hr ht
  go_enter Tryd.func55, Tryd.ntmps55
  go_wp2_with fail
  go_loopw [11] (fun i wr => ∃ k : Nat, k ≤ m ∧ i = .int .i64 (k : Int) ∧ Ms wr w.heap.size (rs.take k).flatten ∧ Below w.heap.size w wr) (fun i _ => m - (intOf i).toNat)
  case atStart => exact ⟨0, Nat.zero_le _, rfl, Ms.made w, (Below.refl _ _).alloc (Nat.le_refl _) _⟩
  case round =>
    obtain ⟨k, hk, rfl, hm, hb⟩ := hrel
    have HM := Lib.hid hm
    have HB := Lib.hid hb
    have HRR := Lib.hid (HR.out.below hb)
    clear hm hb RM
    by_cases hlt : k < m
    · obtain ⟨A, n, c, hc0, hs, hf⟩ := HR.out.cells k hlt
      have hc := (HB.out.cell (p := ⟨g, o + k, none⟩) HR.out.lt).trans hc0
      clear hc0 HRR
      have HKL : Hid (k < rs.length) := by show k < _; rw [HL.out]; exact hlt
      have HS := Lib.hid hs
      have HF := Lib.hid hf
      have HSL := Lib.hid hs.len
      have h47 : n ≤ 9223372036854775807 := Nat.le_trans hs.cap hs.top
      have q1 : (k : Int) < m := by omega
      clear hs hf
      go_wp2_with fail
      clear hc
      go_loopw [17] (fun i wr2 => ∃ j : Nat, j ≤ n ∧ i = .int .i64 (j : Int) ∧ Ms wr2 w.heap.size ((rs.take k).flatten ++ (rs.getD k []).take j) ∧ Below w.heap.size w wr2) (fun i _ => n - (intOf i).toNat)
      case atStart => exact ⟨0, Nat.zero_le _, rfl, by simpa using HM.out, HB.out⟩
      case round =>
        obtain ⟨j, hj, rfl, hm, hb⟩ := hrel
        have HM2 := Lib.hid hm
        have HB2 := Lib.hid hb
        have HS2 := Lib.hid (HS.out.below hb)
        clear hm hb
        by_cases hlj : j < n
        · obtain ⟨g2, o2, x, rfl, hg, hc, hx⟩ := HS2.out.at_ hlj
          have hkl : j < (rs.getD k []).length := by rw [HSL.out]; exact hlj
          have hxs := HF.out.at_ hkl hx.out
          have HX := Lib.hid hx.out
          have q2 : (j : Int) < n := by omega
          obtain ⟨w2, RU, hm2, hg2⟩ := HM2.out.put (Nat.lt_of_le_of_lt (flat_le HKL.out (Nat.le_of_lt hkl)) HT.out) x hxs
          rw [HX.out, List.append_assoc, ← take_snoc hkl] at hm2
          have HM3 := Lib.hid hm2
          have HB3 : Hid (Below w.heap.size w w2) := HB2.out.grown hg2 HB2.out.size (fun k e => by cases e; exact Nat.le_refl _)
          clear hxs hm2 hg2 hx hg hkl
          go_wp2_with fail
          go_round
          case rel => exact ⟨j + 1, by omega, by go_num, HM3.out, HB3.out⟩
          case measure => simp [intOf] <;> omega
        · have hke : j = n := by omega
          subst hke
          have q2 : ¬ (j : Int) < j := by omega
          have hm3 := HM2.out
          rw [List.take_of_length_le (l := rs.getD k []) (by rw [HSL.out]; exact Nat.le_refl _), ← flat_snoc HKL.out] at hm3
          have HM3 := Lib.hid hm3
          clear hm3
          go_wp2_with fail
          go_round
          case rel => exact ⟨k + 1, by omega, by go_num, HM3.out, HB2.out⟩
          case measure => simp [intOf] <;> omega
    · have hke : k = m := by omega
      subst hke
      go_wp2_with fail
      go_ret
      exact ⟨rfl, by have := HM.out; rwa [List.take_of_length_le (by rw [HL.out]; exact Nat.le_refl _)] at this, HB.out⟩
end Go.Proofs.YtblakndpionmgaaDoor
