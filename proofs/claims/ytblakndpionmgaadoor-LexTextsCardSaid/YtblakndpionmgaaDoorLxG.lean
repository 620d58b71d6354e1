/-
  Contracts of run and gap.
-/
import Derived.Test.YtblakndpionmgaaDoorLxW
import Derived.Laws.RangeAny
import Derived.LoopTactic
namespace Go.Proofs.YtblakndpionmgaaDoor
open Go.RowKit

/-- What stands at a place of a text, and what a range over it meets there. -/
theorem bdrop_at {s : ByteArray} {k : Nat} (h : k < s.size) : s.data.toList.drop k = s[k] :: s.data.toList.drop (k + 1) := by
  rw [List.drop_eq_getElem_cons (by rw [← size_list]; exact h)]; rfl
theorem dec_span (s : ByteArray) (pos : Nat) (h : pos < s.size) (ha : 128 ≤ (s[pos]'h).toNat) : ∀ j, j < (Utf8.decode s pos).2 → pos + j < s.size ∧ 128 ≤ (s.get! (pos + j)).toNat := by
  have hn : ¬ (s[pos]'h).toNat < 128 := by omega
  intro j hj
  rcases Nat.eq_zero_or_pos j with rfl | h0
  · rw [get_at s pos h]; exact ⟨h, ha⟩
  · simp only [Utf8.decode, get_at s pos h, hn, if_false] at hj
    repeat' split at hj
    all_goals simp_all
    all_goals first | omega | skip
    · have : j = 1 := by omega
      subst this; omega
    · have : j = 1 ∨ j = 2 := by omega
      rcases this with rfl | rfl <;> omega
    · have : j = 1 ∨ j = 2 ∨ j = 3 := by omega
      rcases this with rfl | rfl | rfl <;> omega
theorem get_list (s : ByteArray) {k : Nat} (h : k < s.size) : s.get! k = s.data.toList[k]'(by rw [← size_list]; exact h) := by
  have := get_at s k h
  rw [Nat.add_zero] at this
  rw [this]; rfl
theorem next_low (w : World) (s : ByteArray) (pos : Nat) (h : pos < s.size) (ha : s[pos].toNat < 128) : ∀ ty, (Instr.next (.pointer (some ⟨w.heap.size, 0, none⟩)) true ty).run Tryd.prog (w.iter s pos) = .ok (.tuple #[.bool true, .int .i64 pos, .int .i32 (s[pos].toNat : Int)]) (w.iter s (pos + 1)) := fun ty => run_next_ascii w s pos ty h ha
theorem next_high (w : World) (s : ByteArray) (pos : Nat) (h : pos < s.size) (ha : ¬ s[pos].toNat < 128) : ∃ r d : Nat, 128 ≤ r ∧ 1 ≤ d ∧ pos + d ≤ s.size ∧ (∀ x ∈ (s.data.toList.drop pos).take d, 128 ≤ x.toNat) ∧ ∀ ty, (Instr.next (.pointer (some ⟨w.heap.size, 0, none⟩)) true ty).run Tryd.prog (w.iter s pos) = .ok (.tuple #[.bool true, .int .i64 pos, .int .i32 (r : Int)]) (w.iter s (pos + d)) := by
  obtain ⟨h1, h2⟩ := decode_high s pos h (by omega)
  have h3 := dec_span s pos h (by omega)
  refine ⟨_, _, h1, h2, ?_, ?_, fun ty => run_next_any w s pos ty h⟩
  · have := (h3 ((Utf8.decode s pos).2 - 1) (by omega)).1
    omega
  · intro x hx
    obtain ⟨j, hj, rfl⟩ := List.mem_iff_getElem.1 hx
    rw [List.length_take, List.length_drop] at hj
    obtain ⟨h4, h5⟩ := h3 j (by omega)
    rw [get_list s h4] at h5
    rw [List.getElem_take, List.getElem_drop]
    exact h5
theorem tw_at {s : ByteArray} {p : UInt8 → Bool} {k : Nat} (h : k < s.size) (ha : (s.data.toList.take k).all p = true) (hp : p s[k] = false) : (s.data.toList.takeWhile p).length = k := by
  have e : s.data.toList = s.data.toList.take k ++ s[k] :: s.data.toList.drop (k + 1) := by rw [← bdrop_at h, List.take_append_drop]
  rw [e, List.takeWhile_append_of_pos (by intro a hm; exact List.all_eq_true.1 ha a hm), List.takeWhile_cons_of_neg (by rw [hp]; simp)]
  rw [List.append_nil, List.length_take, ← size_list]; omega
theorem tw_all {p : UInt8 → Bool} {l : Txt} (h : l.all p = true) : l.takeWhile p = l := by
  have := List.takeWhile_append_of_pos (p := p) (l₁ := l) (l₂ := []) (fun a hm => List.all_eq_true.1 h a hm)
  simpa using this
theorem gap_high {a r : Txt} (h : ∀ x ∈ a, 128 ≤ x.toNat) : gapN true (a ++ r) = a.length + gapN true r := by
  induction a with
  | nil => simp
  | cons c a ih =>
    have hc := h c (by simp)
    have h10 : c ≠ 10 := by rintro rfl; revert hc; decide
    have h35 : c ≠ 35 := by rintro rfl; revert hc; decide
    rw [List.cons_append, gapN, if_neg h10, if_neg h35, if_neg (by rintro ⟨e, _⟩; cases e), ih (fun x hx => h x (by simp [hx]))]
    simp; omega
set_option maxRecDepth 100000 in
theorem run_id_any (s : ByteArray) (w : World) : Calls Tryd.prog 70 #[.string s, .func (.func 71) #[] #[]] w fun e w' => e = .returned (.int .i64 (((s.data.toList.takeWhile idB).length : Nat) : Int)) ∧ ∃ pos, w' = w.iter s pos := by
  go_enter Tryd.func70, Tryd.ntmps70
  go_wp2_with fail
  go_loopw [4] (fun v wr => ∃ pos : Nat, pos ≤ s.size ∧ wr = w.iter s pos ∧ v = .int .i64 0 ∧ (s.data.toList.take pos).all idB = true) (fun _ wr => s.size - wr.iterPos w.heap.size)
  case atStart => exact ⟨0, Nat.zero_le _, rfl, rfl, by simp⟩
  case round =>
    obtain ⟨pos, hpos, rfl, rfl, ha⟩ := hrel
    have HA := Lib.hid ha
    clear ha
    by_cases hp : pos < s.size
    · by_cases hlow : s[pos].toNat < 128
      · have hnx := next_low w s pos hp hlow
        cases hb : idN s[pos].toNat with
        | true =>
          have HB := Lib.hid hb
          have HAS : Hid ((s.data.toList.take (pos + 1)).all idB = true) := by
            show _ = true
            rw [all_snoc hp, HA.out, ← id_n, hb]; rfl
          clear hb hlow
          go_wp2_with fail
          ((with_reducible refine (lid_any _ _).mono ?_); rintro e wx ⟨rfl, rfl⟩)
          rw [HB.out]
          go_wp2_with fail
          go_roundw
          case rel => exact ⟨pos + 1, by omega, rfl, rfl, HAS.out⟩
          case measure => simp <;> omega
        | false =>
          have HB := Lib.hid hb
          have HR := Lib.hid (tw_at hp HA.out (by rw [← id_n]; exact hb))
          clear hb hlow
          go_wp2_with fail
          ((with_reducible refine (lid_any _ _).mono ?_); rintro e wx ⟨rfl, rfl⟩)
          rw [HB.out]
          go_wp2_with fail
          go_ret
          exact ⟨nret_int (by rw [HR.out]), _, rfl⟩
      · obtain ⟨r, d, hr, hd, hds, hall, hnx⟩ := next_high w s pos hp hlow
        have HB := Lib.hid ((high_n hr).2.2.2)
        have HR := Lib.hid (tw_at (p := idB) hp HA.out (by rw [← id_n]; exact (high_n (by omega)).2.2.2))
        clear hlow hr hd hds hall
        go_wp2_with fail
        ((with_reducible refine (lid_any _ _).mono ?_); rintro e wx ⟨rfl, rfl⟩)
        rw [HB.out]
        go_wp2_with fail
        go_ret
        exact ⟨nret_int (by rw [HR.out]), _, rfl⟩
    · have hnx : ∀ ty, (Instr.next (.pointer (some ⟨w.heap.size, 0, none⟩)) true ty).run Tryd.prog (w.iter s pos) = _ := fun ty => run_next_end w s pos ty hp
      have hR : Hid ((((s.data.toList.takeWhile idB).length : Nat) : Int) = (s.size : Int)) := by
        have h1 := HA.out
        rw [List.take_of_length_le (by rw [← size_list]; omega)] at h1
        show _ = _
        rw [tw_all h1, size_list]
      go_wp2_with fail
      go_ret
      exact ⟨nret_int (by rw [hR.out]), _, rfl⟩
set_option maxRecDepth 100000 in
theorem run_dg_any (s : ByteArray) (w : World) : Calls Tryd.prog 70 #[.string s, .func (.func 73) #[] #[]] w fun e w' => e = .returned (.int .i64 (((s.data.toList.takeWhile dgB).length : Nat) : Int)) ∧ ∃ pos, w' = w.iter s pos := by
  go_enter Tryd.func70, Tryd.ntmps70
  go_wp2_with fail
  go_loopw [4] (fun v wr => ∃ pos : Nat, pos ≤ s.size ∧ wr = w.iter s pos ∧ v = .int .i64 0 ∧ (s.data.toList.take pos).all dgB = true) (fun _ wr => s.size - wr.iterPos w.heap.size)
  case atStart => exact ⟨0, Nat.zero_le _, rfl, rfl, by simp⟩
  case round =>
    obtain ⟨pos, hpos, rfl, rfl, ha⟩ := hrel
    have HA := Lib.hid ha
    clear ha
    by_cases hp : pos < s.size
    · by_cases hlow : s[pos].toNat < 128
      · have hnx := next_low w s pos hp hlow
        cases hb : dgN s[pos].toNat with
        | true =>
          have HB := Lib.hid hb
          have HAS : Hid ((s.data.toList.take (pos + 1)).all dgB = true) := by
            show _ = true
            rw [all_snoc hp, HA.out, ← dg_n, hb]; rfl
          clear hb hlow
          go_wp2_with fail
          ((with_reducible refine (ldg_any _ _).mono ?_); rintro e wx ⟨rfl, rfl⟩)
          rw [HB.out]
          go_wp2_with fail
          go_roundw
          case rel => exact ⟨pos + 1, by omega, rfl, rfl, HAS.out⟩
          case measure => simp <;> omega
        | false =>
          have HB := Lib.hid hb
          have HR := Lib.hid (tw_at hp HA.out (by rw [← dg_n]; exact hb))
          clear hb hlow
          go_wp2_with fail
          ((with_reducible refine (ldg_any _ _).mono ?_); rintro e wx ⟨rfl, rfl⟩)
          rw [HB.out]
          go_wp2_with fail
          go_ret
          exact ⟨nret_int (by rw [HR.out]), _, rfl⟩
      · obtain ⟨r, d, hr, hd, hds, hall, hnx⟩ := next_high w s pos hp hlow
        have HB := Lib.hid ((high_n hr).2.2.1)
        have HR := Lib.hid (tw_at (p := dgB) hp HA.out (by rw [← dg_n]; exact (high_n (by omega)).2.2.1))
        clear hlow hr hd hds hall
        go_wp2_with fail
        ((with_reducible refine (ldg_any _ _).mono ?_); rintro e wx ⟨rfl, rfl⟩)
        rw [HB.out]
        go_wp2_with fail
        go_ret
        exact ⟨nret_int (by rw [HR.out]), _, rfl⟩
    · have hnx : ∀ ty, (Instr.next (.pointer (some ⟨w.heap.size, 0, none⟩)) true ty).run Tryd.prog (w.iter s pos) = _ := fun ty => run_next_end w s pos ty hp
      have hR : Hid ((((s.data.toList.takeWhile dgB).length : Nat) : Int) = (s.size : Int)) := by
        have h1 := HA.out
        rw [List.take_of_length_le (by rw [← size_list]; omega)] at h1
        show _ = _
        rw [tw_all h1, size_list]
      go_wp2_with fail
      go_ret
      exact ⟨nret_int (by rw [hR.out]), _, rfl⟩
set_option maxRecDepth 100000 in
set_option maxHeartbeats 2000000 in
theorem gap_any (s : ByteArray) (w : World) : Calls Tryd.prog 43 #[.string s] w fun e w' => e = .returned (.int .i64 ((gapN false s.data.toList : Nat) : Int)) ∧ ∃ pos, w' = w.iter s pos := by
  go_enter Tryd.func43, Tryd.ntmps43
  go_wp2_with fail
  go_loopw [3] (fun v wr => ∃ (pos : Nat) (cm : Bool), pos ≤ s.size ∧ wr = w.iter s pos ∧ v = .bool cm ∧ gapN false s.data.toList = pos + gapN cm (s.data.toList.drop pos)) (fun _ wr => s.size - wr.iterPos w.heap.size)
  case atStart => exact ⟨0, false, Nat.zero_le _, rfl, rfl, by simp⟩
  case round =>
    obtain ⟨pos, cm, hpos, rfl, rfl, hg⟩ := hrel
    have HGP := Lib.hid hg
    clear hg
    by_cases hp : pos < s.size
    · by_cases hlow : s[pos].toNat < 128
      · have hnx := next_low w s pos hp hlow
        cases cm with
        | true =>
          clear hlow
          cases h10 : (s[pos] == (10 : UInt8)) with
          | true =>
            have HG : Hid (gapN false s.data.toList = (pos + 1) + gapN false (s.data.toList.drop (pos + 1))) := by
              show _ = _
              rw [HGP.out, bdrop_at hp]
              rw [gapN, if_pos (beq_iff_eq.1 h10)]; omega
            have q10 : ((s[pos].toNat : Int) == 10) = true := beq_u8 (n := 10) (by omega) h10
            clear h10
            go_wp2_with fail
            go_roundw
            case rel => exact ⟨pos + 1, false, by omega, rfl, rfl, HG.out⟩
            case measure => simp <;> omega
          | false =>
            cases h35 : (s[pos] == (35 : UInt8)) with
            | true =>
              have HG : Hid (gapN false s.data.toList = (pos + 1) + gapN true (s.data.toList.drop (pos + 1))) := by
                show _ = _
                rw [HGP.out, bdrop_at hp]
                rw [gapN, if_neg (beq_eq_false_iff_ne.1 h10), if_pos (beq_iff_eq.1 h35)]; omega
              have q10 : ((s[pos].toNat : Int) == 10) = false := beq_u8 (n := 10) (by omega) h10
              have q35 : ((s[pos].toNat : Int) == 35) = true := beq_u8 (n := 35) (by omega) h35
              clear h10 h35
              go_wp2_with fail
              go_roundw
              case rel => exact ⟨pos + 1, true, by omega, rfl, rfl, HG.out⟩
              case measure => simp <;> omega
            | false =>
              have HG : Hid (gapN false s.data.toList = (pos + 1) + gapN true (s.data.toList.drop (pos + 1))) := by
                show _ = _
                rw [HGP.out, bdrop_at hp]
                rw [gapN, if_neg (beq_eq_false_iff_ne.1 h10), if_neg (beq_eq_false_iff_ne.1 h35), if_neg (by rintro ⟨e, _⟩; cases e)]; omega
              have q10 : ((s[pos].toNat : Int) == 10) = false := beq_u8 (n := 10) (by omega) h10
              have q35 : ((s[pos].toNat : Int) == 35) = false := beq_u8 (n := 35) (by omega) h35
              clear h10 h35
              go_wp2_with fail
              go_roundw
              case rel => exact ⟨pos + 1, true, by omega, rfl, rfl, HG.out⟩
              case measure => simp <;> omega
        | false =>
          clear hlow
          cases h10 : (s[pos] == (10 : UInt8)) with
          | true =>
            have HG : Hid (gapN false s.data.toList = (pos + 1) + gapN false (s.data.toList.drop (pos + 1))) := by
              show _ = _
              rw [HGP.out, bdrop_at hp]
              rw [gapN, if_pos (beq_iff_eq.1 h10)]; omega
            have q10 : ((s[pos].toNat : Int) == 10) = true := beq_u8 (n := 10) (by omega) h10
            clear h10
            go_wp2_with fail
            go_roundw
            case rel => exact ⟨pos + 1, false, by omega, rfl, rfl, HG.out⟩
            case measure => simp <;> omega
          | false =>
            cases h35 : (s[pos] == (35 : UInt8)) with
            | true =>
              have HG : Hid (gapN false s.data.toList = (pos + 1) + gapN true (s.data.toList.drop (pos + 1))) := by
                show _ = _
                rw [HGP.out, bdrop_at hp]
                rw [gapN, if_neg (beq_eq_false_iff_ne.1 h10), if_pos (beq_iff_eq.1 h35)]; omega
              have q10 : ((s[pos].toNat : Int) == 10) = false := beq_u8 (n := 10) (by omega) h10
              have q35 : ((s[pos].toNat : Int) == 35) = true := beq_u8 (n := 35) (by omega) h35
              clear h10 h35
              go_wp2_with fail
              go_roundw
              case rel => exact ⟨pos + 1, true, by omega, rfl, rfl, HG.out⟩
              case measure => simp <;> omega
            | false =>
              cases h32 : (s[pos] == (32 : UInt8)) with
              | true =>
                have HG : Hid (gapN false s.data.toList = (pos + 1) + gapN false (s.data.toList.drop (pos + 1))) := by
                  show _ = _
                  rw [HGP.out, bdrop_at hp]
                  rw [gapN, if_neg (beq_eq_false_iff_ne.1 h10), if_neg (beq_eq_false_iff_ne.1 h35), if_neg (by rintro ⟨_, e, _⟩; exact e (beq_iff_eq.1 h32))]; omega
                have q10 : ((s[pos].toNat : Int) == 10) = false := beq_u8 (n := 10) (by omega) h10
                have q35 : ((s[pos].toNat : Int) == 35) = false := beq_u8 (n := 35) (by omega) h35
                have q32 : ((s[pos].toNat : Int) == 32) = true := beq_u8 (n := 32) (by omega) h32
                have n32 : ((s[pos].toNat : Int) != 32) = false := by rw [bne, q32]; rfl
                clear h10 h35 h32
                go_wp2_with fail
                go_roundw
                case rel => exact ⟨pos + 1, false, by omega, rfl, rfl, HG.out⟩
                case measure => simp <;> omega
              | false =>
                cases h9 : (s[pos] == (9 : UInt8)) with
                | true =>
                  have HG : Hid (gapN false s.data.toList = (pos + 1) + gapN false (s.data.toList.drop (pos + 1))) := by
                    show _ = _
                    rw [HGP.out, bdrop_at hp]
                    rw [gapN, if_neg (beq_eq_false_iff_ne.1 h10), if_neg (beq_eq_false_iff_ne.1 h35), if_neg (by rintro ⟨_, _, e⟩; exact e (beq_iff_eq.1 h9))]; omega
                  have q10 : ((s[pos].toNat : Int) == 10) = false := beq_u8 (n := 10) (by omega) h10
                  have q35 : ((s[pos].toNat : Int) == 35) = false := beq_u8 (n := 35) (by omega) h35
                  have q32 : ((s[pos].toNat : Int) == 32) = false := beq_u8 (n := 32) (by omega) h32
                  have n32 : ((s[pos].toNat : Int) != 32) = true := by rw [bne, q32]; rfl
                  have q9 : ((s[pos].toNat : Int) == 9) = true := beq_u8 (n := 9) (by omega) h9
                  have n9 : ((s[pos].toNat : Int) != 9) = false := by rw [bne, q9]; rfl
                  clear h10 h35 h32 h9
                  go_wp2_with fail
                  go_roundw
                  case rel => exact ⟨pos + 1, false, by omega, rfl, rfl, HG.out⟩
                  case measure => simp <;> omega
                | false =>
                  have HG : Hid (gapN false s.data.toList = pos) := by
                    show _ = _
                    rw [HGP.out, bdrop_at hp]
                    rw [gapN, if_neg (beq_eq_false_iff_ne.1 h10), if_neg (beq_eq_false_iff_ne.1 h35), if_pos ⟨rfl, beq_eq_false_iff_ne.1 h32, beq_eq_false_iff_ne.1 h9⟩]; omega
                  have q10 : ((s[pos].toNat : Int) == 10) = false := beq_u8 (n := 10) (by omega) h10
                  have q35 : ((s[pos].toNat : Int) == 35) = false := beq_u8 (n := 35) (by omega) h35
                  have q32 : ((s[pos].toNat : Int) == 32) = false := beq_u8 (n := 32) (by omega) h32
                  have n32 : ((s[pos].toNat : Int) != 32) = true := by rw [bne, q32]; rfl
                  have q9 : ((s[pos].toNat : Int) == 9) = false := beq_u8 (n := 9) (by omega) h9
                  have n9 : ((s[pos].toNat : Int) != 9) = true := by rw [bne, q9]; rfl
                  clear h10 h35 h32 h9
                  go_wp2_with fail
                  go_ret
                  exact ⟨nret_int (by rw [HG.out]), _, rfl⟩
      · cases cm with
        | true =>
          obtain ⟨r, d, hr, hd, hds, hall, hnx⟩ := next_high w s pos hp hlow
          have HG : Hid (gapN false s.data.toList = (pos + d) + gapN true (s.data.toList.drop (pos + d))) := by
            show _ = _
            have e : s.data.toList.drop pos = (s.data.toList.drop pos).take d ++ s.data.toList.drop (pos + d) := by rw [← List.drop_drop, List.take_append_drop]
            have hl : ((s.data.toList.drop pos).take d).length = d := by rw [List.length_take, List.length_drop, ← size_list]; omega
            rw [HGP.out, e, gap_high hall, hl]; omega
          have q10 : ((r : Int) == 10) = false := by rw [beq_eq_false_iff_ne]; omega
          have q35 : ((r : Int) == 35) = false := by rw [beq_eq_false_iff_ne]; omega
          have HH := Lib.hid (And.intro hd hds)
          clear hlow hr hall
          go_wp2_with fail
          go_roundw
          case rel => exact ⟨pos + d, true, HH.out.2, rfl, rfl, HG.out⟩
          case measure => have := HH.out.1; have := HH.out.2; simp <;> omega
        | false =>
          obtain ⟨r, d, hr, hd, hds, hall, hnx⟩ := next_high w s pos hp hlow
          have HG : Hid (gapN false s.data.toList = pos) := by
            show _ = _
            rw [HGP.out, bdrop_at hp, gap_zero]
            · omega
            · rintro e; rw [e] at hlow; exact hlow (by decide)
            · rintro e; rw [e] at hlow; exact hlow (by decide)
            · rintro e; rw [e] at hlow; exact hlow (by decide)
            · rintro e; rw [e] at hlow; exact hlow (by decide)
          have q10 : ((r : Int) == 10) = false := by rw [beq_eq_false_iff_ne]; omega
          have q35 : ((r : Int) == 35) = false := by rw [beq_eq_false_iff_ne]; omega
          have q32 : ((r : Int) == 32) = false := by rw [beq_eq_false_iff_ne]; omega
          have n32 : ((r : Int) != 32) = true := by rw [bne, q32]; rfl
          have q9 : ((r : Int) == 9) = false := by rw [beq_eq_false_iff_ne]; omega
          have n9 : ((r : Int) != 9) = true := by rw [bne, q9]; rfl
          clear hlow hr hd hds hall
          go_wp2_with fail
          go_ret
          exact ⟨nret_int (by rw [HG.out]), _, rfl⟩
    · have hnx : ∀ ty, (Instr.next (.pointer (some ⟨w.heap.size, 0, none⟩)) true ty).run Tryd.prog (w.iter s pos) = _ := fun ty => run_next_end w s pos ty hp
      have HG : Hid (gapN false s.data.toList = s.size) := by
        show _ = _
        rw [HGP.out, List.drop_eq_nil_of_le (by rw [← size_list]; omega)]
        show pos + 0 = s.size
        omega
      go_wp2_with fail
      go_ret
      exact ⟨nret_int (by rw [HG.out]), _, rfl⟩
end Go.Proofs.YtblakndpionmgaaDoor
