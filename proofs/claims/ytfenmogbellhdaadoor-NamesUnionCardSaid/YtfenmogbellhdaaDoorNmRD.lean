/-
  The reference's Union.
-/
import Derived.Test.YtfenmogbellhdaaDoorNmRC
namespace Go.Proofs.YtfenmogbellhdaaDoor
open Go.RowKit

theorem put_len (l : List Txt) (s : Txt) : (putB l s).length ≤ l.length + 1 := by
  induction l with
  | nil => simp [putB]
  | cons x l ih =>
    unfold putB
    split
    · simp only [List.length_cons]; omega
    · split <;> simp
theorem fold_len (l acc : List Txt) : (l.foldl putB acc).length ≤ acc.length + l.length := by
  induction l generalizing acc with
  | nil => simp
  | cons x l ih =>
    have h1 := ih (putB acc x)
    have h2 := put_len acc x
    simp only [List.foldl_cons, List.length_cons]
    omega
set_option maxRecDepth 100000 in
set_option maxHeartbeats 4000000 in
theorem runion_any (A : Option Addr) (n c : Nat) (xs : List Txt) (B : Option Addr) (m d : Nat) (ys : List Txt) (w : World) (hs : Ss w A n c xs) (ht : Ss w B m d ys) (hnx : xs.length ≤ 10000) (hny : ys.length ≤ 10000) :
    Calls Tryd.prog 30 #[.slice A n c, .slice B m d] w fun e w' => ∃ C k q, e = .returned (.slice C k q) ∧ Ss w' C k q (unB (xs ++ ys)) ∧ Below w.heap.size w w' := by
  have HS := Lib.hid hs
  have HT := Lib.hid ht
  have HNX := Lib.hid hnx
  have HNY := Lib.hid hny
  have hn1 : n ≤ 10000 := by rw [← hs.len]; exact hnx
  have hm1 : m ≤ 10000 := by rw [← ht.len]; exact hny
  clear hs ht hnx hny
  go_enter Tryd.func30, Tryd.ntmps30
  go_wp2_with fail
  go_loopw [5, 10] (fun ov iv wr => ∃ (i : Nat) (C : Option Addr) (q r : Nat), i ≤ n ∧ iv = .int .i64 (i : Int) ∧ ov = .slice C q r ∧ Ss wr C q r ((xs.take i).foldl putB []) ∧ Below w.heap.size w wr) (fun _ iv _ => n - (intOf iv).toNat)
  case atStart => exact ⟨0, none, 0, 0, Nat.zero_le _, rfl, rfl, Ss.nil w, Below.refl _ _⟩
  case round =>
    obtain ⟨i, C, q, r, hi, rfl, rfl, hs, hb⟩ := hrel
    have HC := Lib.hid hs
    have HB := Lib.hid hb
    clear hs hb
    by_cases hlt : i < n
    · obtain ⟨g, o, x, rfl, hg, hc, hx⟩ := (HS.out.below HB.out).at_ hlt
      have hil : i < xs.length := by rw [HS.out.len]; exact hlt
      have HI := Lib.hid hil
      have HX := Lib.hid hx.out
      have q1 : (i : Int) < n := by omega
      have hq : q ≤ 100000 := by
        rw [← HC.out.len]
        have h1 := fold_len (xs.take i) []
        have h2 : (xs.take i).length ≤ xs.length := by rw [List.length_take]; omega
        have h3 := HNX.out
        simp at h1
        omega
      have CP := put_any C q r _ x wr HC.out hq
      clear hx hg hil hq
      go_wp2_with fail
      (refine CP.mono ?_); rintro e w2 ⟨C2, q2, r2, rfl, hs, hb⟩
      rw [HX.out] at hs
      have HC2 : Hid (Ss w2 C2 q2 r2 ((xs.take (i + 1)).foldl putB [])) := by
        show Ss _ _ _ _ _
        rw [take_snoc HI.out, List.foldl_append]
        exact hs
      have HB2 := Lib.hid (nbelow_on HB.out hb)
      clear hs hb
      go_wp2_with fail
      go_roundw
      case rel => exact ⟨i + 1, C2, q2, r2, by omega, by go_num, rfl, HC2.out, HB2.out⟩
      case measure => simp [intOf] <;> omega
    · obtain rfl : i = n := by omega
      have HF : Hid (Ss wr C q r (xs.foldl putB [])) := by
        show Ss _ _ _ _ _
        have := HC.out
        rwa [List.take_of_length_le (by rw [HS.out.len]; exact Nat.le_refl _)] at this
      go_wp2_with fail
      go_loopw [5, 22] (fun ov iv wr => ∃ (i : Nat) (C : Option Addr) (q r : Nat), i ≤ m ∧ iv = .int .i64 (i : Int) ∧ ov = .slice C q r ∧ Ss wr C q r ((ys.take i).foldl putB (unB xs)) ∧ Below w.heap.size w wr) (fun _ iv _ => m - (intOf iv).toNat)
      case atStart => exact ⟨0, _, _, _, Nat.zero_le _, rfl, rfl, HF.out, HB.out⟩
      case round =>
        obtain ⟨i, C, q, r, hi, rfl, rfl, hs, hb⟩ := hrel
        have HC := Lib.hid hs
        have HB := Lib.hid hb
        clear hs hb
        by_cases hlt : i < m
        · obtain ⟨g, o, x, rfl, hg, hc, hx⟩ := (HT.out.below HB.out).at_ hlt
          have hil : i < ys.length := by rw [HT.out.len]; exact hlt
          have HI := Lib.hid hil
          have HX := Lib.hid hx.out
          have q1 : (i : Int) < m := by omega
          have hq : q ≤ 100000 := by
            rw [← HC.out.len]
            have h1 := fold_len (ys.take i) (unB xs)
            have h2 : (ys.take i).length ≤ ys.length := by rw [List.length_take]; omega
            have h3 := HNY.out
            have h4 := HNX.out
            have h5 := fold_len xs []
            have h6 : (unB xs).length = (xs.foldl putB []).length := rfl
            simp at h5
            omega
          have CP := put_any C q r _ x wr HC.out hq
          clear hx hg hil hq
          go_wp2_with fail
          (refine CP.mono ?_); rintro e w2 ⟨C2, q2, r2, rfl, hs, hb⟩
          rw [HX.out] at hs
          have HC2 : Hid (Ss w2 C2 q2 r2 ((ys.take (i + 1)).foldl putB (unB xs))) := by
            show Ss _ _ _ _ _
            rw [take_snoc HI.out, List.foldl_append]
            exact hs
          have HB2 := Lib.hid (nbelow_on HB.out hb)
          clear hs hb
          go_wp2_with fail
          go_roundw
          case rel => exact ⟨i + 1, C2, q2, r2, by omega, by go_num, rfl, HC2.out, HB2.out⟩
          case measure => simp [intOf] <;> omega
        · obtain rfl : i = m := by omega
          have HF : Hid (Ss wr C q r (ys.foldl putB (unB xs))) := by
            show Ss _ _ _ _ _
            have := HC.out
            rwa [List.take_of_length_le (by rw [HT.out.len]; exact Nat.le_refl _)] at this
          go_wp2_with fail
          go_ret
          exact ⟨C, q, r, rfl, by unfold unB; rw [List.foldl_append]; exact HF.out, HB.out⟩
end Go.Proofs.YtfenmogbellhdaaDoor
