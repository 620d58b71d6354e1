/-
  Contract of the reference's Int.
-/
import Derived.Test.YtfkfbomllkpjjaaDoorBigS1
import Derived.Test.YtfkfbomllkpjjaaDoorBigK
namespace Go.Proofs.YtfkfbomllkpjjaaDoor
open Go.RowKit
theorem cmp_max (z : Int) : cmpI (val (lOf z)) (val (lOf 1000000000000)) = if inB z then cmpI (val (lOf z)) 1000000000000 else 1 := by
  have e : val (lOf 1000000000000) = 1000000000000 := val_lOf _
  rw [e]
  split
  · rfl
  · rename_i h
    have : ¬ (-1000000000000 ≤ z ∧ z ≤ 1000000000000) := fun hh => h (inB_yes hh.1 hh.2)
    rw [val_lOf]
    exact cmpI_gt (by omega)
theorem cmp_in {z : Int} (h : inB z = true) : ¬ 0 < cmpI (val (lOf z)) (val (lOf 1000000000000)) := by
  have e : val (lOf 1000000000000) = 1000000000000 := val_lOf _
  have := of_inB h
  rw [e, val_lOf]
  unfold cmpI
  split
  · omega
  · rw [if_neg (by omega)]; omega
theorem cmp_out {z : Int} (h : inB z = false) : cmpI (val (lOf z)) (val (lOf 1000000000000)) = 1 := by
  rw [cmp_max, h]; rfl
theorem drop_bd {z : Int} (h : inB z = true) (k : Nat) : 0 ≤ val ((lOf z).drop k) ∧ val ((lOf z).drop k) ≤ 1000000000000 := by
  have hz := of_inB h
  have b := val_bd (dOk_drop (lOf_ok z) k)
  refine ⟨b.1, ?_⟩
  by_cases hk : k ≤ (lOf z).length
  · have e := val_split (lOf z) k hk
    have t := val_bd (dOk_take (lOf_ok z) k)
    have v := val_lOf z
    have p : 1 * val ((lOf z).drop k) ≤ pw k * val ((lOf z).drop k) := Int.mul_le_mul_of_nonneg_right (by have := pw_pos k; omega) b.1
    omega
  · rw [List.drop_of_length_le (by omega)]; simp [val]
theorem int_sgn (z : Int) : (if nOf z then -val (lOf z) else val (lOf z)) = z := by
  rw [val_lOf]; unfold nOf
  by_cases h : z < 0
  · simp [h]; omega
  · simp [h]; omega
set_option maxHeartbeats 4000000 in
theorem rint_any (na : Bool) (A : Option Addr) (n c : Nat) (xs : List Int) (w : World) (ha : Sl w A n c xs) :
    Calls Tryd.prog 14 #[.agg #[.bool na, .slice A n c]] w fun e w' => e = .returned (.tuple #[.int .i64 (intV (zOf na xs)), .bool (inB (zOf na xs))]) ∧ Below w.heap.size w w' := by
  have hfd : ∀ (W : World) (b : Bool) (v : Option Addr) (i j : Nat), (Instr.field 24 (.agg #[.bool b, .slice v i j]) 1).run Tryd.prog W = .ok (.slice v i j) W := fun _ _ _ _ _ => by kernel_rfl
  have HA := Lib.hid ha
  have HF := Lib.hid (fit_zOf na xs)
  clear ha
  go_enter Tryd.func14, Tryd.ntmps14
  go_wp2_with fail
  have X1 := Lib.hid (Bx.new w (.bool na) (.slice A n c))
  have BW : Hid (Below w.heap.size w (w.alloc (.cells #[.bool na, .slice A n c] 24))) := (Below.refl _ _).alloc (Nat.le_refl _) _
  generalize w.alloc (.cells #[.bool na, .slice A n c] 24) = W at *
  have HA := Lib.hid (HA.out.below BW.out)
  (refine (rdigits_any na A n c xs _ HA.out).mono ?_; rintro e w1 ⟨B, m, d, rfl, hs, hb⟩)
  have HS := Lib.hid hs
  have HA := Lib.hid (HA.out.below hb)
  have X1 := Lib.hid (X1.out.below hb)
  have BW := Lib.hid (below_up BW.out hb)
  have hfit := hs.fit HF.out
  have HLN := Lib.hid hs.len
  have htop := hs.top
  have hcap := hs.cap
  clear hs hb
  go_wp2_with fail
  (refine (rof_any 1000000000000 _ (by omega) (by omega)).mono ?_; rintro e w2 ⟨B2, m2, d2, rfl, hs, hb⟩)
  have HS := Lib.hid (HS.out.below hb)
  have HS2 := Lib.hid hs
  have HA := Lib.hid (HA.out.below hb)
  have X1 := Lib.hid (X1.out.below hb)
  have BW := Lib.hid (below_up BW.out hb)
  clear hs hb
  go_wp2_with fail
  (refine (order_any _ _ _ _ _ _ (lOf (zOf na xs)) (lOf 1000000000000) _ HS.out HS2.out (lOf_ok _) (lOf_ok _) (lOf_top _) (lOf_top _)).mono ?_; rintro e w3 ⟨rfl, q, rfl⟩)
  have X1 := Lib.hid (show Bx (w2.drewN q) _ _ _ from X1.out)
  have HS := Lib.hid (HS.out.drewN q)
  have HA := Lib.hid (HA.out.drewN q)
  have BW := Lib.hid (below_drewN BW.out q)
  clear HS2
  generalize w2.drewN q = W at *
  generalize hz : zOf na xs = z at *
  have HZ := Lib.hid hz
  clear hz
  cases hi : inB z with
  | false =>
    have HC := Lib.hid (cmp_out hi)
    have HI := Lib.hid hi
    clear hi
    rw [HC.out]
    go_wp2_with fail
    go_ret2
    exact ⟨ret_two (by rw [HZ.out, intV_no HI.out]) (by rw [HZ.out, HI.out]), BW.out⟩
  | true =>
    have HI := Lib.hid hi
    have hc := cmp_in hi
    clear hi
    generalize cmpI (val (lOf z)) (val (lOf 1000000000000)) = v0 at *
    go_wp2_with fail
    clear hc
    go_loop [5, 6] (fun v i => ∃ k : Nat, k ≤ m ∧ i = .int .i64 ((k : Int) - 1) ∧ v = .int .i64 (val ((lOf z).drop k))) (fun _ i => (intOf i + 1).toNat)
    case atStart => exact ⟨m, Nat.le_refl _, rfl, by rw [List.drop_of_length_le (by rw [HLN.out]; exact Nat.le_refl _)]; rfl⟩
    case round =>
      obtain ⟨k, hk, rfl, rfl⟩ := hrel
      by_cases h0 : 0 < k
      · obtain ⟨k', rfl⟩ : ∃ k', k = k' + 1 := ⟨k - 1, by omega⟩
        obtain ⟨g, o, x, rfl, hg, hc, hx⟩ := HS.out.at_ (show k' < m by omega)
        obtain ⟨b1, b2⟩ := drop_bd HI.out (k' + 1)
        obtain ⟨b5, b6⟩ := drop_bd HI.out k'
        have bx := dOk_getD (lOf_ok z) k'
        rw [hx.out] at bx
        obtain ⟨b3, b4⟩ := bx
        have S := Lib.hid (small_step (by rw [HLN.out]; omega) hx.out)
        rw [← S.out] at b5 b6
        generalize val ((lOf z).drop (k' + 1)) = v at *
        go_wp2_with fail
        go_round
        case rel => exact ⟨k', by omega, by go_num, by rw [← S.out]⟩
        case measure => simp [intOf] <;> omega
      · obtain rfl : k = 0 := by omega
        obtain ⟨b1, b2⟩ := drop_bd HI.out 0
        rw [List.drop_zero] at b1 b2 ⊢
        have d1 := X1.out.c0
        have d2 := X1.out.c1
        go_wp2_with fail
        (refine (rnegative_any na A n c xs _ HA.out).mono ?_; rintro e w4 ⟨rfl, hb⟩)
        have BW := Lib.hid (below_up BW.out hb)
        have HE := Lib.hid (int_sgn z)
        clear hb
        rw [HZ.out]
        cases hn : nOf z with
        | true =>
          have HE : Hid (-val (lOf z) = z) := by have := HE.out; rw [hn] at this; exact this
          go_wp2_with fail
          go_ret2
          exact ⟨ret_two (by rw [HZ.out, HE.out, intV_yes HI.out]) (by rw [HZ.out, HI.out]), BW.out⟩
        | false =>
          have HE : Hid (val (lOf z) = z) := by have := HE.out; rw [hn] at this; exact this
          go_wp2_with fail
          go_ret2
          exact ⟨ret_two (by rw [HZ.out, HE.out, intV_yes HI.out]) (by rw [HZ.out, HI.out]), BW.out⟩
end Go.Proofs.YtfkfbomllkpjjaaDoor
