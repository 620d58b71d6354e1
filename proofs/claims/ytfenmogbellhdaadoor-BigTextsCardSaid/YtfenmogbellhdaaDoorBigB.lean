/-
  Contracts of the program's sums, differences and products of digits.
-/
import Derived.Test.YtfenmogbellhdaaDoorBigA2
namespace Go.Proofs.YtfenmogbellhdaaDoor
open Go.RowKit

theorem getLast_len {l : List Int} (h : l ≠ []) : 1 ≤ l.length := by cases l; exact absurd rfl h; simp
theorem rep_one (l : List Int) : val (l ++ List.replicate 1 0) = val l := by rw [List.replicate_one, val_snoc]; omega
theorem val_pad (l : List Int) (n : Nat) : val (l ++ List.replicate n 0) = val l := by rw [val_app, val_rep]; omega
theorem dOk_pad {l : List Int} (h : dOk l) (n : Nat) : dOk (l ++ List.replicate n 0) := dOk_app.2 ⟨h, dOk_rep n⟩
theorem trim_of {xs : List Int} {z : Nat} (h : val xs = z) : trimL xs = digs z := by unfold trimL; rw [h]; rfl

theorem sum_end {a b M : List Int} {c : Int} {N : Nat} (ha : dOk a) (hb : dOk b) (hN : N = max a.length b.length + 1) (h : AddAt (a ++ List.replicate (N - a.length) 0) b 1 N M c) : val M = val a + val b := by
  have hl : (a ++ List.replicate (N - a.length) 0).length = N := by simp; omega
  have e := (show AddAt (a ++ List.replicate (N - a.length) 0) b 1 (a ++ List.replicate (N - a.length) 0).length M c by rw [hl]; exact h).done (by rw [hl]; omega)
  rw [hl, val_pad, Int.one_mul] at e
  have bM := val_bd h.ok
  rw [h.len, hl] at bM
  have b1 := val_bd ha
  have b2 := val_bd hb
  have p1 := pw_mono (show a.length ≤ max a.length b.length by omega)
  have p2 := pw_mono (show b.length ≤ max a.length b.length by omega)
  have p3 := pw_pos (max a.length b.length)
  have p4 := pw_succ (max a.length b.length)
  rw [← hN] at p4
  exact (win_eq e bM.1 bM.2 (by omega) (by omega)).1
theorem diff_end {a b M : List Int} {c : Int} (ha : dOk a) (hb : dOk b) (hl : b.length ≤ a.length) (hle : val b ≤ val a) (h : AddAt a b (-1) a.length M c) : val M = val a - val b := by
  have e := h.done hl
  have bM := val_bd h.ok
  rw [h.len] at bM
  have b1 := val_bd ha
  have b2 := val_bd hb
  have := win_eq (c := c) (m := pw a.length) (v := val a - val b) (by omega) bM.1 bM.2 (by omega) (by omega)
  exact this.1

theorem sum_any (A B : Option Addr) (n c m d : Nat) (a b : List Int) (w : World) (ha : Sl w A n c a) (hb : Sl w B m d b) (da : dOk a) (db : dOk b) (n1 : n ≤ 1000) (m1 : m ≤ 1000) :
    Calls Tryd.prog 69 #[.slice A n c, .slice B m d] w fun e w' => ∃ R k r, e = .returned (.slice R k r) ∧ Sl w' R k r (digs (val a + val b).toNat) ∧ Below w.heap.size w w' := by
  have la := Lib.hid ha.len
  have lb := Lib.hid hb.len
  have hc := ha.cap
  have hd := hb.cap
  have ht := ha.top
  have ht2 := hb.top
  go_enter Tryd.func69, Tryd.ntmps69
  obtain ⟨N, hN1, hN2⟩ : ∃ N, max n m + 1 ≤ N ∧ N ≤ max n m + 1 := ⟨_, Nat.le_refl _, Nat.le_refl _⟩
  go_wp2_with fail
  all_goals
    (refine (copied_any A n c N a _ w ha (by omega) (by omega) (by omega)).mono ?_; rintro e w1 ⟨g, rfl, hg, how, hb1⟩)
    have HB1 := Lib.hid hb1
    have HOW := Lib.hid how
    clear hb1 how
    go_wp2_with fail
    (refine (addTimes_any g 0 N N B m d [] (a ++ List.replicate (N - n) 0) [] b 1 _ rfl (by simp [la.out]; omega) (Nat.le_refl _) (by omega) (by simpa using HOW.out) (dOk_pad da _) (hb.below HB1.out) db (hb.far hg) (by omega) (by omega)).mono ?_; rintro e w2 ⟨cc, M, rfl, hA, hO2, hbt⟩)
    have HB2 := Lib.hid (HB1.out.trans (hbt.below HB1.out.size hg))
    have HA := Lib.hid hA
    have HO2 := Lib.hid hO2
    clear hA hO2 hbt
    go_wp2_with fail
    (refine (trimmed_any (some ⟨g, 0, none⟩) N N M _ (by have := HO2.out; simp only [List.nil_append, List.append_nil] at this; exact this.all (by rw [HA.out.len]; simp [la.out]; omega) (Nat.le_refl _) (by omega)) HA.out.ok).mono ?_; rintro e w3 ⟨R, k, r, rfl, hR, hRg, rfl⟩)
    have HR := Lib.hid hR
    clear hR hRg
    go_wp2_with fail
    go_ret
    refine ⟨_, _, _, rfl, ?_, HB2.out⟩
    have hv := sum_end (N := N) da db (by rw [la.out, lb.out]; omega) (by rw [la.out]; exact HA.out)
    have := HR.out
    unfold trimL at this
    rwa [hv] at this

theorem difference_any (A B : Option Addr) (n c m d : Nat) (a b : List Int) (w : World) (ha : Sl w A n c a) (hb : Sl w B m d b) (da : dOk a) (db : dOk b) (n1 : n ≤ 1000) (hmn : m ≤ n) (hle : val b ≤ val a) :
    Calls Tryd.prog 70 #[.slice A n c, .slice B m d] w fun e w' => ∃ R k r, e = .returned (.slice R k r) ∧ Sl w' R k r (digs (val a - val b).toNat) ∧ Below w.heap.size w w' := by
  have la := Lib.hid ha.len
  have lb := Lib.hid hb.len
  have hc := ha.cap
  have hd := hb.cap
  have ht := ha.top
  have ht2 := hb.top
  go_enter Tryd.func70, Tryd.ntmps70
  go_wp2_with fail
  (refine (copied_any A n c n a _ w ha (by omega) (by omega) rfl).mono ?_; rintro e w1 ⟨g, rfl, hg, how, hb1⟩)
  rw [Nat.sub_self, List.replicate_zero, List.append_nil] at how
  have HB1 := Lib.hid hb1
  have HOW := Lib.hid how
  clear hb1 how
  go_wp2_with fail
  (refine (addTimes_any g 0 n n B m d [] a [] b (-1) _ rfl la.out (Nat.le_refl _) (by omega) (by simpa using HOW.out) da (hb.below HB1.out) db (hb.far hg) (by omega) (by omega)).mono ?_; rintro e w2 ⟨cc, M, rfl, hA, hO2, hbt⟩)
  have HB2 := Lib.hid (HB1.out.trans (hbt.below HB1.out.size hg))
  have HA := Lib.hid hA
  have HO2 := Lib.hid hO2
  clear hA hO2 hbt
  go_wp2_with fail
  (refine (trimmed_any (some ⟨g, 0, none⟩) n n M _ (by have := HO2.out; simp only [List.nil_append, List.append_nil] at this; exact this.all (by rw [HA.out.len, la.out]) (Nat.le_refl _) (by omega)) HA.out.ok).mono ?_; rintro e w3 ⟨R, k, r, rfl, hR, hRg, rfl⟩)
  have HR := Lib.hid hR
  clear hR hRg
  go_wp2_with fail
  go_ret
  refine ⟨_, _, _, rfl, ?_, HB2.out⟩
  have hv := diff_end da db (by rw [la.out, lb.out]; omega) hle (by rw [la.out]; exact HA.out)
  have := HR.out
  unfold trimL at this
  rwa [hv] at this

theorem win_of {O : List Int} {i n : Nat} (h : i + n ≤ O.length) : O = O.take i ++ (O.drop i).take n ++ O.drop (i + n) ∧ (O.take i).length = i ∧ ((O.drop i).take n).length = n := by
  refine ⟨?_, by rw [List.length_take]; omega, by rw [List.length_take, List.length_drop]; omega⟩
  rw [List.append_assoc, ← List.drop_drop, List.take_append_drop, List.take_append_drop]

theorem addAt_end {l b M : List Int} {n c : Int} {N : Nat} (hN : l.length = N) (hb : b.length ≤ N) (h : AddAt l b n N M c) : val M + pw N * c = val l + n * val b ∧ M.length = N ∧ dOk M := by
  have e := (show AddAt l b n l.length M c by rw [hN]; exact h).done (by omega)
  rw [hN] at e
  exact ⟨e, by rw [h.len, hN], h.ok⟩

set_option maxHeartbeats 400000 in
theorem product_any (A B : Option Addr) (n c m d : Nat) (a b : List Int) (w : World) (ha : Sl w A n c a) (hb : Sl w B m d b) (da : dOk a) (db : dOk b) (n1 : n ≤ 1000) (m1 : m ≤ 1000) :
    Calls Tryd.prog 119 #[.slice A n c, .slice B m d] w fun e w' => ∃ R k r, e = .returned (.slice R k r) ∧ Sl w' R k r (digs (val a * val b).toNat) ∧ Below w.heap.size w w' := by
  have la := Lib.hid ha.len
  have lb := Lib.hid hb.len
  have hc := ha.cap
  have hd := hb.cap
  have ht := ha.top
  have ht2 := hb.top
  have hmk : ∀ W : World, (Instr.makeSlice 33 (.int .i64 ((n : Int) + (m : Int))) (.int .i64 ((n : Int) + (m : Int)))).run Tryd.prog W = .ok (.slice (some ⟨W.heap.size, 0, none⟩) (n + m) (n + m)) (W.alloc (.cells (ints (List.replicate (n + m) 0)).toArray 3)) := fun W => by
    have := run_mk (n + m) (by omega) W
    rwa [Int.natCast_add] at this
  have HS : Hid (MulAt a b 0 (List.replicate (n + m) 0)) := by rw [← la.out, ← lb.out]; exact MulAt.start a b
  have HOS := Lib.hid (Own.new w (List.replicate (n + m) 0))
  have HBS : Hid (Below w.heap.size w (w.alloc (.cells (ints (List.replicate (n + m) 0)).toArray 3))) := (Below.refl _ _).alloc (Nat.le_refl _) _
  go_enter Tryd.func119, Tryd.ntmps119
  go_wp2_with fail
  generalize w.alloc (.cells (ints (List.replicate (n + m) 0)).toArray 3) = w0 at *
  obtain ⟨g, hg⟩ : ∃ g, w.heap.size = g := ⟨_, rfl⟩
  rw [hg] at HOS
  have HG := Lib.hid hg
  rw [hg]
  clear hg
  go_loopw [16] (fun i wr => ∃ (k : Nat) (O : List Int), k ≤ n ∧ i = .int .i64 (k : Int) ∧ MulAt a b k O ∧ Own wr g O ∧ Below w.heap.size w wr) (fun i _ => n - (intOf i).toNat)
  case atStart => exact ⟨0, _, Nat.zero_le _, rfl, HS.out, HOS.out, HBS.out⟩
  case round =>
    obtain ⟨k, O, hk, rfl, hM, hO, hB⟩ := hrel
    have HM := Lib.hid hM
    have HO := Lib.hid hO
    have HB := Lib.hid hB
    clear hM hO hB
    have HOL : Hid (O.length = n + m) := by rw [← la.out, ← lb.out]; exact HM.out.len
    by_cases hlt : k < n
    · obtain ⟨g', o', x, rfl, hg', hx, hxe⟩ := (ha.below HB.out).at_ hlt
      have bx := dOk_getD da k
      rw [hxe.out] at bx
      obtain ⟨b1, b2⟩ := bx
      have b3 : -10000 ≤ x := by omega
      have b4 : x ≤ 10000 := by omega
      have WN := Lib.hid (win_of (O := O) (i := k) (n := m + 1) (by rw [HOL.out]; omega))
      go_wp2_with fail
      (refine (window_any g 0 (n + m) (n + m) k (m + 1) _ _ _ rfl (by omega) (by omega) (by omega) (by omega)).mono ?_; rintro e w1 ⟨rfl, rfl⟩)
      go_wp2_with fail
      (refine (addTimes_any g k (m + 1) (m + 1) B m d (O.take k) ((O.drop k).take (m + 1)) (O.drop (k + (m + 1))) b x _ WN.out.2.1 WN.out.2.2 (Nat.le_refl _) (by omega) (by rw [← WN.out.1]; exact HO.out) (dOk_take (dOk_drop HM.out.ok _) _) (hb.below HB.out) db (hb.far (by rw [HG.out]; exact Nat.le_refl _)) b3 b4).mono ?_; rintro e w2 ⟨cc, M, rfl, hA, hO2, hbt⟩)
      have HA := Lib.hid hA
      have HO2 := Lib.hid hO2
      have HB2 := Lib.hid (HB.out.trans (hbt.below HB.out.size (by rw [HG.out]; exact Nat.le_refl _)))
      clear hA hO2 hbt
      have ST : Hid (MulAt a b (k + 1) (O.take k ++ M ++ O.drop (k + (m + 1)))) := by
        obtain ⟨e1, e2, e3⟩ := addAt_end WN.out.2.2 (by rw [lb.out]; omega) HA.out
        have := HM.out.step (W := M) (c := cc) da db (by rw [la.out]; exact hlt) e3 (by rw [lb.out]; exact e2) (by rw [lb.out, hxe.out]; exact e1)
        rwa [lb.out] at this
      go_wp2_with fail
      go_roundw
      case rel => exact ⟨k + 1, _, by omega, by go_num, ST.out, HO2.out, HB2.out⟩
      case measure => simp [intOf] <;> omega
    · obtain rfl : k = n := by omega
      go_wp2_with fail
      (refine (trimmed_any (some ⟨g, 0, none⟩) (k + m) (k + m) O _ (HO.out.all HOL.out (Nat.le_refl _) (by omega)) HM.out.ok).mono ?_; rintro e w3 ⟨R, q, r, rfl, hR, hRg, rfl⟩)
      have HR := Lib.hid hR
      clear hR hRg
      go_wp2_with fail
      go_ret
      refine ⟨_, _, _, rfl, ?_, HB.out⟩
      have hv := MulAt.done (show MulAt a b a.length O by rw [la.out]; exact HM.out)
      have := HR.out
      unfold trimL at this
      rwa [hv] at this
end Go.Proofs.YtfenmogbellhdaaDoor
