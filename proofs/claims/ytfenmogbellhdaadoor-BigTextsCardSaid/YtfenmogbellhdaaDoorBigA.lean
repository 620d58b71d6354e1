/-
  Contracts of the program's small functions on digits: split, small, trimmed, copied, window, addTimes.
-/
import Derived.Test.YtfenmogbellhdaaDoorBigW
import Derived.BigQuiet
import Derived.Deep.QuietTactic
import Derived.Laws.CopyOwn
import Derived.Laws.MakeOwn
namespace Go.Proofs.YtfenmogbellhdaaDoor
open Go.RowKit

theorem tmod_neg {n : Int} (h : n.tmod 10000 < 0) : n.tmod 10000 + 10000 = n % 10000 ∧ n.tdiv 10000 - 1 = n / 10000 := by
  have h1 := Int.tmod_add_mul_tdiv n 10000
  have h2 : (n.tmod 10000).natAbs < 10000 := by rw [Int.natAbs_tmod]; exact Nat.mod_lt _ (by decide)
  omega
theorem tmod_pos {n : Int} (h : ¬ n.tmod 10000 < 0) : n.tmod 10000 = n % 10000 ∧ n.tdiv 10000 = n / 10000 := by
  have h1 := Int.tmod_add_mul_tdiv n 10000
  have h2 : (n.tmod 10000).natAbs < 10000 := by rw [Int.natAbs_tmod]; exact Nat.mod_lt _ (by decide)
  omega
theorem tdiv_bd4 (n : Int) (h1 : -1000000000000 ≤ n) (h2 : n ≤ 1000000000000) : -1000000000000 ≤ n.tdiv 10000 ∧ n.tdiv 10000 ≤ 1000000000000 ∧ -10000 < n.tmod 10000 ∧ n.tmod 10000 < 10000 := by
  have h : (n.tdiv 10000).natAbs ≤ n.natAbs := by rw [Int.natAbs_tdiv]; exact Nat.div_le_self _ _
  have h2 : (n.tmod 10000).natAbs < 10000 := by rw [Int.natAbs_tmod]; exact Nat.mod_lt _ (by decide)
  omega

theorem split_any (n : Int) (w : World) (h1 : -1000000000000 ≤ n) (h2 : n ≤ 1000000000000) :
    Calls Tryd.prog 153 #[.int .i64 n] w fun e w' => e = .returned (.tuple #[.int .i64 (n % 10000), .int .i64 (n / 10000)]) ∧ w = w' := by
  obtain ⟨t1, t2, t3, t4⟩ := tdiv_bd4 n h1 h2
  by_cases hn : n.tmod 10000 < 0
  · have H := Lib.hid (tmod_neg hn)
    clear h1 h2
    go_enter Tryd.func153, Tryd.ntmps153
    go_wp2_with fail
    go_ret2
    exact ⟨ret_ints H.out.1 H.out.2, rfl⟩
  · have H := Lib.hid (tmod_pos hn)
    clear h1 h2
    go_enter Tryd.func153, Tryd.ntmps153
    go_wp2_with fail
    go_ret2
    exact ⟨ret_ints H.out.1 H.out.2, rfl⟩

theorem small_step {xs : List Int} {k : Nat} {x : Int} (hk : k < xs.length) (hx : xs.getD k 0 = x) : val (xs.drop (k + 1)) * 10000 + x = val (xs.drop k) := by
  rw [List.drop_eq_getElem_cons hk, val]
  have : xs.getD k 0 = xs[k] := by simp [List.getD, hk]
  omega
theorem val_bd4 {xs : List Int} (h : dOk xs) (hl : xs.length ≤ 4) : 0 ≤ val xs ∧ val xs ≤ 9999999999999999 := by
  have h1 := val_bd h
  have h2 := pw_mono hl
  have : pw 4 = 10000000000000000 := rfl
  omega
theorem small_bd {xs : List Int} (h : dOk xs) (hl : xs.length ≤ 4) (k : Nat) (hk : 1 ≤ k) : 0 ≤ val (xs.drop k) ∧ val (xs.drop k) ≤ 999999999999 := by
  have h1 := val_bd (dOk_drop h k)
  have h2 := pw_mono (show (xs.drop k).length ≤ 3 by rw [List.length_drop]; omega)
  have : pw 3 = 1000000000000 := rfl
  omega

theorem small_any (A : Option Addr) (n c : Nat) (xs : List Int) (w : World) (hs : Sl w A n c xs) (hd : dOk xs) (hn : n ≤ 4) :
    Calls Tryd.prog 79 #[.slice A n c] w fun e w' => e = .returned (.int .i64 (val xs)) ∧ w = w' := by
  have hl := Lib.hid hs.len
  go_enter Tryd.func79, Tryd.ntmps79
  go_wp2_with fail
  go_loop [3, 4] (fun v i => ∃ k : Nat, k ≤ n ∧ i = .int .i64 ((k : Int) - 1) ∧ v = .int .i64 (val (xs.drop k))) (fun _ i => (intOf i + 1).toNat)
  case atStart => exact ⟨n, Nat.le_refl _, rfl, by rw [List.drop_of_length_le (by rw [hl.out]; exact Nat.le_refl _)]; rfl⟩
  case round =>
    obtain ⟨k, hk, rfl, rfl⟩ := hrel
    by_cases h0 : 0 < k
    · obtain ⟨k', rfl⟩ : ∃ k', k = k' + 1 := ⟨k - 1, by omega⟩
      obtain ⟨g, o, x, rfl, hg, hc, hx⟩ := hs.at_ (show k' < n by omega)
      obtain ⟨b1, b2⟩ := small_bd hd (by rw [hl.out]; exact hn) (k' + 1) (by omega)
      have bx := dOk_getD hd k'
      rw [hx.out] at bx
      obtain ⟨b3, b4⟩ := bx
      have S := Lib.hid (small_step (by rw [hl.out]; omega) hx.out)
      generalize val (xs.drop (k' + 1)) = v at *
      go_wp2_with fail
      go_round
      case rel => exact ⟨k', by omega, by go_num, by rw [← S.out]⟩
      case measure => simp [intOf] <;> omega
    · obtain rfl : k = 0 := by omega
      go_wp2_with fail
      go_ret
      exact ⟨rfl, rfl⟩

/-- Digits without the zeros at their end. -/
def trimL (xs : List Int) : List Int := digs (val xs).toNat
theorem take_zero_step {xs : List Int} {k : Nat} (hx : xs.getD k 0 = 0) (h : val (xs.take (k + 1)) = val xs) : val (xs.take k) = val xs := by
  rw [← h, val_take_succ, hx]; omega
theorem trim_done {xs : List Int} {k : Nat} (hd : dOk xs) (hk : k < xs.length) (hx : xs.getD k 0 ≠ 0) (h : val (xs.take (k + 1)) = val xs) : xs.take (k + 1) = trimL xs := by
  unfold trimL
  rw [← h]
  refine (digs_val (dOk_take hd _) ?_).symm
  rw [take_succ_at xs hk]
  refine topOk_snoc ?_
  simpa [List.getD, hk] using hx
theorem trim_none {xs : List Int} (h : val (xs.take 0) = val xs) : trimL xs = [] := by
  unfold trimL
  rw [← h]; exact digs_zero
theorem Sl.take_ {w : World} {A : Option Addr} {n c : Nat} {xs : List Int} (h : Sl w A n c xs) {m : Nat} (hm : m ≤ n) : Sl w A m m (xs.take m) :=
  ⟨by rw [List.length_take, h.len]; omega, Nat.le_refl _, by have := h.cap; have := h.top; omega, fun hn => by
    obtain ⟨g, o, e, hg, hc⟩ := h.cells (by omega)
    refine ⟨g, o, e, hg, fun k hk => ?_⟩
    rw [hc k (by omega)]
    simp [List.getD, hk]⟩

/-- trimmed, of whatever ints. -/
theorem trimmed_gen (A : Option Addr) (n c : Nat) (xs : List Int) (w : World) (hs : Sl w A n c xs) :
    Calls Tryd.prog 83 #[.slice A n c] w fun e w' => ∃ B m d, e = .returned (.slice B m d) ∧ Sl w B m d (xs.take m) ∧ (B = none ∨ B = A) ∧ val (xs.take m) = val xs ∧ m ≤ n ∧ (m = 0 ∨ xs.getD (m - 1) 0 ≠ 0) ∧ w = w' := by
  have hl := Lib.hid hs.len
  have htop := hs.top
  have hcap := hs.cap
  go_enter Tryd.func83, Tryd.ntmps83
  go_wp2_with fail
  go_loop [3] (fun i => ∃ k : Nat, k ≤ n ∧ i = .int .i64 (k : Int) ∧ val (xs.take k) = val xs) (fun i => (intOf i).toNat)
  case atStart => exact ⟨n, Nat.le_refl _, rfl, by rw [List.take_of_length_le (by rw [hl.out]; exact Nat.le_refl _)]⟩
  case round =>
    obtain ⟨k, hk, rfl, hv⟩ := hrel
    have HV := Lib.hid hv
    clear hv
    by_cases h0 : 0 < k
    · obtain ⟨k', rfl⟩ : ∃ k', k = k' + 1 := ⟨k - 1, by omega⟩
      obtain ⟨g, o, x, rfl, hg, hc, hx⟩ := hs.at_ (show k' < n by omega)
      have b1 : (0 : Int) < ((k' + 1 : Nat) : Int) := by omega
      have b2 : (k' : Int) < (n : Int) := by omega
      cases hz : (x == 0) with
      | true =>
        have h0 := beq_iff_eq.1 hz
        have HX := Lib.hid (hx.out.trans h0)
        clear h0 hx
        go_wp2_with fail
        go_round
        case rel => exact ⟨k', by omega, by go_num, take_zero_step HX.out HV.out⟩
        case measure => simp [intOf]
      | false =>
        have b3 : ((k' + 1 : Nat) : Int) ≤ (c : Int) := by omega
        have HT := Lib.hid (show xs.getD (k' + 1 - 1) 0 ≠ 0 by rw [Nat.add_sub_cancel, hx.out]; simpa using hz)
        go_wp2_with fail
        go_ret
        exact ⟨_, _, _, rfl, hs.take_ hk, .inr rfl, HV.out, hk, .inr HT.out, rfl⟩
    · obtain rfl : k = 0 := by omega
      go_wp2_with fail
      go_ret
      exact ⟨_, _, _, rfl, Sl.nil w, .inl rfl, HV.out, hk, .inl rfl, rfl⟩

theorem trimmed_any (A : Option Addr) (n c : Nat) (xs : List Int) (w : World) (hs : Sl w A n c xs) (hd : dOk xs) :
    Calls Tryd.prog 83 #[.slice A n c] w fun e w' => ∃ B m d, e = .returned (.slice B m d) ∧ Sl w B m d (trimL xs) ∧ (B = none ∨ B = A) ∧ w = w' := by
  refine (trimmed_gen A n c xs w hs).mono ?_
  rintro e w' ⟨B, m, d, he, h1, h2, h3, h4, h5, h6⟩
  refine ⟨B, m, d, he, ?_, h2, h6⟩
  have hl := hs.len
  rcases h5 with rfl | h5
  · rw [trim_none h3]; exact h1
  · obtain ⟨m', rfl⟩ : ∃ m', m = m' + 1 := ⟨m - 1, by
      rcases Nat.eq_zero_or_pos m with h0 | h0
      · subst h0
        exfalso; apply h5
        simp only [List.take_zero, val] at h3
        have : val (xs.take 1) = val xs := by
          have b1 := val_bd (dOk_take hd 1)
          have b2 := val_split xs (min 1 xs.length) (by omega)
          have b3 := val_bd (dOk_drop hd (min 1 xs.length))
          have b4 := val_bd (dOk_take hd (min 1 xs.length))
          have b5 := Int.mul_nonneg (Int.le_of_lt (pw_pos (min 1 xs.length))) b3.1
          have b6 : xs.take 1 = xs.take (min 1 xs.length) := by rw [List.take_eq_take_min]
          rw [b6] at b1 ⊢
          omega
        rw [val_take_succ] at this
        simp only [List.take_zero, val, pw_zero] at this
        show xs.getD 0 0 = 0
        omega
      · omega⟩
    rw [Nat.add_sub_cancel] at h5
    rw [← trim_done hd (by omega) h5 h3]; exact h1

theorem addr_add (b off i : Nat) : (⟨b, off, none⟩ : Addr).add i = ⟨b, off + i, none⟩ := by unfold Addr.add; split <;> simp_all
theorem made_eq (n : Nat) : madeCells #[Value.int .i64 0] n = (ints (List.replicate n 0)).toArray := by
  apply Array.ext
  · simp [size_madeCells, ints]
  · intro i h1 h2
    simp [madeCells, ints, Nat.mod_one]
theorem int_info : (Tryd.prog.info? 3).map (fun i => (i.zero, i.size, i.bytes)) = some (some (.int .i64 0), 1, 8) := by kernel_rfl
theorem int_size : (Tryd.prog.info? 3).map (·.size) = some 1 := by kernel_rfl
theorem run_mk (n : Nat) (hn : n ≤ 100000) (w : World) : (Instr.makeSlice 33 (.int .i64 (n : Int)) (.int .i64 (n : Int))).run Tryd.prog w = .ok (.slice (some ⟨w.heap.size, 0, none⟩) n n) (w.alloc (.cells (ints (List.replicate n 0)).toArray 3)) := by
  obtain ⟨i0, hi, hz0, hz1, hz2⟩ := info_parts int_info
  have hr := run_make (P := Tryd.prog) w 33 3 i0 (.int .i64 0) Tryd.underlying33 hi hz0 .i64 .i64 n n (by omega) (by omega) (by rw [hz2]; omega) (by omega)
  rw [hz1, Nat.mul_one] at hr
  simp only [Int.toNat_natCast] at hr
  rw [hr, show (Value.int .i64 0).cells = #[Value.int .i64 0] from rfl, made_eq n]

theorem Own.new (w : World) (l : List Int) : Own (w.alloc (.cells (ints l).toArray 3)) w.heap.size l := heap_alloc_new w _

theorem copied_any (A : Option Addr) (n c m : Nat) (xs : List Int) (mi : Int) (w : World) (hs : Sl w A n c xs) (hm : n ≤ m) (hm2 : m ≤ 100000) (hmi : mi = m) :
    Calls Tryd.prog 80 #[.slice A n c, .int .i64 mi] w fun e w' => ∃ g, e = .returned (.slice (some ⟨g, 0, none⟩) m m) ∧ w.heap.size ≤ g ∧ Own w' g (xs ++ List.replicate (m - n) 0) ∧ Below w.heap.size w w' := by
  subst hmi
  have hl := Lib.hid hs.len
  have htop := hs.top
  have hcap := hs.cap
  have hmk := run_mk m hm2
  have hcur : (w.alloc (.cells (ints (List.replicate m 0)).toArray 3)).heap[w.heap.size]? = some (.cells (ints (List.replicate m 0)).toArray 3 (0, 0)) := Own.new w _
  have HC := Lib.hid hcur
  have hb0 : Below w.heap.size w (w.alloc (.cells (ints (List.replicate m 0)).toArray 3)) := (Below.refl _ _).alloc (Nat.le_refl _) _
  have HB := Lib.hid hb0
  have hlen : (ints xs).length = Nat.min n m := by rw [ints_len, hs.len]; exact (Nat.min_eq_left hm).symm
  have HL := Lib.hid hlen
  have HP : Hid (0 < (ints xs).length → (some ⟨w.heap.size, 0, none⟩ : Option Addr) = some ⟨w.heap.size, 0, none⟩ ∧ ∃ ad, A = some ad ∧ ∀ j v, (ints xs)[j]? = some v → (w.alloc (.cells (ints (List.replicate m 0)).toArray 3)).cell? (ad.add j) = some v) := by
    intro hp
    rw [ints_len, hs.len] at hp
    obtain ⟨g, o, e, hg, hc⟩ := hs.cells hp
    refine ⟨rfl, _, e, fun j v hj => ?_⟩
    have hjl : j < xs.length := by
      have := (List.getElem?_eq_some_iff.1 hj).1
      rwa [ints_len] at this
    rw [ints_at hjl] at hj
    injection hj with hj
    subst hj
    rw [addr_add]
    exact ((Below.refl w.heap.size w).alloc (Nat.le_refl _) _).cell (p := ⟨g, o + j, none⟩) hg |>.trans (hc j (by rw [← hs.len]; exact hjl))
  clear hcur hb0 hlen
  go_enter Tryd.func80, Tryd.ntmps80
  go_wp2_with (with_reducible refine wpList_copy_splice rfl (.tmp 8) (.tmp 9) 33 33 rfl 3 Tryd.underlying33 int_size (some ⟨w.heap.size, 0, none⟩) A m m n c rfl rfl w.heap.size 0 (ints (List.replicate m 0)) 3 HC.out (ints xs) HL.out HP.out (by rw [ints_len, ints_len, hl.out, List.length_replicate]; omega) (ints_one xs) w.heap.size w HB.out (Nat.le_refl _) ?_; intro w' hg hb')
  go_ret
  refine ⟨_, rfl, Nat.le_refl _, ?_, hb'⟩
  have := hg.out
  unfold Own
  rw [this]
  congr 2
  simp [splice, ints, hl.out]
end Go.Proofs.YtfenmogbellhdaaDoor
