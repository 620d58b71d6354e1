/-
  The program's Fresh.
-/
import Derived.Test.YtblakndpionmgaaDoorNmV
import Derived.Lib.AppendIntMem
import Derived.Lib.ItoaLen
import Derived.Test.YtblakndpionmgaaDoorShelf
namespace Go.Proofs.YtblakndpionmgaaDoor
open Go.RowKit

/-! ### Numbers behind names -/
theorem dec_val (u : Nat) : (Lib.decDigits u).foldl (fun a c => a * 10 + (c.toNat - 48)) 0 = u := by
  induction u using Nat.strongRecOn with
  | ind u ih =>
    rw [Lib.decDigits]
    split
    · rename_i h
      simp only [List.foldl_cons, List.foldl_nil, UInt8.toNat_ofNat']
      omega
    · rename_i h
      rw [List.foldl_append, ih (u / 10) (by omega)]
      simp only [List.foldl_cons, List.foldl_nil, UInt8.toNat_ofNat']
      omega
theorem itoa_nat_inj {j k : Nat} (h : Lib.itoa (j : Int) = Lib.itoa (k : Int)) : j = k := by
  have e : ∀ u : Nat, Lib.itoa (u : Int) = Lib.decDigits u := fun u => by unfold Lib.itoa; rw [if_neg (by omega)]; simp
  rw [e, e] at h
  rw [← dec_val j, ← dec_val k, h]
theorem itoa_ne (k : Nat) : Lib.itoa (k : Int) ≠ [] := by
  have e : Lib.itoa (k : Int) = Lib.decDigits k := by unfold Lib.itoa; rw [if_neg (by omega)]; simp
  rw [e, Lib.decDigits]
  split <;> simp
def cand (base : Txt) (k : Nat) : Txt := if k = 0 then base else base ++ Lib.itoa (k : Int)
theorem cand_zero (base : Txt) : cand base 0 = base := rfl
theorem cand_pos (base : Txt) {k : Nat} (h : k ≠ 0) : cand base k = base ++ Lib.itoa (k : Int) := if_neg h
theorem cand_inj {base : Txt} {j k : Nat} (h : cand base j = cand base k) : j = k := by
  unfold cand at h
  split at h
  · split at h
    · omega
    · exfalso
      have := congrArg List.length h
      rw [List.length_append] at this
      exact itoa_ne k (List.eq_nil_of_length_eq_zero (by omega))
  · split at h
    · exfalso
      have := congrArg List.length h
      rw [List.length_append] at this
      exact itoa_ne j (List.eq_nil_of_length_eq_zero (by omega))
    · exact itoa_nat_inj (List.append_cancel_left h)
theorem pigeon (l : List Txt) : ∀ r : List Txt, l.Nodup → (∀ x ∈ l, x ∈ r) → l.length ≤ r.length := by
  induction l with
  | nil => intros; simp
  | cons x l ih =>
    intro r hn hs
    have h1 := List.nodup_cons.1 hn
    have hx := hs x (by simp)
    have h2 := ih (r.erase x) h1.2 (fun y hy => (List.mem_erase_of_ne (by rintro rfl; exact h1.1 hy)).2 (hs y (by simp [hy])))
    rw [List.length_erase_of_mem hx] at h2
    have : 0 < r.length := List.length_pos_of_mem hx
    simp only [List.length_cons]
    omega
theorem cand_le {used : List Txt} {base : Txt} {k : Nat} (h : ∀ j, j < k → cand base j ∈ used) : k ≤ used.length := by
  have := pigeon ((List.range k).map (cand base)) used (by
    refine List.pairwise_map.2 ?_
    exact List.nodup_range.imp fun {a b} hne e => hne (cand_inj e)) (by
    intro x hx
    obtain ⟨j, hj, rfl⟩ := List.mem_map.1 hx
    exact h j (List.mem_range.1 hj))
  simpa using this
/-- The name that Fresh gives. -/
def IsFresh (used : List Txt) (base r : Txt) : Prop := ∃ k, r = cand base k ∧ r ∉ used ∧ ∀ j, j < k → cand base j ∈ used
theorem IsFresh.uniq {used : List Txt} {base r r' : Txt} (h : IsFresh used base r) (h' : IsFresh used base r') : r = r' := by
  obtain ⟨k, rfl, h1, h2⟩ := h
  obtain ⟨k', rfl, h3, h4⟩ := h'
  rcases Nat.lt_trichotomy k k' with hh | hh | hh
  · exact absurd (h4 k hh) h1
  · rw [hh]
  · exact absurd (h2 k' hh) h3
theorem IsFresh.none {used : List Txt} {base : Txt} (h : base ∉ used) : IsFresh used base base := ⟨0, rfl, h, fun j hj => absurd hj (by omega)⟩
abbrev Tabx (w : World) : Prop := Lib.TabIs Tryd.prog w "internal/strconv.uint64pow10" .u64 Lib.pow10Tab
theorem tabx_on {w w' : World} (h : Tabx w) (hb : Below w.heap.size w w') : Tabx w' := Lib.tabBelow_of_tabIs h w' hb
theorem itoa_call (n : Int) (h1 : -9223372036854775808 ≤ n) (h2 : n ≤ 9223372036854775807) (w : World) (htab : Tabx w) : Calls Tryd.prog 56 #[.int .i64 n] w fun e w' => ∃ x : ByteArray, e = .returned (.string x) ∧ x.data.toList = Lib.itoa n ∧ x.size ≤ 21 ∧ Below w.heap.size w w' := by
  refine (Tryd.strconv_Itoa n h1 h2 w htab).mono ?_
  rintro e w' ⟨rfl, k, os, rfl⟩
  exact ⟨_, rfl, rfl, by rw [size_list]; exact Lib.itoa_length_le n h1 h2, Lib.below_grow _ _ (Nat.le_refl _) _ _⟩
/-- At most 300 texts of at most 300 bytes. -/
def Few (l : List Txt) : Prop := l.length ≤ 300 ∧ ∀ y ∈ l, y.length ≤ 300
theorem Few.fit {l : List Txt} (h : Few l) : Fit_ l := fun y hy => Nat.le_trans (h.2 y hy) (by decide)
theorem cat_list (x y : ByteArray) : (x ++ y).data.toList = x.data.toList ++ y.data.toList := by simp

set_option maxHeartbeats 1000000 in
theorem fresh_any (A : Option Addr) (n c : Nat) (ss : List Txt) (s : ByteArray) (w : World) (hs : Ss w A n c ss) (hf : Few ss) (ht : Tabx w) :
    Calls Tryd.prog 28 #[.slice A n c, .string s] w fun e w' => ∃ x : ByteArray, e = .returned (.string x) ∧ IsFresh ss s.data.toList x.data.toList ∧ Below w.heap.size w w' := by
  have HFI := Lib.hid (find_any A n c ss s w hs)
  by_cases hm : s.data.toList ∈ ss
  · have hp : ¬ findI ss s.data.toList < 0 := fun h => findI_neg.1 h hm
    have HR := Lib.hid (rows_one (t := 40) hs hf.fit)
    have HB1 := Lib.hid (below_alloc (w := w) (.cells #[.slice A n c] 40))
    have HT := Lib.hid ht
    have HF := Lib.hid hf
    have HM := Lib.hid hm
    have HE : Hid ([ss].flatten = ss) := by show _ = _; simp
    have hs3 : s.size ≤ 300 := by rw [size_list]; exact hf.2 _ hm
    generalize findI ss s.data.toList = fz at *
    have p1 : ¬ fz < 0 := hp
    clear hs hf ht hm hp
    go_enter Tryd.func28, Tryd.ntmps28
    go_wp2_with fail
    ((with_reducible refine HFI.out.mono ?_); rintro e wx ⟨rfl, rfl⟩)
    go_wp2_with fail
    (refine (setof_any _ _ _ _ _ _ HR.out (by omega) (by rw [HE.out]; exact Nat.lt_of_le_of_lt HF.out.1 (by decide))).mono ?_); rintro e w2 ⟨rfl, hms, hb⟩
    rw [HE.out] at hms
    have HMS := Lib.hid hms
    have HB2 := Lib.hid (nbelow_on HB1.out hb)
    have hbb : w.heap.size ≤ (w.alloc (Obj.cells #[Value.slice A n c] 40)).heap.size := HB1.out.size
    have HBB := Lib.hid hbb
    clear hms hb hbb HFI HR
    generalize (w.alloc (Obj.cells #[Value.slice A n c] 40)).heap.size = b at *
    go_wp2_with fail
    go_loopw [6] (fun i wr => ∃ k : Nat, 1 ≤ k ∧ k ≤ 300 ∧ i = .int .i64 (k : Int) ∧ (∀ j, j < k → cand s.data.toList j ∈ ss) ∧ Ms wr b ss ∧ Below w.heap.size w wr) (fun i _ => 300 - (intOf i).toNat)
    case atStart =>
      have h0 : ∀ j, j < 1 → cand s.data.toList j ∈ ss := fun j hj => by rw [show j = 0 from (by omega)]; exact HM.out
      exact ⟨1, Nat.le_refl _, by omega, rfl, h0, HMS.out, HB2.out⟩
    case round =>
      obtain ⟨k, hk1, hk2, rfl, hall, hms, hb⟩ := hrel
      have HA := Lib.hid hall
      have HMR := Lib.hid hms
      have HBR := Lib.hid hb
      have HTR := Lib.hid (tabx_on HT.out hb)
      clear hall hms hb HMS HB2
      go_wp2_with fail
      (refine (itoa_call _ (by omega) (by omega) _ HTR.out).mono ?_); rintro e wi ⟨x, rfl, hx, hxs, hib⟩
      have HX : Hid ((s ++ x).data.toList = cand s.data.toList k) := by show _ = _; rw [cat_list, hx, cand_pos _ (by omega)]
      have HBI := Lib.hid (nbelow_on HBR.out hib)
      have HMI := Lib.hid (HMR.out.keep hib)
      have hsz : (s ++ x).size ≤ maxLen := by rw [ByteArray.size_append]; exact Nat.le_trans (Nat.add_le_add hs3 hxs) (by decide)
      have RL := HMI.out.look (s ++ x) hsz
      rw [HX.out] at RL
      clear hx hib hsz
      by_cases hd : cand s.data.toList k ∈ ss
      · have HD := Lib.hid hd
        rw [decide_eq_true hd] at RL
        have hall2 : ∀ j, j < k + 1 → cand s.data.toList j ∈ ss := fun j hj => by
          by_cases e : j = k
          · rw [e]; exact hd
          · exact HA.out j (by omega)
        have hk3 : k + 1 ≤ 300 := Nat.le_trans (cand_le hall2) HF.out.1
        have HA2 := Lib.hid hall2
        clear hd hall2
        go_wp2_with fail
        go_round
        case rel => exact ⟨k + 1, by omega, hk3, by go_num, HA2.out, HMI.out, HBI.out⟩
        case measure => simp [intOf] <;> omega
      · have HD := Lib.hid hd
        rw [decide_eq_false hd] at RL
        clear hd
        go_wp2_with fail
        go_ret
        exact ⟨s ++ x, rfl, ⟨k, HX.out, by rw [HX.out]; exact HD.out, HA.out⟩, HBI.out⟩
  · have hp : findI ss s.data.toList < 0 := findI_neg.2 hm
    have HM := Lib.hid hm
    generalize findI ss s.data.toList = fz at *
    clear hs hf ht hm
    go_enter Tryd.func28, Tryd.ntmps28
    go_wp2_with fail
    ((with_reducible refine HFI.out.mono ?_); rintro e wx ⟨rfl, rfl⟩)
    go_wp2_with fail
    go_ret
    exact ⟨s, rfl, IsFresh.none HM.out, Below.refl _ _⟩
end Go.Proofs.YtblakndpionmgaaDoor
