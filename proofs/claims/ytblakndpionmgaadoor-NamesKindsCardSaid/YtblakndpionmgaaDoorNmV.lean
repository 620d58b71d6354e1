/-
  The program's Union.
-/
import Derived.Test.YtblakndpionmgaaDoorNmU
namespace Go.Proofs.YtblakndpionmgaaDoor
open Go.RowKit Go.Maps Go.Sort Go.Shelf

theorem rows_two {w : World} {A : Option Addr} {n c : Nat} {xs : List Txt} {B : Option Addr} {m d : Nat} {ys : List Txt} {t : TypeId} (hs : Ss w A n c xs) (ht : Ss w B m d ys) (hf : Fit_ xs) (hg : Fit_ ys) :
    Rows_ (w.alloc (.cells #[.slice A n c, .slice B m d] t)) w.heap.size 0 2 [xs, ys] := by
  refine ⟨rfl, (Array.getElem?_eq_some_iff.1 (MapKept.heap_alloc w _).1).1, fun k hk => ?_⟩
  have h2 : k = 0 ∨ k = 1 := by omega
  rcases h2 with rfl | rfl
  · exact ⟨A, n, c, by unfold World.cell?; rw [(MapKept.heap_alloc w _).1]; rfl, hs.alloc _, hf⟩
  · exact ⟨B, m, d, by unfold World.cell?; rw [(MapKept.heap_alloc w _).1]; rfl, ht.alloc _, hg⟩
theorem rows_one {w : World} {A : Option Addr} {n c : Nat} {xs : List Txt} {t : TypeId} (hs : Ss w A n c xs) (hf : Fit_ xs) : Rows_ (w.alloc (.cells #[.slice A n c] t)) w.heap.size 0 1 [xs] := by
  refine ⟨rfl, (Array.getElem?_eq_some_iff.1 (MapKept.heap_alloc w _).1).1, fun k hk => ?_⟩
  obtain rfl : k = 0 := by omega
  exact ⟨A, n, c, by unfold World.cell?; rw [(MapKept.heap_alloc w _).1]; rfl, hs.alloc _, hf⟩
theorem below_alloc {w : World} (o : Obj) : Below w.heap.size w (w.alloc o) := (Below.refl _ _).alloc (Nat.le_refl _) o

set_option maxHeartbeats 1000000 in
theorem union_any (A : Option Addr) (n c : Nat) (xs : List Txt) (B : Option Addr) (m d : Nat) (ys : List Txt) (w : World) (hs : Ss w A n c xs) (ht : Ss w B m d ys) (hf : Fit_ xs) (hg : Fit_ ys) (hn : xs.length + ys.length ≤ 100000) :
    Calls Tryd.prog 30 #[.slice A n c, .slice B m d] w fun e w' => ∃ C k q, e = .returned (.slice C k q) ∧ Ss w' C k q (unB (xs ++ ys)) ∧ Below w.heap.size w w' := by
  have HR := Lib.hid (rows_two (t := 40) hs ht hf hg)
  have HB1 := Lib.hid (below_alloc (w := w) (.cells #[.slice A n c, .slice B m d] 40))
  have HN : Hid ([xs, ys].flatten.length ≤ 100000) := by show _ ≤ _; simpa using hn
  have HE : Hid ([xs, ys].flatten = xs ++ ys) := by show _ = _; simp
  clear hs ht hf hg hn
  go_enter Tryd.func30, Tryd.ntmps30
  go_wp2_with fail
  (refine (setof_any _ _ _ _ _ _ HR.out (by omega) (Nat.lt_of_le_of_lt HN.out (by decide))).mono ?_); rintro e w2 ⟨rfl, hm, hb⟩
  have HM := Lib.hid hm
  have HB2 := Lib.hid (nbelow_on HB1.out hb)
  clear hm hb
  generalize [xs, ys].flatten = Z at *
  generalize (w.alloc (Obj.cells #[Value.slice A n c, Value.slice B m d] 40)).heap.size = b at *
  go_wp2_with fail
  (refine (callsIn_wide.1 (Tryd.maps_Keys_58 (some b) w2)).mono ?_); rintro e wx ⟨rfl, rfl⟩
  have hsz := size_mapOf HM.out
  have hkp := keys_mapOf HM.out
  have HKP := Lib.hid hkp
  have hz1 : Maps.size (mapOf Z) ≤ maxLen := Nat.le_trans hsz (Nat.le_trans HN.out (by decide))
  have hz2 : Maps.size (mapOf Z) * 16 ≤ 140737488355328 := by have := Nat.le_trans hsz HN.out; omega
  go_wp2_with fail
  (refine (callsIn_wide.1 (Tryd.slices_Sorted_keys_57_58 b _ (mapOf Z) _ w2 HM.out hz1 hz2)).mono ?_); rintro e w3 ⟨v, ss, rfl, hp, hrow, -, hb3⟩
  have hq : ss.mergeSort (fun x y => decide (x ≤ y)) = unB Z := by
    show ss.mergeSort leB = _
    rw [mergeSort_of_perm (hp.trans HKP.out.symm), sinc_sorted (unB_sinc Z)]
  rw [hq] at hrow
  obtain ⟨C, q, rfl, hss⟩ := Ss.of_row (by rw [(hp.trans HKP.out.symm).length_eq]) hrow
  have HSS := Lib.hid hss
  have HB4 := Lib.hid (nbelow_on HB2.out (nbelow_on (below_alloc _) hb3))
  clear hsz hkp hz1 hz2 hp hrow hss hb3 hq
  go_wp2_with fail
  go_ret
  exact ⟨C, _, q, rfl, by rw [← HE.out]; exact HSS.out, HB4.out⟩
end Go.Proofs.YtblakndpionmgaaDoor
