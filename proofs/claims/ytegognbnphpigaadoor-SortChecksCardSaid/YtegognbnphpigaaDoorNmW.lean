/-
  Words for memory that holds texts; contracts of the functions on bytes.
-/
import Derived.Test.YtegognbnphpigaaDoorNmMath
import Derived.Test.YtegognbnphpigaaDoorBigW
import Derived.BigQuiet
import Derived.Deep.QuietTactic
import Derived.Lib.Strings
import Derived.Lib.ItoaNum
namespace Go.Proofs.YtegognbnphpigaaDoor
open Go.RowKit

theorem nret_str {x y : ByteArray} (h : x = y) : Ending.returned (.string x) = .returned (.string y) := by rw [h]
theorem nbytes_eq {x y : ByteArray} : x = y ↔ x.data.toList = y.data.toList := by
  constructor
  · intro h; rw [h]
  · intro h; apply ByteArray.ext; exact Array.toList_inj.1 h
theorem size_list (x : ByteArray) : x.size = x.data.toList.length := Lib.size_eq x
theorem tolist_eq (x : ByteArray) : x.toList = x.data.toList := ByteArray.toList_eq x
theorem eta_txt (x : ByteArray) : (⟨x.data.toList.toArray⟩ : ByteArray) = x := by rw [nbytes_eq]
theorem byte0 {x : ByteArray} {c : UInt8} {cs : List UInt8} (h : x.data.toList = c :: cs) (hl : 0 < x.size) : x[0] = c := by
  have : x.data.toList[0]? = some c := by rw [h]; rfl
  have h2 : x.data.toList[0]? = some x[0] := by
    rw [List.getElem?_eq_getElem (by rw [h]; simp)]; rfl
  rw [h2] at this; injection this
theorem take_one {x : ByteArray} {k : Nat} (h : k < x.size) : x.data.toList.take (k + 1) = x.data.toList.take k ++ [x[k]] := by
  rw [List.take_succ_eq_append_getElem (by rw [← size_list]; exact h)]; rfl
theorem mem_byte {x : ByteArray} {k : Nat} (h : k < x.size) : x[k] ∈ x.data.toList := by
  have : x.data.toList[k]'(by rw [← size_list]; exact h) = x[k] := rfl
  rw [← this]; exact List.getElem_mem _
theorem u8_beq (c : UInt8) (n : Nat) (hn : n < 256) : ((c.toNat : Int) == (n : Int)) = (c == UInt8.ofNat n) := by
  rw [Bool.eq_iff_iff, beq_iff_eq, beq_iff_eq]
  constructor
  · intro h
    apply UInt8.toNat_inj.1
    rw [UInt8.toNat_ofNat']
    omega
  · intro h
    rw [h, UInt8.toNat_ofNat']
    omega

/-- The slice value (A, n, c) reads as the texts ss. -/
structure Ss (w : World) (A : Option Addr) (n c : Nat) (ss : List Txt) : Prop where
  len : ss.length = n
  cap : n ≤ c
  top : c ≤ 9223372036854775807
  cells : 0 < n → ∃ g o, A = some ⟨g, o, none⟩ ∧ g < w.heap.size ∧ ∀ k, k < n → w.cell? ⟨g, o + k, none⟩ = some (.string ⟨(ss.getD k []).toArray⟩)
theorem Ss.nil (w : World) : Ss w none 0 0 [] := ⟨rfl, Nat.le_refl _, by omega, fun h => absurd h (by omega)⟩
theorem Ss.empty (w : World) (A : Option Addr) {c : Nat} (h : c ≤ 9223372036854775807) : Ss w A 0 c [] := ⟨rfl, by omega, h, fun h => absurd h (by omega)⟩
theorem Ss.at_ {w : World} {A : Option Addr} {n c : Nat} {ss : List Txt} (h : Ss w A n c ss) {k : Nat} (hk : k < n) :
    ∃ g o x, A = some ⟨g, o, none⟩ ∧ g < w.heap.size ∧ w.cell? ⟨g, o + k, none⟩ = some (.string x) ∧ Hid (x.data.toList = ss.getD k []) := by
  obtain ⟨g, o, hA, hg, hc⟩ := h.cells (by omega)
  exact ⟨g, o, _, hA, hg, hc k hk, rfl⟩
theorem Ss.keep {w w' : World} {A : Option Addr} {n c : Nat} {ss : List Txt} (h : Ss w A n c ss) (hs : w.heap.size ≤ w'.heap.size) (hk : ∀ p : Addr, p.block < w.heap.size → w'.cell? p = w.cell? p) : Ss w' A n c ss :=
  ⟨h.len, h.cap, h.top, fun hn => by
    obtain ⟨g, o, e, hg, hc⟩ := h.cells hn
    exact ⟨g, o, e, by omega, fun k hk' => (hk _ hg).trans (hc k hk')⟩⟩
theorem Ss.below {w w' : World} {A : Option Addr} {n c : Nat} {ss : List Txt} (h : Ss w A n c ss) (hb : Below w.heap.size w w') : Ss w' A n c ss := h.keep hb.size fun _ hp => hb.cell hp
theorem Ss.alloc {w : World} {A : Option Addr} {n c : Nat} {ss : List Txt} (h : Ss w A n c ss) (o : Obj) : Ss (w.alloc o) A n c ss := h.below ((Below.refl _ _).alloc (Nat.le_refl _) o)
theorem Ss.drewN {w : World} {A : Option Addr} {n c : Nat} {ss : List Txt} (h : Ss w A n c ss) (q : Nat) : Ss (w.drewN q) A n c ss := ⟨h.len, h.cap, h.top, h.cells⟩
theorem nbelow_on {w w1 w2 : World} (h : Below w.heap.size w w1) (k : Below w1.heap.size w1 w2) : Below w.heap.size w w2 := h.trans (k.mono h.size)
theorem nret_bool {x x' : Bool} (h : x = x') : Ending.returned (.bool x) = .returned (.bool x') := by rw [h]
theorem nret_int {x x' : Int} (h : x = x') : Ending.returned (.int .i64 x) = .returned (.int .i64 x') := by rw [h]

theorem small_any (c : UInt8) (w : World) : Calls Tryd.prog 85 #[.int .u8 (c.toNat : Int)] w fun e w' => e = .returned (.bool (smB c)) ∧ w = w' := by
  by_cases h1 : 97 ≤ c.toNat
  · by_cases h2 : c.toNat ≤ 122
    · have HB : Hid (smB c = true) := by show smB c = true; unfold smB; rw [decide_eq_true h1, decide_eq_true h2]; rfl
      have p1 : (97 : Int) ≤ (c.toNat : Int) := by omega
      have p2 : (c.toNat : Int) ≤ 122 := by omega
      clear h1 h2
      go_enter Tryd.func85, Tryd.ntmps85
      go_wp2_with fail
      go_ret
      exact ⟨nret_bool HB.out.symm, rfl⟩
    · have HB : Hid (smB c = false) := by show smB c = false; unfold smB; rw [decide_eq_true h1, decide_eq_false h2]; rfl
      have p1 : (97 : Int) ≤ (c.toNat : Int) := by omega
      have p2 : ¬ (c.toNat : Int) ≤ 122 := by omega
      clear h1 h2
      go_enter Tryd.func85, Tryd.ntmps85
      go_wp2_with fail
      go_ret
      exact ⟨nret_bool HB.out.symm, rfl⟩
  · have HB : Hid (smB c = false) := by show smB c = false; unfold smB; rw [decide_eq_false h1]; rfl
    have p1 : ¬ (97 : Int) ≤ (c.toNat : Int) := by omega
    clear h1
    go_enter Tryd.func85, Tryd.ntmps85
    go_wp2_with fail
    go_ret
    exact ⟨nret_bool HB.out.symm, rfl⟩

theorem cap_any (c : UInt8) (w : World) : Calls Tryd.prog 81 #[.int .u8 (c.toNat : Int)] w fun e w' => e = .returned (.bool (cpB c)) ∧ w = w' := by
  by_cases h1 : 65 ≤ c.toNat
  · by_cases h2 : c.toNat ≤ 90
    · have HB : Hid (cpB c = true) := by show cpB c = true; unfold cpB; rw [decide_eq_true h1, decide_eq_true h2]; rfl
      have p1 : (65 : Int) ≤ (c.toNat : Int) := by omega
      have p2 : (c.toNat : Int) ≤ 90 := by omega
      clear h1 h2
      go_enter Tryd.func81, Tryd.ntmps81
      go_wp2_with fail
      go_ret
      exact ⟨nret_bool HB.out.symm, rfl⟩
    · have HB : Hid (cpB c = false) := by show cpB c = false; unfold cpB; rw [decide_eq_true h1, decide_eq_false h2]; rfl
      have p1 : (65 : Int) ≤ (c.toNat : Int) := by omega
      have p2 : ¬ (c.toNat : Int) ≤ 90 := by omega
      clear h1 h2
      go_enter Tryd.func81, Tryd.ntmps81
      go_wp2_with fail
      go_ret
      exact ⟨nret_bool HB.out.symm, rfl⟩
  · have HB : Hid (cpB c = false) := by show cpB c = false; unfold cpB; rw [decide_eq_false h1]; rfl
    have p1 : ¬ (65 : Int) ≤ (c.toNat : Int) := by omega
    clear h1
    go_enter Tryd.func81, Tryd.ntmps81
    go_wp2_with fail
    go_ret
    exact ⟨nret_bool HB.out.symm, rfl⟩

theorem dig_any (c : UInt8) (w : World) : Calls Tryd.prog 86 #[.int .u8 (c.toNat : Int)] w fun e w' => e = .returned (.bool (dgB c)) ∧ w = w' := by
  by_cases h1 : 48 ≤ c.toNat
  · by_cases h2 : c.toNat ≤ 57
    · have HB : Hid (dgB c = true) := by show dgB c = true; unfold dgB; rw [decide_eq_true h1, decide_eq_true h2]; rfl
      have p1 : (48 : Int) ≤ (c.toNat : Int) := by omega
      have p2 : (c.toNat : Int) ≤ 57 := by omega
      clear h1 h2
      go_enter Tryd.func86, Tryd.ntmps86
      go_wp2_with fail
      go_ret
      exact ⟨nret_bool HB.out.symm, rfl⟩
    · have HB : Hid (dgB c = false) := by show dgB c = false; unfold dgB; rw [decide_eq_true h1, decide_eq_false h2]; rfl
      have p1 : (48 : Int) ≤ (c.toNat : Int) := by omega
      have p2 : ¬ (c.toNat : Int) ≤ 57 := by omega
      clear h1 h2
      go_enter Tryd.func86, Tryd.ntmps86
      go_wp2_with fail
      go_ret
      exact ⟨nret_bool HB.out.symm, rfl⟩
  · have HB : Hid (dgB c = false) := by show dgB c = false; unfold dgB; rw [decide_eq_false h1]; rfl
    have p1 : ¬ (48 : Int) ≤ (c.toNat : Int) := by omega
    clear h1
    go_enter Tryd.func86, Tryd.ntmps86
    go_wp2_with fail
    go_ret
    exact ⟨nret_bool HB.out.symm, rfl⟩

theorem rsmall_any (c : UInt8) (w : World) : Calls Tryd.prog 66 #[.int .u8 (c.toNat : Int)] w fun e w' => e = .returned (.bool (smB c)) ∧ w = w' := by
  by_cases h1 : 97 ≤ c.toNat
  · by_cases h2 : c.toNat ≤ 122
    · have HB : Hid (smB c = true) := by show smB c = true; unfold smB; rw [decide_eq_true h1, decide_eq_true h2]; rfl
      have p1 : (97 : Int) ≤ (c.toNat : Int) := by omega
      have p2 : (c.toNat : Int) ≤ 122 := by omega
      clear h1 h2
      go_enter Tryd.func66, Tryd.ntmps66
      go_wp2_with fail
      go_ret
      exact ⟨nret_bool HB.out.symm, rfl⟩
    · have HB : Hid (smB c = false) := by show smB c = false; unfold smB; rw [decide_eq_true h1, decide_eq_false h2]; rfl
      have p1 : (97 : Int) ≤ (c.toNat : Int) := by omega
      have p2 : ¬ (c.toNat : Int) ≤ 122 := by omega
      clear h1 h2
      go_enter Tryd.func66, Tryd.ntmps66
      go_wp2_with fail
      go_ret
      exact ⟨nret_bool HB.out.symm, rfl⟩
  · have HB : Hid (smB c = false) := by show smB c = false; unfold smB; rw [decide_eq_false h1]; rfl
    have p1 : ¬ (97 : Int) ≤ (c.toNat : Int) := by omega
    clear h1
    go_enter Tryd.func66, Tryd.ntmps66
    go_wp2_with fail
    go_ret
    exact ⟨nret_bool HB.out.symm, rfl⟩

theorem rcap_any (c : UInt8) (w : World) : Calls Tryd.prog 69 #[.int .u8 (c.toNat : Int)] w fun e w' => e = .returned (.bool (cpB c)) ∧ w = w' := by
  by_cases h1 : 65 ≤ c.toNat
  · by_cases h2 : c.toNat ≤ 90
    · have HB : Hid (cpB c = true) := by show cpB c = true; unfold cpB; rw [decide_eq_true h1, decide_eq_true h2]; rfl
      have p1 : (65 : Int) ≤ (c.toNat : Int) := by omega
      have p2 : (c.toNat : Int) ≤ 90 := by omega
      clear h1 h2
      go_enter Tryd.func69, Tryd.ntmps69
      go_wp2_with fail
      go_ret
      exact ⟨nret_bool HB.out.symm, rfl⟩
    · have HB : Hid (cpB c = false) := by show cpB c = false; unfold cpB; rw [decide_eq_true h1, decide_eq_false h2]; rfl
      have p1 : (65 : Int) ≤ (c.toNat : Int) := by omega
      have p2 : ¬ (c.toNat : Int) ≤ 90 := by omega
      clear h1 h2
      go_enter Tryd.func69, Tryd.ntmps69
      go_wp2_with fail
      go_ret
      exact ⟨nret_bool HB.out.symm, rfl⟩
  · have HB : Hid (cpB c = false) := by show cpB c = false; unfold cpB; rw [decide_eq_false h1]; rfl
    have p1 : ¬ (65 : Int) ≤ (c.toNat : Int) := by omega
    clear h1
    go_enter Tryd.func69, Tryd.ntmps69
    go_wp2_with fail
    go_ret
    exact ⟨nret_bool HB.out.symm, rfl⟩

theorem rdig_any (c : UInt8) (w : World) : Calls Tryd.prog 68 #[.int .u8 (c.toNat : Int)] w fun e w' => e = .returned (.bool (dgB c)) ∧ w = w' := by
  by_cases h1 : 48 ≤ c.toNat
  · by_cases h2 : c.toNat ≤ 57
    · have HB : Hid (dgB c = true) := by show dgB c = true; unfold dgB; rw [decide_eq_true h1, decide_eq_true h2]; rfl
      have p1 : (48 : Int) ≤ (c.toNat : Int) := by omega
      have p2 : (c.toNat : Int) ≤ 57 := by omega
      clear h1 h2
      go_enter Tryd.func68, Tryd.ntmps68
      go_wp2_with fail
      go_ret
      exact ⟨nret_bool HB.out.symm, rfl⟩
    · have HB : Hid (dgB c = false) := by show dgB c = false; unfold dgB; rw [decide_eq_true h1, decide_eq_false h2]; rfl
      have p1 : (48 : Int) ≤ (c.toNat : Int) := by omega
      have p2 : ¬ (c.toNat : Int) ≤ 57 := by omega
      clear h1 h2
      go_enter Tryd.func68, Tryd.ntmps68
      go_wp2_with fail
      go_ret
      exact ⟨nret_bool HB.out.symm, rfl⟩
  · have HB : Hid (dgB c = false) := by show dgB c = false; unfold dgB; rw [decide_eq_false h1]; rfl
    have p1 : ¬ (48 : Int) ≤ (c.toNat : Int) := by omega
    clear h1
    go_enter Tryd.func68, Tryd.ntmps68
    go_wp2_with fail
    go_ret
    exact ⟨nret_bool HB.out.symm, rfl⟩
end Go.Proofs.YtegognbnphpigaaDoor
