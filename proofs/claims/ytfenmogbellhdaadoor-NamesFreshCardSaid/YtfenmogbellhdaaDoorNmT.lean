/-
  The contract of layer 1's reference Text (as in the Num texts), for the package names.
-/
import Derived.Test.YtfenmogbellhdaaDoorNmF
import Derived.Test.YtfenmogbellhdaaDoorNumMath
import Derived.Lib.ItoaLen
import Derived.Laws.BytesArg
import Derived.LoopTactic
import Derived.WalkSpells
namespace Go.Proofs.YtfenmogbellhdaaDoor
open Go.RowKit

/-- The digits that are still to be written: none of 0. -/
def dig0 (u : Nat) : List UInt8 := if u = 0 then [] else Lib.decDigits u

theorem size_of {x : ByteArray} {l : List UInt8} {u : Nat} (h : l ++ x.data.toList = Lib.decDigits u) (hu : u ≤ 9223372036854775808) : x.size ≤ 20 := by
  have h1 := congrArg List.length h
  rw [Lib.decDigits_length, List.length_append] at h1
  have := Lib.nDigits_le20 u (by omega)
  have e : x.size = x.data.toList.length := Lib.size_eq x
  omega

theorem dig_step {u : Nat} (h : u ≠ 0) : dig0 u = dig0 (u / 10) ++ [UInt8.ofNat (48 + u % 10)] := by
  unfold dig0
  rw [if_neg h, Lib.decDigits]
  split
  · rename_i hlt
    rw [if_pos (by omega), show u % 10 = u by omega]; rfl
  · rename_i hlt
    rw [if_neg (by omega)]

theorem append_one (c : UInt8) (x : ByteArray) : (⟨#[c]⟩ ++ x : ByteArray).data.toList = c :: x.data.toList := by
  rw [ByteArray.data_append]; simp

theorem round_step {v v' : Int} {x : ByteArray} {c : UInt8} {R : List UInt8} (hz : v ≠ 0) (h1 : v'.natAbs = v.natAbs / 10) (hc : c = UInt8.ofNat (48 + v.natAbs % 10)) (hd : dig0 v.natAbs ++ x.data.toList = R) :
    dig0 v'.natAbs ++ (⟨#[c]⟩ ++ x : ByteArray).data.toList = R := by
  rw [append_one, h1, hc, ← hd, dig_step (u := v.natAbs) (by omega)]
  simp

theorem conv_one (w : World) (x : Int) : (convert 82 9 (.slice (some ⟨w.heap.size, 0, none⟩) 1 1)).run Tryd.prog (w.alloc (.cells #[.int .u8 x] 5)) = .ok (.string ⟨#[UInt8.ofNat x.toNat]⟩) (w.alloc (.cells #[.int .u8 x] 5)) := by
  have := run_convert_bytes_arg (P := Tryd.prog) (w.alloc (.cells #[.int .u8 x] 5)) 82 5 Tryd.underlying82 Tryd.underlying5 w.heap.size 0 1 1 [x] rfl (fun i hi => by
    obtain rfl : i = 0 := by omega
    rw [World.cell?_alloc_new]; rfl) 9 Tryd.underlying9
  exact this

theorem tdiv_abs (v : Int) : (v.tdiv 10).natAbs = v.natAbs / 10 := by rw [Int.natAbs_tdiv]; rfl
theorem tmod_abs (v : Int) : (v.tmod 10).natAbs = v.natAbs % 10 := by rw [Int.natAbs_tmod]; rfl

theorem itoa_neg_eq {n : Int} {x : ByteArray} (h : n < 0) (hd : dig0 (0 : Int).natAbs ++ x.data.toList = Lib.decDigits n.natAbs) : (⟨#[45]⟩ ++ x : ByteArray) = ⟨(Lib.itoa n).toArray⟩ := by
  rw [nbytes_eq, append_one]
  have : x.data.toList = Lib.decDigits n.natAbs := hd
  rw [this]; simp [Lib.itoa, h]
theorem itoa_pos_eq {n : Int} {x : ByteArray} (h : 0 ≤ n) (hd : dig0 (0 : Int).natAbs ++ x.data.toList = Lib.decDigits n.natAbs) : x = ⟨(Lib.itoa n).toArray⟩ := by
  rw [nbytes_eq]
  have : x.data.toList = Lib.decDigits n.natAbs := hd
  rw [this]
  have e : n.toNat = n.natAbs := by omega
  simp [Lib.itoa, show ¬ n < 0 by omega, e]
theorem ret_str {x y : ByteArray} (h : x = y) : Ending.returned (.string x) = .returned (.string y) := by rw [h]

set_option maxRecDepth 100000 in
set_option maxHeartbeats 1000000 in
theorem rtext_loop (n : Int) (w : World) (h1 : -9223372036854775808 ≤ n) (h2 : n ≤ 9223372036854775807) (hn : (n == 0) = false) :
    Calls Tryd.prog 61 #[.int .i64 n] w fun e w' => e = .returned (.string ⟨(Lib.itoa n).toArray⟩) ∧ Below w.heap.size w w' := by
  have hn0 : n ≠ 0 := by simpa using hn
  have HN : Hid (n ≠ 0) := hn0
  clear hn0
  go_enter Tryd.func61, Tryd.ntmps61
  go_wp2_with fail
  go_loopw [3, 4] (fun s m wr => ∃ (x : ByteArray) (v : Int), s = .string x ∧ m = .int .i64 v ∧ -9223372036854775808 ≤ v ∧ v ≤ 9223372036854775807 ∧ dig0 v.natAbs ++ x.data.toList = Lib.decDigits n.natAbs ∧ Below w.heap.size w wr) (fun _ m _ => (intOf m).natAbs)
  case atStart => exact ⟨⟨#[]⟩, n, rfl, rfl, h1, h2, by simp [dig0, HN.out], Below.refl _ _⟩
  case round =>
    obtain ⟨x, v, rfl, rfl, v1, v2, hd, hb⟩ := hrel
    have hx : x.size ≤ 20 := size_of hd (by omega)
    have HD := Lib.hid hd
    have HB := Lib.hid hb
    clear hd hb
    by_cases hz : v = 0
    · subst hz
      clear v1 v2
      by_cases hs : n < 0
      · have E := Lib.hid (itoa_neg_eq hs HD.out)
        go_wp2_with fail
        go_ret
        exact ⟨ret_str E.out, HB.out⟩
      · have E := Lib.hid (itoa_pos_eq (by omega) HD.out)
        go_wp2_with fail
        go_ret
        exact ⟨ret_str E.out, HB.out⟩
    · have hz' : (v != 0) = true := by simpa using hz
      have HZ : Hid (v ≠ 0) := hz
      clear hz
      by_cases hs : v < 0
      · have tb := tmod_lt (a := v) (b := 10) (by omega)
        have ta := tmod_abs v
        have tc := tdiv_abs v
        have td := @tdiv_le v 10
        have t1 : -9 ≤ v.tmod 10 := by omega
        have t2 : v.tmod 10 ≤ 0 := by omega
        have t3 : -9223372036854775808 ≤ v.tdiv 10 := by omega
        have t4 : v.tdiv 10 ≤ 9223372036854775807 := by omega
        have TA := Lib.hid ta
        have TC := Lib.hid tc
        clear ta tc tb td
        by_cases ht : v.tmod 10 < 0
        · have hc := conv_one wr (48 + -v.tmod 10)
          go_wp2_with fail
          go_roundw
          case rel => exact ⟨_, _, rfl, rfl, by omega, by omega, round_step HZ.out TC.out (by have := TA.out; congr 1; omega) HD.out, HB.out.alloc HB.out.size _⟩
          case measure => exact (show (v.tdiv 10).natAbs < v.natAbs by have := HZ.out; have := TC.out; omega)
        · have hc := conv_one wr (48 + v.tmod 10)
          go_wp2_with fail
          go_roundw
          case rel => exact ⟨_, _, rfl, rfl, by omega, by omega, round_step HZ.out TC.out (by have := TA.out; congr 1; omega) HD.out, HB.out.alloc HB.out.size _⟩
          case measure => exact (show (v.tdiv 10).natAbs < v.natAbs by have := HZ.out; have := TC.out; omega)
      · have hc := conv_one wr (48 + v % 10)
        go_wp2_with fail
        go_roundw
        case rel => exact ⟨_, _, rfl, rfl, by omega, by omega, round_step HZ.out (by omega) (by congr 1; omega) HD.out, HB.out.alloc HB.out.size _⟩
        case measure => have := HZ.out; simp [intOf]; omega

theorem rtext_any (n : Int) (w : World) (h1 : -9223372036854775808 ≤ n) (h2 : n ≤ 9223372036854775807) :
    Calls Tryd.prog 61 #[.int .i64 n] w fun e w' => e = .returned (.string ⟨(Lib.itoa n).toArray⟩) ∧ Below w.heap.size w w' := by
  by_cases hn : n = 0
  · subst hn
    have e : (⟨(Lib.itoa 0).toArray⟩ : ByteArray) = ⟨#[48]⟩ := by simp [Lib.itoa, Lib.decDigits]
    rw [e]
    clear h1 h2 e
    go_enter Tryd.func61, Tryd.ntmps61
    go_wp2_with fail
    go_ret
    exact ⟨rfl, Below.refl _ _⟩
  · exact rtext_loop n w h1 h2 (by simpa using hn)
end Go.Proofs.YtfenmogbellhdaaDoor
