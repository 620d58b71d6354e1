/-
  Contract of the reference's four.
-/
import Derived.Test.YtfenmogbellhdaaDoorBigRM
import Derived.Test.YtfenmogbellhdaaDoorBigTextMath
namespace Go.Proofs.YtfenmogbellhdaaDoor
open Go.RowKit
theorem cut_dig (W : World) (x : Nat) (h : x ≤ 9) : (Instr.slice 9 (.string ⟨#[48, 49, 50, 51, 52, 53, 54, 55, 56, 57]⟩) (some (.int .i64 (x : Int))) (some (.int .i64 ((x : Int) + 1))) none).run Tryd.prog W = .ok (.string ⟨#[UInt8.ofNat (48 + x)]⟩) W := by
  rcases (by omega : x = 0 ∨ x = 1 ∨ x = 2 ∨ x = 3 ∨ x = 4 ∨ x = 5 ∨ x = 6 ∨ x = 7 ∨ x = 8 ∨ x = 9) with rfl | rfl | rfl | rfl | rfl | rfl | rfl | rfl | rfl | rfl <;> kernel_rfl
set_option maxHeartbeats 2000000 in
theorem four_any (n : Nat) (w : World) (h1 : n < 10000) :
    Calls Tryd.prog 88 #[.int .i64 (n : Int)] w fun e w' => e = .returned (.string ⟨(pad4 n).toArray⟩) ∧ ∃ q, w' = w.drewN q := by
  obtain ⟨a, ha⟩ : ∃ a : Nat, a = n / 1000 := ⟨_, rfl⟩
  obtain ⟨b, hb⟩ : ∃ b : Nat, b = n / 100 % 10 := ⟨_, rfl⟩
  obtain ⟨c, hc⟩ : ∃ c : Nat, c = n / 10 % 10 := ⟨_, rfl⟩
  obtain ⟨d, hd⟩ : ∃ d : Nat, d = n % 10 := ⟨_, rfl⟩
  have HP : Hid (pad4 n = [UInt8.ofNat (48 + a), UInt8.ofNat (48 + b), UInt8.ofNat (48 + c), UInt8.ofNat (48 + d)]) := by
    show pad4 n = _
    rw [ha, hb, hc, hd]; rfl
  have q1 : ((n : Int)).tdiv 1000 = (a : Int) := by rw [ha]; rfl
  have q4 : ((n : Int)).tmod 10 = (d : Int) := by rw [hd]; rfl
  obtain ⟨m, hm⟩ : ∃ m : Nat, m = n / 100 := ⟨_, rfl⟩
  obtain ⟨k, hk⟩ : ∃ k : Nat, k = n / 10 := ⟨_, rfl⟩
  have u1 : (n : Int) / 100 = (m : Int) := by omega
  have u2 : (n : Int) / 10 = (k : Int) := by omega
  have u3 : ((n : Int)).tdiv 100 = (m : Int) := by rw [hm]; rfl
  have u4 : ((n : Int)).tdiv 10 = (k : Int) := by rw [hk]; rfl
  have vm : IntKind.i64.wrap (m : Int) = (m : Int) := IntWalk.i64_in _ (by omega)
  have vk : IntKind.i64.wrap (k : Int) = (k : Int) := IntWalk.i64_in _ (by omega)
  have q2 : ((m : Int)).tmod 10 = (b : Int) := by rw [hb, hm]; rfl
  have q3 : ((k : Int)).tmod 10 = (c : Int) := by rw [hc, hk]; rfl
  have w1 : IntKind.i64.wrap ((a : Int) + 1) = (a : Int) + 1 := IntWalk.i64_in _ (by omega)
  have w2 : IntKind.i64.wrap ((b : Int) + 1) = (b : Int) + 1 := IntWalk.i64_in _ (by omega)
  have w3 : IntKind.i64.wrap ((c : Int) + 1) = (c : Int) + 1 := IntWalk.i64_in _ (by omega)
  have w4 : IntKind.i64.wrap ((d : Int) + 1) = (d : Int) + 1 := IntWalk.i64_in _ (by omega)
  have a1 : a ≤ 9 := by omega
  have b1 : b ≤ 9 := by omega
  have c1 : c ≤ 9 := by omega
  have d1 : d ≤ 9 := by omega
  have pa1 : (0 : Int) ≤ (a : Int) := by omega
  have pa2 : (a : Int) + 1 ≤ 10 := by omega
  have pa3 : (a : Int) ≤ (a : Int) + 1 := by omega
  have pa4 : ((a : Int) + 1).toNat = a + 1 := by omega
  have pb1 : (0 : Int) ≤ (b : Int) := by omega
  have pb2 : (b : Int) + 1 ≤ 10 := by omega
  have pb3 : (b : Int) ≤ (b : Int) + 1 := by omega
  have pb4 : ((b : Int) + 1).toNat = b + 1 := by omega
  have pc1 : (0 : Int) ≤ (c : Int) := by omega
  have pc2 : (c : Int) + 1 ≤ 10 := by omega
  have pc3 : (c : Int) ≤ (c : Int) + 1 := by omega
  have pc4 : ((c : Int) + 1).toNat = c + 1 := by omega
  have pd1 : (0 : Int) ≤ (d : Int) := by omega
  have pd2 : (d : Int) + 1 ≤ 10 := by omega
  have pd3 : (d : Int) ≤ (d : Int) + 1 := by omega
  have pd4 : ((d : Int) + 1).toNat = d + 1 := by omega
  have ra := fun W => cut_dig W a a1
  have rb := fun W => cut_dig W b b1
  have rc := fun W => cut_dig W c c1
  have rd := fun W => cut_dig W d d1
  have va : IntKind.i64.wrap (a : Int) = (a : Int) := IntWalk.i64_in _ (by omega)
  have vb : IntKind.i64.wrap (b : Int) = (b : Int) := IntWalk.i64_in _ (by omega)
  have vc : IntKind.i64.wrap (c : Int) = (c : Int) := IntWalk.i64_in _ (by omega)
  have vd : IntKind.i64.wrap (d : Int) = (d : Int) := IntWalk.i64_in _ (by omega)
  clear ha hb hc hd hm hk
  go_enter Tryd.func88, Tryd.ntmps88
  go_wp2_with fail
  go_quiet (fail)
  have E : (({ data := #[48 + UInt8.ofNat a] } : ByteArray) ++ { data := #[48 + UInt8.ofNat b] } ++ { data := #[48 + UInt8.ofNat c] } ++ { data := #[48 + UInt8.ofNat d] }) = ⟨(pad4 n).toArray⟩ := by
    rw [HP.out]
    apply ByteArray.ext
    simp [ByteArray.data_append, UInt8.ofNat_add]
  have EH := Lib.hid E
  clear E
  go_wp2_with fail
  go_ret
  exact ⟨congrArg (fun s => Ending.returned (Value.string s)) (by have E := EH.out; apply ByteArray.ext; have E2 := congrArg ByteArray.data E; simpa using E2), _, rfl⟩
end Go.Proofs.YtfenmogbellhdaaDoor
