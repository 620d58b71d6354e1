/-
  Of of sort and of the reference.
-/
import Derived.Test.YtegognbnphpigaaDoorSoJ
namespace Go.Proofs.YtegognbnphpigaaDoor
open Go.RowKit

def ofS (op : Int) (nm : ByteArray) (n : Nat) : ByteArray := if op = 1 then ⟨#[73, 110, 116]⟩ else if op = 2 then ⟨#[66, 111, 111, 108]⟩ else if op = 3 then ⟨#[67, 101, 108, 108]⟩ else if op = 4 ∧ n = 0 then nm else ⟨#[]⟩
def ofB (op : Int) (n : Nat) : Bool := decide (op = 1) || decide (op = 2) || decide (op = 3) || decide (op = 4 ∧ n = 0)
def ofR (op : Int) (nm : ByteArray) (n : Nat) : Value := .tuple #[.string (ofS op nm n), .bool (ofB op n)]
set_option maxRecDepth 100000 in
set_option maxHeartbeats 2000000 in
theorem of_any (op : Int) (nm : ByteArray) (A : Option Addr) (n c : Nat) (A3 : Option Addr) (n3 c3 : Nat) (o4 : Int) (s5 : ByteArray) (i6 : Int) (A7 : Option Addr) (n7 c7 : Nat) (A8 : Option Addr) (n8 c8 : Nat) (w : World) : Calls Tryd.prog 27 #[.agg #[.int .i64 op, .string nm, .slice A n c, .slice A3 n3 c3, .int .i64 o4, .string s5, .int .i64 i6, .slice A7 n7 c7, .slice A8 n8 c8]] w fun e w' => e = .returned (ofR op nm n) ∧ Below w.heap.size w w' := by
  by_cases h1 : op = 1
  · have HR : Hid (ofR op nm n = .tuple #[.string ⟨#[73, 110, 116]⟩, .bool true]) := by show ofR op nm n = _; unfold ofR; simp [ofS, ofB, h1]
    rw [HR.out]
    have q1 : (op == 1) = true := by rw [h1]; rfl
    clear h1
    go_enter Tryd.func27, Tryd.ntmps27
    go_wp2_with fail
    refine bodyPost_ret (v := .tuple #[.string ⟨#[73, 110, 116]⟩, .bool true]) (by simp [results, Tryd.results27, go_sem, *]) rfl ⟨rfl, below_alloc _⟩
  by_cases h2 : op = 2
  · have HR : Hid (ofR op nm n = .tuple #[.string ⟨#[66, 111, 111, 108]⟩, .bool true]) := by show ofR op nm n = _; unfold ofR; simp [ofS, ofB, h2]
    rw [HR.out]
    have q1 : (op == 1) = false := beq_eq_false_iff_ne.2 h1
    have q2 : (op == 2) = true := by rw [h2]; rfl
    clear h1 h2
    go_enter Tryd.func27, Tryd.ntmps27
    go_wp2_with fail
    refine bodyPost_ret (v := .tuple #[.string ⟨#[66, 111, 111, 108]⟩, .bool true]) (by simp [results, Tryd.results27, go_sem, *]) rfl ⟨rfl, below_alloc _⟩
  by_cases h3 : op = 3
  · have HR : Hid (ofR op nm n = .tuple #[.string ⟨#[67, 101, 108, 108]⟩, .bool true]) := by show ofR op nm n = _; unfold ofR; simp [ofS, ofB, h3]
    rw [HR.out]
    have q1 : (op == 1) = false := beq_eq_false_iff_ne.2 h1
    have q2 : (op == 2) = false := beq_eq_false_iff_ne.2 h2
    have q3 : (op == 3) = true := by rw [h3]; rfl
    clear h1 h2 h3
    go_enter Tryd.func27, Tryd.ntmps27
    go_wp2_with fail
    refine bodyPost_ret (v := .tuple #[.string ⟨#[67, 101, 108, 108]⟩, .bool true]) (by simp [results, Tryd.results27, go_sem, *]) rfl ⟨rfl, below_alloc _⟩
  have q1 : (op == 1) = false := beq_eq_false_iff_ne.2 h1
  have q2 : (op == 2) = false := beq_eq_false_iff_ne.2 h2
  have q3 : (op == 3) = false := beq_eq_false_iff_ne.2 h3
  by_cases h4 : op = 4
  · have q4 : (op == 4) = true := by rw [h4]; rfl
    by_cases h0 : n = 0
    · have z0 : ((n : Int) == 0) = true := by rw [h0]; rfl
      have HR : Hid (ofR op nm n = .tuple #[.string nm, .bool true]) := by show ofR op nm n = _; unfold ofR; simp [ofS, ofB, h4, h0]
      rw [HR.out]
      clear h1 h2 h3 h4 h0
      go_enter Tryd.func27, Tryd.ntmps27
      go_wp2_with fail
      refine bodyPost_ret (v := .tuple #[.string nm, .bool true]) (by simp [results, Tryd.results27, go_sem, *]) rfl ⟨rfl, below_alloc _⟩
    · have z0 : ((n : Int) == 0) = false := beq_eq_false_iff_ne.2 (by omega)
      have HR : Hid (ofR op nm n = .tuple #[.string ⟨#[]⟩, .bool false]) := by show ofR op nm n = _; unfold ofR; simp [ofS, ofB, h4, h0]
      rw [HR.out]
      clear h1 h2 h3 h4 h0
      go_enter Tryd.func27, Tryd.ntmps27
      go_wp2_with fail
      refine bodyPost_ret (v := .tuple #[.string ⟨#[]⟩, .bool false]) (by simp [results, Tryd.results27, go_sem, *]) rfl ⟨rfl, below_alloc _⟩
  · have q4 : (op == 4) = false := beq_eq_false_iff_ne.2 h4
    have HR : Hid (ofR op nm n = .tuple #[.string ⟨#[]⟩, .bool false]) := by show ofR op nm n = _; unfold ofR; simp [ofS, ofB, h1, h2, h3, h4]
    rw [HR.out]
    clear h1 h2 h3 h4
    go_enter Tryd.func27, Tryd.ntmps27
    go_wp2_with fail
    refine bodyPost_ret (v := .tuple #[.string ⟨#[]⟩, .bool false]) (by simp [results, Tryd.results27, go_sem, *]) rfl ⟨rfl, below_alloc _⟩
set_option maxRecDepth 100000 in
set_option maxHeartbeats 2000000 in
theorem rof_any (op : Int) (nm : ByteArray) (A : Option Addr) (n c : Nat) (A3 : Option Addr) (n3 c3 : Nat) (o4 : Int) (s5 : ByteArray) (i6 : Int) (A7 : Option Addr) (n7 c7 : Nat) (A8 : Option Addr) (n8 c8 : Nat) (w : World) : Calls Tryd.prog 28 #[.agg #[.int .i64 op, .string nm, .slice A n c, .slice A3 n3 c3, .int .i64 o4, .string s5, .int .i64 i6, .slice A7 n7 c7, .slice A8 n8 c8]] w fun e w' => e = .returned (ofR op nm n) ∧ Below w.heap.size w w' := by
  by_cases h1 : op = 1
  · have HR : Hid (ofR op nm n = .tuple #[.string ⟨#[73, 110, 116]⟩, .bool true]) := by show ofR op nm n = _; unfold ofR; simp [ofS, ofB, h1]
    rw [HR.out]
    have q1 : (op == 1) = true := by rw [h1]; rfl
    clear h1
    go_enter Tryd.func28, Tryd.ntmps28
    go_wp2_with fail
    refine bodyPost_ret (v := .tuple #[.string ⟨#[73, 110, 116]⟩, .bool true]) (by simp [results, Tryd.results28, go_sem, *]) rfl ⟨rfl, below_alloc _⟩
  by_cases h2 : op = 2
  · have HR : Hid (ofR op nm n = .tuple #[.string ⟨#[66, 111, 111, 108]⟩, .bool true]) := by show ofR op nm n = _; unfold ofR; simp [ofS, ofB, h2]
    rw [HR.out]
    have q1 : (op == 1) = false := beq_eq_false_iff_ne.2 h1
    have q2 : (op == 2) = true := by rw [h2]; rfl
    clear h1 h2
    go_enter Tryd.func28, Tryd.ntmps28
    go_wp2_with fail
    refine bodyPost_ret (v := .tuple #[.string ⟨#[66, 111, 111, 108]⟩, .bool true]) (by simp [results, Tryd.results28, go_sem, *]) rfl ⟨rfl, below_alloc _⟩
  by_cases h3 : op = 3
  · have HR : Hid (ofR op nm n = .tuple #[.string ⟨#[67, 101, 108, 108]⟩, .bool true]) := by show ofR op nm n = _; unfold ofR; simp [ofS, ofB, h3]
    rw [HR.out]
    have q1 : (op == 1) = false := beq_eq_false_iff_ne.2 h1
    have q2 : (op == 2) = false := beq_eq_false_iff_ne.2 h2
    have q3 : (op == 3) = true := by rw [h3]; rfl
    clear h1 h2 h3
    go_enter Tryd.func28, Tryd.ntmps28
    go_wp2_with fail
    refine bodyPost_ret (v := .tuple #[.string ⟨#[67, 101, 108, 108]⟩, .bool true]) (by simp [results, Tryd.results28, go_sem, *]) rfl ⟨rfl, below_alloc _⟩
  have q1 : (op == 1) = false := beq_eq_false_iff_ne.2 h1
  have q2 : (op == 2) = false := beq_eq_false_iff_ne.2 h2
  have q3 : (op == 3) = false := beq_eq_false_iff_ne.2 h3
  by_cases h4 : op = 4
  · have q4 : (op == 4) = true := by rw [h4]; rfl
    by_cases h0 : n = 0
    · have z0 : ((n : Int) == 0) = true := by rw [h0]; rfl
      have HR : Hid (ofR op nm n = .tuple #[.string nm, .bool true]) := by show ofR op nm n = _; unfold ofR; simp [ofS, ofB, h4, h0]
      rw [HR.out]
      clear h1 h2 h3 h4 h0
      go_enter Tryd.func28, Tryd.ntmps28
      go_wp2_with fail
      refine bodyPost_ret (v := .tuple #[.string nm, .bool true]) (by simp [results, Tryd.results28, go_sem, *]) rfl ⟨rfl, below_alloc _⟩
    · have z0 : ((n : Int) == 0) = false := beq_eq_false_iff_ne.2 (by omega)
      have HR : Hid (ofR op nm n = .tuple #[.string ⟨#[]⟩, .bool false]) := by show ofR op nm n = _; unfold ofR; simp [ofS, ofB, h4, h0]
      rw [HR.out]
      clear h1 h2 h3 h4 h0
      go_enter Tryd.func28, Tryd.ntmps28
      go_wp2_with fail
      refine bodyPost_ret (v := .tuple #[.string ⟨#[]⟩, .bool false]) (by simp [results, Tryd.results28, go_sem, *]) rfl ⟨rfl, below_alloc _⟩
  · have q4 : (op == 4) = false := beq_eq_false_iff_ne.2 h4
    have HR : Hid (ofR op nm n = .tuple #[.string ⟨#[]⟩, .bool false]) := by show ofR op nm n = _; unfold ofR; simp [ofS, ofB, h1, h2, h3, h4]
    rw [HR.out]
    clear h1 h2 h3 h4
    go_enter Tryd.func28, Tryd.ntmps28
    go_wp2_with fail
    refine bodyPost_ret (v := .tuple #[.string ⟨#[]⟩, .bool false]) (by simp [results, Tryd.results28, go_sem, *]) rfl ⟨rfl, below_alloc _⟩
end Go.Proofs.YtegognbnphpigaaDoor
