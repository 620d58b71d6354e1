/-
  strings.SplitSeq's iterator at a separator of one byte.
-/
import Derived.Test.YtegognbnphpigaaDoorNmB
import Derived.RangeFuncNested
import Derived.RangeFuncBound
import Derived.RangeFuncCalls
import Derived.RangeFuncLeaves
import Derived.Shelf.Abstract
import Derived.Shelf.RegionOpen
import Derived.WalkKit
import Derived.OwnWalkIn
import Derived.TacticsInMore
import Derived.LoopNIn
import Derived.LoopIn
import Derived.Test.YtegognbnphpigaaDoorShelf
namespace Go.Proofs.YtegognbnphpigaaDoor
open Go.RowKit Go.Shelf

attribute [local go_sem] Oper.semAt_some
theorem idx46_none : ∀ {l : Txt}, Lib.indexByte l 46 < 0 → cut46 l = [l]
  | [], _ => rfl
  | c :: l, h => by
    have hg := Lib.indexByte_ge l 46
    by_cases hc : c = 46
    · subst hc; simp [Lib.indexByte] at h
    · have hb : (c == 46) = false := beq_eq_false_iff_ne.2 hc
      have hi : Lib.indexByte l 46 < 0 := by
        by_cases e : Lib.indexByte l 46 = -1
        · omega
        · have eb : (Lib.indexByte l 46 == -1) = false := by simpa using e
          unfold Lib.indexByte at h
          rw [hb, eb] at h
          simp at h
          omega
      unfold cut46
      rw [if_neg hc, idx46_none hi]
theorem idx46_some : ∀ {l : Txt} {i : Nat}, Lib.indexByte l 46 = i → i < l.length ∧ cut46 l = l.take i :: cut46 (l.drop (i + 1))
  | [], i, h => by simp [Lib.indexByte] at h
  | c :: l, i, h => by
    have hg := Lib.indexByte_ge l 46
    by_cases hc : c = 46
    · subst hc
      obtain rfl : i = 0 := by
        have h2 : (0 : Int) = i := by simpa [Lib.indexByte] using h
        omega
      exact ⟨by simp, by simp [cut46]⟩
    · have hb : (c == 46) = false := by simpa using hc
      unfold Lib.indexByte at h
      rw [hb] at h
      by_cases e : Lib.indexByte l 46 = -1
      · have eb : (Lib.indexByte l 46 == -1) = true := by simpa using e
        rw [eb] at h; simp at h
      · have eb : (Lib.indexByte l 46 == -1) = false := by simpa using e
        rw [eb] at h
        simp at h
        obtain ⟨j, rfl⟩ : ∃ j : Nat, i = j + 1 := ⟨i - 1, by omega⟩
        obtain ⟨h1, h2⟩ := idx46_some (l := l) (i := j) (by omega)
        refine ⟨by simp; omega, ?_⟩
        rw [cut46]
        rw [if_neg hc, h2]
        show (c :: l.take j) :: cut46 (l.drop (j + 1)) = (c :: l).take (j + 1) :: cut46 (l.drop (j + 1))
        rfl
theorem ext_take (x : ByteArray) (i : Nat) : (x.extract 0 i).data.toList = x.data.toList.take i := by
  simp [ByteArray.data_extract, List.extract]
theorem ext_drop (x : ByteArray) (i : Nat) : (x.extract i x.size).data.toList = x.data.toList.drop i := by
  simp only [ByteArray.data_extract, Array.toList_extract, List.extract]
  rw [List.take_of_length_le]
  rw [List.length_drop, ← size_list]
  omega

set_option maxHeartbeats 2000000 in
theorem split_in (n : Nat) (hn : 1 ≤ n) (l bp bs bv n₀ : Nat) (hbp : bp < n₀) (hbs : bs < n₀) (hbv : bv < n₀) (hp : bp ≠ bs) (hv : bv ≠ bs) (S : Txt) (J Jx : List Txt → World → Prop)
    (hY : ∀ (pre : List Txt) (y : ByteArray) (W1 : World), J pre W1 → YieldAt Fence.wide (n - 1) Tryd.prog l #[.string y] W1 fun e W' =>
      (e = .returned (.bool true) ∧ J (pre ++ [y.data.toList]) W' ∧ Below n₀ W1 W') ∨ (e = .returned (.bool false) ∧ Jx (pre ++ [y.data.toList]) W'))
    (hC : ∀ (pre : List Txt) (W1 : World) (y z : ByteArray), J pre W1 → W1.cell? ⟨bs, 0, none⟩ = some (.string y) → J pre (W1.setCell ⟨bs, 0, none⟩ (.string z)))
    (W : World) (x : ByteArray) (hx : x.data.toList = S) (hx2 : x.size ≤ 10000) (c1 : W.cell? ⟨bp, 0, none⟩ = some (.string ⟨#[46]⟩)) (c2 : W.cell? ⟨bs, 0, none⟩ = some (.string x)) (c3 : W.cell? ⟨bv, 0, none⟩ = some (.int .i64 0)) (f2 : W.frozen? ⟨bs, 0, none⟩ = false) (h0 : J [] W) :
    CallsIn Fence.wide n Tryd.prog 87 #[.func (.yield l) #[] #[], .pointer (some ⟨bp, 0, none⟩), .pointer (some ⟨bs, 0, none⟩), .pointer (some ⟨bv, 0, none⟩)] W fun e W' => (∃ v, e = .returned v) ∧
      (J (cut46 S) W' ∨ ∃ pre, pre <+: cut46 S ∧ Jx pre W') := by
  have hfn : Fence.wide.fn 87 := trivial
  refine callsIn_of_wp Tryd.func87 rfl hfn ?_ rfl
  simp only [Tryd.ntmps87, List.size_toArray, List.length_cons, List.length_nil, Nat.reduceAdd, Nat.reduceSub, Array.replicate_succ, Array.replicate_zero, List.push_toArray, List.append_toArray, List.nil_append, List.cons_append]
  gi_wp2
  gi_loopw [7] (fun _ wr => ∃ (pre : List Txt) (y : ByteArray), y.size ≤ 10000 ∧ cut46 S = pre ++ cut46 y.data.toList ∧ wr.cell? ⟨bp, 0, none⟩ = some (.string ⟨#[46]⟩) ∧ wr.cell? ⟨bs, 0, none⟩ = some (.string y) ∧ wr.cell? ⟨bv, 0, none⟩ = some (.int .i64 0) ∧ wr.frozen? ⟨bs, 0, none⟩ = false ∧ J pre wr)
    (fun _ wr => match wr.cell? ⟨bs, 0, none⟩ with | some (.string y) => y.size | _ => 0)
  case atStart =>
    exact ⟨[], x, hx2, by rw [hx]; rfl, c1, c2, c3, f2, h0⟩
  case round =>
    obtain ⟨pre, y, hy4, hcut, d1, d2, d3, g2, hJ⟩ := hrel
    have CI := callsIn_wide (n := n - 1) |>.2 (Tryd.strings_Index_one y 46 wr)
    have hf1 : Fence.wide.fn 89 := trivial
    generalize hi : Lib.indexByte y.data.toList 46 = i at CI
    have HI := Lib.hid hi
    have HC := Lib.hid hcut
    have hge : -1 ≤ i := by rw [← hi]; exact Lib.indexByte_ge _ _
    clear hi hcut
    by_cases h : i < 0
    · have HE : Hid (cut46 S = pre ++ [y.data.toList]) := by show _ = _; rw [HC.out, idx46_none (by rw [HI.out]; exact h)]
      obtain ⟨fn, tmps, assign, body, hy, hR⟩ := hY pre y wr hJ
      gi_wp2_with (gi_at_call 89; refine CI.mono ?_; rintro e wx ⟨rfl, rfl⟩)
      refine hR.mono ?_
      rintro e W3 (⟨rfl, hJ3, hk3⟩ | ⟨rfl, hJx3⟩)
      · gi_wp2
        go_end0
        exact ⟨⟨_, rfl⟩, .inl (by rw [HE.out]; exact hJ3)⟩
      · gi_wp2
        go_end0
        exact ⟨⟨_, rfl⟩, .inr ⟨_, by rw [HE.out]; exact List.prefix_refl _, hJx3⟩⟩
    · obtain ⟨k, rfl⟩ : ∃ k : Nat, i = (k : Int) := ⟨i.toNat, by omega⟩
      obtain ⟨hk, hcc⟩ := idx46_some HI.out
      have hks : k < y.size := by rw [size_list]; exact hk
      have HE : Hid (cut46 S = (pre ++ [(y.extract 0 k).data.toList]) ++ cut46 (y.extract (k + 1) y.size).data.toList) := by
        show _ = _
        rw [HC.out, hcc, ext_take, ext_drop, List.append_assoc]; rfl
      have p1 : (k : Int) ≤ (y.size : Int) := by omega
      have p2 : (k : Int) + 1 ≤ (y.size : Int) := by omega
      have p3 : (k : Int) ≤ 10000 := by omega
      have p4 : IntKind.i64.wrap (k : Int) = k := (IntWalk.i64_left _).trans (IntWalk.wrap64_in _ (by omega))
      have p5 : IntKind.i64.wrap ((k : Int) + 1) = k + 1 := (IntWalk.i64_left _).trans (IntWalk.wrap64_in _ (by omega))
      have HKS := Lib.hid hks
      clear hk hcc h hks
      obtain ⟨fn, tmps, assign, body, hy, hR⟩ := hY pre (y.extract 0 k) wr hJ
      gi_wp2_with (gi_at_call 89; refine CI.mono ?_; rintro e wx ⟨rfl, rfl⟩)
      refine hR.mono ?_
      rintro e W3 (⟨rfl, hJ3, hk3⟩ | ⟨rfl, hJx3⟩)
      · have e1 : W3.cell? ⟨bp, 0, none⟩ = some (.string ⟨#[46]⟩) := (hk3.cell (p := ⟨bp, 0, none⟩) hbp).trans d1
        have e2 : W3.cell? ⟨bs, 0, none⟩ = some (.string y) := (hk3.cell (p := ⟨bs, 0, none⟩) hbs).trans d2
        have e3 : W3.cell? ⟨bv, 0, none⟩ = some (.int .i64 0) := (hk3.cell (p := ⟨bv, 0, none⟩) hbv).trans d3
        have g3 : W3.frozen? ⟨bs, 0, none⟩ = false := (hk3.frozen (p := ⟨bs, 0, none⟩) hbs).trans g2
        have HJ := Lib.hid (hC _ W3 y (y.extract (k + 1) y.size) hJ3 e2)
        have HB : Hid ((y.extract (k + 1) y.size).size ≤ 10000) := by show _ ≤ _; rw [ByteArray.size_extract]; omega
        have HD2 := Lib.hid d2
        have n1 : (W3.setCell ⟨bs, 0, none⟩ (.string (y.extract (k + 1) y.size))).cell? ⟨bp, 0, none⟩ = some (.string ⟨#[46]⟩) := by rw [World.cell?_setCell_other _ _ _ _ (fun e => hp (by cases e; rfl))]; exact e1
        have n2 : (W3.setCell ⟨bs, 0, none⟩ (.string (y.extract (k + 1) y.size))).cell? ⟨bs, 0, none⟩ = some (.string (y.extract (k + 1) y.size)) := World.cell?_setCell_same' _ _ _ (by rw [e2]; rfl)
        have n3 : (W3.setCell ⟨bs, 0, none⟩ (.string (y.extract (k + 1) y.size))).cell? ⟨bv, 0, none⟩ = some (.int .i64 0) := by rw [World.cell?_setCell_other _ _ _ _ (fun e => hv (by cases e; rfl))]; exact e3
        have n4 : (W3.setCell ⟨bs, 0, none⟩ (.string (y.extract (k + 1) y.size))).frozen? ⟨bs, 0, none⟩ = false := by rw [World.frozen?_setCell]; exact g3
        have N1 := Lib.hid n1
        have N2 := Lib.hid n2
        have N3 := Lib.hid n3
        have N4 := Lib.hid n4
        clear hJ3 hk3 d1 d2 d3 g2 hJ n1 n2 n3 n4
        gi_wp2
        go_roundw
        case rel => exact ⟨_, _, HB.out, HE.out, N1.out, N2.out, N3.out, N4.out, HJ.out⟩
        case measure =>
          have n2 := N2.out
          have d2 := HD2.out
          have hks := HKS.out
          simp only [n2, d2]
          rw [ByteArray.size_extract]
          omega
      · gi_wp2
        refine bodyPost_ret (results_none rfl _ _ _) rfl ?_
        exact ⟨⟨_, rfl⟩, .inr ⟨_, by rw [HE.out]; exact List.prefix_append _ _, hJx3⟩⟩
end Go.Proofs.YtegognbnphpigaaDoor
