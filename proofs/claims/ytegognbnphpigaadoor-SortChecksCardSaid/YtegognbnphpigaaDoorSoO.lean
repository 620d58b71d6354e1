/-
  SameSorts, SameVars, SameSym, SameHole, SameHoles and Same of the reference, at things that read the same.
-/
import Derived.Test.YtegognbnphpigaaDoorSoN
import Derived.Laws.StructEq
namespace Go.Proofs.YtegognbnphpigaaDoor
open Go.RowKit

theorem same_txt {x y : ByteArray} {l : Txt} (hx : x.data.toList = l) (hy : y.data.toList = l) : x = y := nbytes_eq.2 (hx.trans hy.symm)
theorem txt_self (x : ByteArray) : (x.toList == x.toList) = true := beq_self_eq_true _
theorem nat_self (n : Nat) : ((n : Int) == (n : Int)) = true := beq_self_eq_true _
theorem nat_nself (n : Nat) : ((n : Int) != (n : Int)) = false := by rw [bne, nat_self]; rfl
set_option maxRecDepth 100000 in
set_option maxHeartbeats 4000000 in
theorem samesorts_any (A : Option Addr) (n c : Nat) (B : Option Addr) (d : Nat) (ls : List Txt) (w : World) (ha : Ss w A n c ls) (hb : Ss w B n d ls) : Calls Tryd.prog 46 #[.slice A n c, .slice B n d] w fun e w' => e = .returned (.bool true) ∧ Below w.heap.size w w' := by
  have HA := Lib.hid ha
  have HB := Lib.hid hb
  have h47 : n ≤ 9223372036854775807 := Nat.le_trans ha.cap ha.top
  have z1 := nat_self n
  have z2 := nat_nself n
  clear ha hb
  go_enter Tryd.func46, Tryd.ntmps46
  go_wp2_with fail
  go_loopw [5] (fun iv wr => ∃ k q : Nat, k ≤ n ∧ iv = .int .i64 (k : Int) ∧ wr = w.drewN q) (fun iv _ => n - (intOf iv).toNat)
  case atStart => exact ⟨0, 0, Nat.zero_le _, rfl, rfl⟩
  case round =>
    obtain ⟨k, q, hk, rfl, rfl⟩ := hrel
    by_cases hlt : k < n
    · obtain ⟨g, o, x, rfl, -, c0, hx⟩ := HA.out.at_ hlt
      obtain ⟨g', o', x', rfl, -, e0, hx'⟩ := HB.out.at_ hlt
      have hxx := same_txt hx.out hx'.out
      subst hxx
      have t1 := txt_self x
      have r1 : (k : Int) < (n : Int) := by omega
      clear hx hx'
      go_upto_region 6 with fail
      go_quiet (fail)
      go_wp2_with fail
      go_roundw
      case rel => exact ⟨k + 1, _, by omega, by go_num, rfl⟩
      case measure => simp [intOf] <;> omega
    · have r1 : ¬ (k : Int) < (n : Int) := by omega
      go_wp2_with fail
      go_ret
      exact ⟨rfl, belowD _ _⟩
set_option maxRecDepth 100000 in
set_option maxHeartbeats 4000000 in
theorem samevars_any (A : Option Addr) (n c : Nat) (B : Option Addr) (d : Nat) (ls : List Vr) (w : World) (ha : Vs w A n c ls) (hb : Vs w B n d ls) : Calls Tryd.prog 47 #[.slice A n c, .slice B n d] w fun e w' => e = .returned (.bool true) ∧ Below w.heap.size w w' := by
  have HA := Lib.hid ha
  have HB := Lib.hid hb
  have h47 : n ≤ 9223372036854775807 := Nat.le_trans ha.cap ha.top
  have z1 := nat_self n
  have z2 := nat_nself n
  clear ha hb
  go_enter Tryd.func47, Tryd.ntmps47
  go_wp2_with fail
  go_loopw [5] (fun iv wr => ∃ k q : Nat, k ≤ n ∧ iv = .int .i64 (k : Int) ∧ wr = w.drewN q) (fun iv _ => n - (intOf iv).toNat)
  case atStart => exact ⟨0, 0, Nat.zero_le _, rfl, rfl⟩
  case round =>
    obtain ⟨k, q, hk, rfl, rfl⟩ := hrel
    by_cases hlt : k < n
    · obtain ⟨g, o, x, y, rfl, -, c0, c1, hx, hy⟩ := HA.out.at_ hlt
      obtain ⟨g', o', x', y', rfl, -, e0, e1, hx', hy'⟩ := HB.out.at_ hlt
      have hxx := same_txt hx.out hx'.out
      subst hxx
      have hyy := same_txt hy.out hy'.out
      subst hyy
      have t1 := txt_self x
      have t2 := txt_self y
      have r1 : (k : Int) < (n : Int) := by omega
      clear hx hx' hy hy'
      go_upto_region 6 with fail
      go_quiet (fail)
      go_wp2_with fail
      go_roundw
      case rel => exact ⟨k + 1, _, by omega, by go_num, rfl⟩
      case measure => simp [intOf] <;> omega
    · have r1 : ¬ (k : Int) < (n : Int) := by omega
      go_wp2_with fail
      go_ret
      exact ⟨rfl, belowD _ _⟩
set_option maxRecDepth 100000 in
set_option maxHeartbeats 4000000 in
theorem samesym_any (x y : ByteArray) (A : Option Addr) (n c : Nat) (B : Option Addr) (d : Nat) (ls : List Txt) (w : World) (ha : Ss w A n c ls) (hb : Ss w B n d ls) : Calls Tryd.prog 25 #[.agg #[.string x, .slice A n c, .string y], .agg #[.string x, .slice B n d, .string y]] w fun e w' => e = .returned (.bool true) ∧ Below w.heap.size w w' := by
  have K0 : Hid (Bk 25 ((w.alloc (.cells #[.string x, .slice A n c, .string y] 25)).alloc (.cells #[.string x, .slice B n d, .string y] 25)) w.heap.size #[.string x, .slice A n c, .string y]) := (Bk.new 25 w #[.string x, .slice A n c, .string y]).alloc _
  have K1 : Hid (Bk 25 ((w.alloc (.cells #[.string x, .slice A n c, .string y] 25)).alloc (.cells #[.string x, .slice B n d, .string y] 25)) (w.heap.size + 1) #[.string x, .slice B n d, .string y]) := Bk.at _ (by simp)
  have HB0 : Hid (Below w.heap.size w ((w.alloc (.cells #[.string x, .slice A n c, .string y] 25)).alloc (.cells #[.string x, .slice B n d, .string y] 25))) := nbelow_on (below_alloc _) (below_alloc _)
  have CA := samesorts_any A n c B d ls _ (ha.below HB0.out) (hb.below HB0.out)
  have t1 := txt_self x
  have t2 := txt_self y
  have e0 := K0.out.c 0 (v := .string x) rfl
  have e1 := K0.out.c 1 (v := .slice A n c) rfl
  have f0 := K1.out.c 0 (v := .string x) rfl
  have f1 := K1.out.c 1 (v := .slice B n d) rfl
  clear ha hb
  go_enter Tryd.func25, Tryd.ntmps25
  go_wp2_with fail
  (refine CA.mono ?_); rintro e w3 ⟨rfl, hb⟩
  have HB3 := Lib.hid (nbelow_on HB0.out hb)
  have e2 := (K0.out.below hb).c 2 (v := .string y) rfl
  have f2 := (K1.out.below hb).c 2 (v := .string y) rfl
  clear hb CA e0 e1 f0 f1
  go_wp2_with fail
  go_ret
  exact ⟨rfl, HB3.out⟩
set_option maxRecDepth 100000 in
set_option maxHeartbeats 4000000 in
theorem samehole_any (x : ByteArray) (A : Option Addr) (n c : Nat) (B : Option Addr) (d : Nat) (ls : List Vr) (w : World) (ha : Vs w A n c ls) (hb : Vs w B n d ls) : Calls Tryd.prog 26 #[.agg #[.string x, .slice A n c], .agg #[.string x, .slice B n d]] w fun e w' => e = .returned (.bool true) ∧ Below w.heap.size w w' := by
  have K0 : Hid (Bk 44 ((w.alloc (.cells #[.string x, .slice A n c] 44)).alloc (.cells #[.string x, .slice B n d] 44)) w.heap.size #[.string x, .slice A n c]) := (Bk.new 44 w #[.string x, .slice A n c]).alloc _
  have K1 : Hid (Bk 44 ((w.alloc (.cells #[.string x, .slice A n c] 44)).alloc (.cells #[.string x, .slice B n d] 44)) (w.heap.size + 1) #[.string x, .slice B n d]) := Bk.at _ (by simp)
  have HB0 : Hid (Below w.heap.size w ((w.alloc (.cells #[.string x, .slice A n c] 44)).alloc (.cells #[.string x, .slice B n d] 44))) := nbelow_on (below_alloc _) (below_alloc _)
  have CA := samevars_any A n c B d ls _ (ha.below HB0.out) (hb.below HB0.out)
  have t1 := txt_self x
  have e0 := K0.out.c 0 (v := .string x) rfl
  have e1 := K0.out.c 1 (v := .slice A n c) rfl
  have f0 := K1.out.c 0 (v := .string x) rfl
  have f1 := K1.out.c 1 (v := .slice B n d) rfl
  clear ha hb
  go_enter Tryd.func26, Tryd.ntmps26
  go_wp2_with fail
  (refine CA.mono ?_); rintro e w3 ⟨rfl, hb⟩
  have HB3 := Lib.hid (nbelow_on HB0.out hb)
  clear hb CA e0 e1 f0 f1
  go_wp2_with fail
  go_ret
  exact ⟨rfl, HB3.out⟩
theorem samehole_at (W X : World) (hX : Below W.heap.size W X) (x : ByteArray) (A : Option Addr) (n c : Nat) (B : Option Addr) (d : Nat) (ls : List Vr) (ha : Vs W A n c ls) (hb : Vs W B n d ls) : Calls Tryd.prog 26 #[.agg #[.string x, .slice A n c], .agg #[.string x, .slice B n d]] X fun e w' => e = .returned (.bool true) ∧ Below W.heap.size W w' := by
  refine (samehole_any x A n c B d ls X (ha.below hX) (hb.below hX)).mono ?_
  rintro e w' ⟨rfl, h⟩
  exact ⟨rfl, nbelow_on hX h⟩
theorem samesym_at (W X : World) (hX : Below W.heap.size W X) (x y : ByteArray) (A : Option Addr) (n c : Nat) (B : Option Addr) (d : Nat) (ls : List Txt) (ha : Ss W A n c ls) (hb : Ss W B n d ls) : Calls Tryd.prog 25 #[.agg #[.string x, .slice A n c, .string y], .agg #[.string x, .slice B n d, .string y]] X fun e w' => e = .returned (.bool true) ∧ Below W.heap.size W w' := by
  refine (samesym_any x y A n c B d ls X (ha.below hX) (hb.below hX)).mono ?_
  rintro e w' ⟨rfl, h⟩
  exact ⟨rfl, nbelow_on hX h⟩
set_option maxRecDepth 100000 in
set_option maxHeartbeats 4000000 in
theorem sameholes_any (A : Option Addr) (n c : Nat) (B : Option Addr) (d : Nat) (ls : List Ho) (w : World) (ha : Hs w A n c ls) (hb : Hs w B n d ls) : Calls Tryd.prog 48 #[.slice A n c, .slice B n d] w fun e w' => e = .returned (.bool true) ∧ Below w.heap.size w w' := by
  have HA := Lib.hid ha
  have HB := Lib.hid hb
  have h47 : n ≤ 9223372036854775807 := Nat.le_trans ha.cap ha.top
  have z1 := nat_self n
  have z2 := nat_nself n
  clear ha hb
  go_enter Tryd.func48, Tryd.ntmps48
  go_wp2_with fail
  go_loopw [5] (fun iv wr => ∃ k : Nat, k ≤ n ∧ iv = .int .i64 (k : Int) ∧ Below w.heap.size w wr) (fun iv _ => n - (intOf iv).toNat)
  case atStart => exact ⟨0, Nat.zero_le _, rfl, Below.refl _ _⟩
  case round =>
    obtain ⟨k, hk, rfl, hbw⟩ := hrel
    have HBW := Lib.hid hbw
    by_cases hlt : k < n
    · obtain ⟨g, o, x, P, m, p, rfl, hg, c0, c1, hx, hss⟩ := (HA.out.below hbw).at_ hlt
      obtain ⟨g', o', x', P', m', p', rfl, hg', e0, e1, hx', hss'⟩ := (HB.out.below hbw).at_ hlt
      have hxx := same_txt hx.out hx'.out
      subst hxx
      have hmm : m = m' := hss.out.len.symm.trans hss'.out.len
      subst hmm
      have HSS := Lib.hid hss.out
      have HSS' := Lib.hid hss'.out
      have HG := Lib.hid hg
      have HG' := Lib.hid hg'
      have HC0 := Lib.hid c0
      have HC1 := Lib.hid c1
      have HE0 := Lib.hid e0
      have HE1 := Lib.hid e1
      have r1 : (k : Int) < (n : Int) := by omega
      clear hx hx' hss hss' hbw hg hg'
      go_upto_region 6 with fail
      go_region_held3 (fun w' => w'.cell? ⟨g, o + k * 2, none⟩ = some (.string x) ∧ w'.cell? ⟨g, o + k * 2 + 1, none⟩ = some (.slice P m p) ∧ w'.cell? ⟨g', o' + k * 2, none⟩ = some (.string x) ∧ w'.cell? ⟨g', o' + k * 2 + 1, none⟩ = some (.slice P' m p')) (go_keep)
        ((go_at_call 26; refine (samehole_at wr _ (by first | exact Below.refl _ _ | exact (Below.refl _ _).drew) x P m p P' p' _ HSS.out HSS'.out).mono ?_; rintro e w2 ⟨rfl, hb⟩; have BB := Lib.hid hb; have i0 := (hb.cell (p := ⟨g, o + k * 2, none⟩) HG.out).trans HC0.out; have i1 := (hb.cell (p := ⟨g, o + k * 2 + 1, none⟩) HG.out).trans HC1.out; have i2 := (hb.cell (p := ⟨g', o' + k * 2, none⟩) HG'.out).trans HE0.out; have i3 := (hb.cell (p := ⟨g', o' + k * 2 + 1, none⟩) HG'.out).trans HE1.out; clear hb))
      go_wp2_with fail
      go_roundw
      case rel => exact ⟨k + 1, by omega, by go_num, nbelow_on HBW.out BB.out⟩
      case measure => simp [intOf] <;> omega
    · have r1 : ¬ (k : Int) < (n : Int) := by omega
      clear hbw
      go_wp2_with fail
      go_ret
      exact ⟨rfl, HBW.out⟩
set_option maxRecDepth 100000 in
set_option maxHeartbeats 8000000 in
theorem rsame_any (A0 : Option Addr) (n0 c0 : Nat) (B0 : Option Addr) (m0 d0 : Nat) (C0 : Option Addr) (p0 q0 : Nat) (A1 : Option Addr) (c1 : Nat) (B1 : Option Addr) (d1 : Nat) (C1 : Option Addr) (q1 : Nat) (v : En) (w : World) (ha : Vs w A0 n0 c0 v.vars) (hb : Ys w B0 m0 d0 v.syms) (hc : Hs w C0 p0 q0 v.holes) (ha1 : Vs w A1 n0 c1 v.vars) (hb1 : Ys w B1 m0 d1 v.syms) (hc1 : Hs w C1 p0 q1 v.holes) :
    Calls Tryd.prog 30 #[.agg #[.slice A0 n0 c0, .slice B0 m0 d0, .slice C0 p0 q0], .agg #[.slice A1 n0 c1, .slice B1 m0 d1, .slice C1 p0 q1]] w fun e w' => e = .returned (.bool true) ∧ Below w.heap.size w w' := by
  have K0 : Hid (Bk 36 ((w.alloc (.cells #[.slice A0 n0 c0, .slice B0 m0 d0, .slice C0 p0 q0] 36)).alloc (.cells #[.slice A1 n0 c1, .slice B1 m0 d1, .slice C1 p0 q1] 36)) w.heap.size #[.slice A0 n0 c0, .slice B0 m0 d0, .slice C0 p0 q0]) := (Bk.new 36 w #[.slice A0 n0 c0, .slice B0 m0 d0, .slice C0 p0 q0]).alloc _
  have K1 : Hid (Bk 36 ((w.alloc (.cells #[.slice A0 n0 c0, .slice B0 m0 d0, .slice C0 p0 q0] 36)).alloc (.cells #[.slice A1 n0 c1, .slice B1 m0 d1, .slice C1 p0 q1] 36)) (w.heap.size + 1) #[.slice A1 n0 c1, .slice B1 m0 d1, .slice C1 p0 q1]) := Bk.at _ (by simp)
  have HB0 : Hid (Below w.heap.size w ((w.alloc (.cells #[.slice A0 n0 c0, .slice B0 m0 d0, .slice C0 p0 q0] 36)).alloc (.cells #[.slice A1 n0 c1, .slice B1 m0 d1, .slice C1 p0 q1] 36))) := nbelow_on (below_alloc _) (below_alloc _)
  have HA := Lib.hid (ha.below HB0.out)
  have HBy := Lib.hid (hb.below HB0.out)
  have HC := Lib.hid (hc.below HB0.out)
  have HA1 := Lib.hid (ha1.below HB0.out)
  have HBy1 := Lib.hid (hb1.below HB0.out)
  have HC1 := Lib.hid (hc1.below HB0.out)
  have h47 : m0 ≤ 9223372036854775807 := Nat.le_trans hb.cap hb.top
  have z1 := nat_self m0
  have z2 := nat_nself m0
  clear ha hb hc ha1 hb1 hc1
  generalize hW : ((w.alloc (.cells #[.slice A0 n0 c0, .slice B0 m0 d0, .slice C0 p0 q0] 36)).alloc (.cells #[.slice A1 n0 c1, .slice B1 m0 d1, .slice C1 p0 q1] 36)) = W at *
  have s0 := K0.out.c 1 (v := .slice B0 m0 d0) rfl
  have s1 := K1.out.c 1 (v := .slice B1 m0 d1) rfl
  go_enter Tryd.func30, Tryd.ntmps30
  go_wp2_with fail
  clear hW s0 s1
  go_loopw [5] (fun iv wr => ∃ k : Nat, k ≤ m0 ∧ iv = .int .i64 (k : Int) ∧ Below W.heap.size W wr) (fun iv _ => m0 - (intOf iv).toNat)
  case atStart => exact ⟨0, Nat.zero_le _, rfl, Below.refl _ _⟩
  case round =>
    obtain ⟨k, hk, rfl, hbw⟩ := hrel
    have HBW := Lib.hid hbw
    have HK0 := Lib.hid (K0.out.below hbw)
    have HK1 := Lib.hid (K1.out.below hbw)
    have s0 := HK0.out.c 1 (v := .slice B0 m0 d0) rfl
    have s1 := HK1.out.c 1 (v := .slice B1 m0 d1) rfl
    by_cases hlt : k < m0
    · obtain ⟨g, o, x, y, P, m, p, rfl, hg, c0, c1, c2, hx, hy, hss⟩ := (HBy.out.below hbw).at_ hlt
      obtain ⟨g', o', x', y', P', m', p', rfl, hg', e0, e1, e2, hx', hy', hss'⟩ := (HBy1.out.below hbw).at_ hlt
      have hxx := same_txt hx.out hx'.out
      subst hxx
      have hyy := same_txt hy.out hy'.out
      subst hyy
      have hmm : m = m' := hss.out.len.symm.trans hss'.out.len
      subst hmm
      have HSS := Lib.hid hss.out
      have HSS' := Lib.hid hss'.out
      have HG := Lib.hid hg
      have HG' := Lib.hid hg'
      have HC0 := Lib.hid c0
      have HC1_ := Lib.hid c1
      have HC2 := Lib.hid c2
      have HE0 := Lib.hid e0
      have HE1 := Lib.hid e1
      have HE2 := Lib.hid e2
      have r1 : (k : Int) < (m0 : Int) := by omega
      clear hx hx' hy hy' hss hss' hbw hg hg'
      go_upto_region 6 with fail
      go_region_held3 (fun w' => w'.cell? ⟨w.heap.size, 1, none⟩ = some (.slice (some ⟨g, o, none⟩) m0 d0) ∧ w'.cell? ⟨w.heap.size + 1, 1, none⟩ = some (.slice (some ⟨g', o', none⟩) m0 d1) ∧ w'.cell? ⟨g, o + k * 3, none⟩ = some (.string x) ∧ w'.cell? ⟨g, o + k * 3 + 1, none⟩ = some (.slice P m p) ∧ w'.cell? ⟨g, o + k * 3 + 2, none⟩ = some (.string y) ∧ w'.cell? ⟨g', o' + k * 3, none⟩ = some (.string x) ∧ w'.cell? ⟨g', o' + k * 3 + 1, none⟩ = some (.slice P' m p') ∧ w'.cell? ⟨g', o' + k * 3 + 2, none⟩ = some (.string y)) (go_keep)
        ((go_at_call 25; refine (samesym_at wr _ (by first | exact Below.refl _ _ | exact (Below.refl _ _).drew) x y P m p P' p' _ HSS.out HSS'.out).mono ?_; rintro e w2 ⟨rfl, hb⟩; have BB := Lib.hid hb; have i0 := (HK0.out.below hb).c 1 (v := .slice (some ⟨g, o, none⟩) m0 d0) rfl; have i1 := (HK1.out.below hb).c 1 (v := .slice (some ⟨g', o', none⟩) m0 d1) rfl; have i2 := (hb.cell (p := ⟨g, o + k * 3, none⟩) HG.out).trans HC0.out; have i3 := (hb.cell (p := ⟨g, o + k * 3 + 1, none⟩) HG.out).trans HC1_.out; have i4 := (hb.cell (p := ⟨g, o + k * 3 + 2, none⟩) HG.out).trans HC2.out; have i5 := (hb.cell (p := ⟨g', o' + k * 3, none⟩) HG'.out).trans HE0.out; have i6 := (hb.cell (p := ⟨g', o' + k * 3 + 1, none⟩) HG'.out).trans HE1.out; have i7 := (hb.cell (p := ⟨g', o' + k * 3 + 2, none⟩) HG'.out).trans HE2.out; clear hb))
      go_wp2_with fail
      go_roundw
      case rel => exact ⟨k + 1, by omega, by go_num, nbelow_on HBW.out BB.out⟩
      case measure => simp [intOf] <;> omega
    · have r1 : ¬ (k : Int) < (m0 : Int) := by omega
      have s2 := HK0.out.c 0 (v := .slice A0 n0 c0) rfl
      have s3 := HK1.out.c 0 (v := .slice A1 n0 c1) rfl
      have CV := samevars_any A0 n0 c0 A1 c1 v.vars wr (HA.out.below hbw) (HA1.out.below hbw)
      have HCa := Lib.hid (HC.out.below hbw)
      have HCb := Lib.hid (HC1.out.below hbw)
      clear hbw
      go_wp2_with fail
      (refine CV.mono ?_); rintro e w3 ⟨rfl, hb⟩
      have HB3 := Lib.hid (nbelow_on HB0.out (nbelow_on HBW.out hb))
      have s4 := (HK0.out.below hb).c 2 (v := .slice C0 p0 q0) rfl
      have s5 := (HK1.out.below hb).c 2 (v := .slice C1 p0 q1) rfl
      have CHs := sameholes_any C0 p0 q0 C1 q1 v.holes w3 (HCa.out.below hb) (HCb.out.below hb)
      clear hb CV
      go_wp2_with fail
      (refine CHs.mono ?_); rintro e w4 ⟨rfl, hb⟩
      have HB4 := Lib.hid (nbelow_on HB3.out hb)
      clear hb CHs
      go_wp2_with fail
      go_ret
      exact ⟨rfl, HB4.out⟩
end Go.Proofs.YtegognbnphpigaaDoor
