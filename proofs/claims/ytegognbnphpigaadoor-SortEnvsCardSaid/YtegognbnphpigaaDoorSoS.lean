/-
  Contracts of With, Same and awake seen from a world that they leave as it was; one variable's row.
-/
import Derived.Test.YtegognbnphpigaaDoorSoQ
namespace Go.Proofs.YtegognbnphpigaaDoor
open Go.RowKit

theorem with_at (W X : World) (hX : Below W.heap.size W X) (A : Option Addr) (n c : Nat) (B : Option Addr) (m d : Nat) (C : Option Addr) (p q : Nat) (v : En) (x y : ByteArray) (h1 : Vs W A n c v.vars) (h2 : Ys W B m d v.syms) (h3 : Hs W C p q v.holes) (hl : Li v) (hx : x.size ≤ 300) :
    Calls Tryd.prog 31 #[.agg #[.slice A n c, .slice B m d, .slice C p q], .agg #[.string x, .string y]] X fun e w' => ∃ A' n' c' B' m' d' C' p' q', e = .returned (.agg #[.slice A' n' c', .slice B' m' d', .slice C' p' q']) ∧ Hid (Vs w' A' n' c' (withV v.vars ⟨x.data.toList, y.data.toList⟩)) ∧ Hid (Ys w' B' m' d' v.syms) ∧ Hid (Hs w' C' p' q' v.holes) ∧ Below W.heap.size W w' := by
  have a1 := h1.len
  have a2 := h2.len
  have a3 := h3.len
  have b1 := hl.nv
  have b2 := hl.ny
  have b3 := hl.nh
  refine (with_any A n c B m d C p q v x y X (h1.below hX) (h2.below hX) (h3.below hX) hl.fits (by omega) (by omega) (by omega) (fun y hy => Nat.le_trans (hl.sy y hy).2 (by decide)) (fun y hy => Nat.le_trans (hl.ho y hy).2.1 (by decide)) (Nat.le_trans hx (by decide))).mono ?_
  rintro e w' ⟨A', n', c', B', m', d', C', p', q', rfl, i1, i2, i3, hb⟩
  exact ⟨A', n', c', B', m', d', C', p', q', rfl, i1, i2, i3, nbelow_on hX hb⟩
theorem rwith_at (W X : World) (hX : Below W.heap.size W X) (A : Option Addr) (n c : Nat) (B : Option Addr) (m d : Nat) (C : Option Addr) (p q : Nat) (v : En) (x y : ByteArray) (h1 : Vs W A n c v.vars) (h2 : Ys W B m d v.syms) (h3 : Hs W C p q v.holes) (hl : Li v)
    (A1 : Option Addr) (n1 c1 : Nat) (B1 : Option Addr) (m1 d1 : Nat) (C1 : Option Addr) (p1 q1 : Nat) (v1 : En) (k1 : Vs X A1 n1 c1 v1.vars) (k2 : Ys X B1 m1 d1 v1.syms) (k3 : Hs X C1 p1 q1 v1.holes) :
    Calls Tryd.prog 32 #[.agg #[.slice A n c, .slice B m d, .slice C p q], .agg #[.string x, .string y]] X fun e w' => ∃ A' n' c' B' m' d' C' p' q', e = .returned (.agg #[.slice A' n' c', .slice B' m' d', .slice C' p' q']) ∧ Hid (Vs w' A' n' c' (withV v.vars ⟨x.data.toList, y.data.toList⟩)) ∧ Hid (Ys w' B' m' d' v.syms) ∧ Hid (Hs w' C' p' q' v.holes) ∧ Below W.heap.size W w' ∧ Hid (Vs w' A1 n1 c1 v1.vars) ∧ Hid (Ys w' B1 m1 d1 v1.syms) ∧ Hid (Hs w' C1 p1 q1 v1.holes) := by
  have a1 := h1.len
  have b1 := hl.nv
  refine (rwith_any A n c B m d C p q v x y X (h1.below hX) (h2.below hX) (h3.below hX) (by omega)).mono ?_
  rintro e w' ⟨A', n', c', B', m', d', C', p', q', rfl, i1, i2, i3, hb⟩
  exact ⟨A', n', c', B', m', d', C', p', q', rfl, i1, i2, i3, nbelow_on hX hb, k1.below hb, k2.below hb, k3.below hb⟩
theorem same_at (W X : World) (hX : Below W.heap.size W X) (A0 : Option Addr) (n0 c0 : Nat) (B0 : Option Addr) (m0 d0 : Nat) (C0 : Option Addr) (p0 q0 : Nat) (A1 : Option Addr) (n1 c1 : Nat) (B1 : Option Addr) (m1 d1 : Nat) (C1 : Option Addr) (p1 q1 : Nat) (v : En) (ha : Vs X A0 n0 c0 v.vars) (hb : Ys X B0 m0 d0 v.syms) (hc : Hs X C0 p0 q0 v.holes) (ha1 : Vs X A1 n1 c1 v.vars) (hb1 : Ys X B1 m1 d1 v.syms) (hc1 : Hs X C1 p1 q1 v.holes) :
    Calls Tryd.prog 30 #[.agg #[.slice A0 n0 c0, .slice B0 m0 d0, .slice C0 p0 q0], .agg #[.slice A1 n1 c1, .slice B1 m1 d1, .slice C1 p1 q1]] X fun e w' => e = .returned (.bool true) ∧ Below W.heap.size W w' := by
  have hn : n0 = n1 := ha.len.symm.trans ha1.len
  have hm : m0 = m1 := hb.len.symm.trans hb1.len
  have hp : p0 = p1 := hc.len.symm.trans hc1.len
  subst hn hm hp
  refine (rsame_any A0 n0 c0 B0 m0 d0 C0 p0 q0 A1 c1 B1 d1 C1 q1 v X ha hb hc ha1 hb1 hc1).mono ?_
  rintro e w' ⟨rfl, h⟩
  exact ⟨rfl, nbelow_on hX h⟩
theorem awake_at (W X : World) (hX : Below W.heap.size W X) (henv : Env W) : Calls Tryd.prog 11 #[] X fun e w' => e = .returned (.bool true) ∧ Below W.heap.size W w' := by
  refine (awake_any X (henv.below hX)).mono ?_
  rintro e w' ⟨rfl, h⟩
  exact ⟨rfl, nbelow_on hX h⟩
theorem one_vs (w : World) (x y : ByteArray) {b : Nat} (hb : b = w.heap.size) : Vs (w.alloc (.cells #[.string x, .string y] 62)) (some ⟨b, 0, none⟩) 1 1 [⟨x.data.toList, y.data.toList⟩] :=
  vs_lit (n := 1) [⟨x.data.toList, y.data.toList⟩] (by simp [encVr, strVal]) rfl (by omega) hb
end Go.Proofs.YtegognbnphpigaaDoor
