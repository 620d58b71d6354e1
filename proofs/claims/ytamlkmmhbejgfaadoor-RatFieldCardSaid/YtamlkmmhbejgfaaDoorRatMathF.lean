/-
  Sums and products undone, and distributed; facts of a world in one bundle.
-/
import Derived.Test.YtamlkmmhbejgfaaDoorRatMathE
namespace Go.Proofs.YtamlkmmhbejgfaaDoor
open Go.RowKit

theorem res_lo {P Q n d : Int} (hq : Q ≠ 0) (h : loN P Q = n ∧ loD P Q = d) (f1 : fitB n = true) (f2 : fitB d = true) : resN P Q = n ∧ resD P Q = d ∧ resB P Q = true := by
  have hb : resB P Q = true := by unfold resB; rw [h.1, h.2, f1, f2]; simpa using hq
  exact ⟨by rw [(res_yes hb).1, h.1], by rw [(res_yes hb).2, h.2], hb⟩
theorem res_congr {P Q P' Q' : Int} (hQ : Q ≠ 0) (hQ' : Q' ≠ 0) (h : P * Q' = P' * Q) : resN P Q = resN P' Q' ∧ resD P Q = resD P' Q' ∧ resB P Q = resB P' Q' := by
  have e := lo_eq (p := P') hQ'
  have hl : loN P Q = loN P' Q' ∧ loD P Q = loD P' Q' := by
    refine lo_unique hQ (loD_pos hQ') (lo_coprime hQ') ?_
    refine Int.eq_of_mul_eq_mul_right hQ' ?_
    calc loN P' Q' * Q * Q' = (loN P' Q' * Q') * Q := by rw [Int.mul_assoc, Int.mul_comm Q, ← Int.mul_assoc]
      _ = P' * Q * loD P' Q' := by rw [e, Int.mul_assoc, Int.mul_comm (loD P' Q'), ← Int.mul_assoc]
      _ = P * loD P' Q' * Q' := by rw [← h, Int.mul_assoc, Int.mul_comm Q', ← Int.mul_assoc]
  have hb : resB P Q = resB P' Q' := by
    unfold resB
    rw [hl.1, hl.2, show (Q != 0) = true by simpa using hQ, show (Q' != 0) = true by simpa using hQ']
  refine ⟨?_, ?_, hb⟩
  · unfold resN; rw [hb, hl.1]
  · unfold resD; rw [hb, hl.2]
/-- A result times what it is made of. -/
theorem res_eq {P Q : Int} (h : resB P Q = true) : resN P Q * Q = P * resD P Q := by
  rw [(res_yes h).1, (res_yes h).2]; exact lo_eq (res_ne h)
theorem res_pos {P Q : Int} (h : resB P Q = true) : 0 < resD P Q := (Fr.res h).pos
theorem sub_add {p q p' q' : Int} (h : Fr p q) (h' : Fr p' q') (hb : resB (p * q' + p' * q) (q * q') = true) :
    resN (resN (p * q' + p' * q) (q * q') * q' - p' * resD (p * q' + p' * q) (q * q')) (resD (p * q' + p' * q) (q * q') * q') = p ∧ resD (resN (p * q' + p' * q) (q * q') * q' - p' * resD (p * q' + p' * q) (q * q')) (resD (p * q' + p' * q) (q * q') * q') = q ∧ resB (resN (p * q' + p' * q) (q * q') * q' - p' * resD (p * q' + p' * q) (q * q')) (resD (p * q' + p' * q) (q * q') * q') = true := by
  have e := res_eq hb
  have hd := res_pos hb
  have h1 := h.pos
  have h2 := h'.pos
  generalize resN (p * q' + p' * q) (q * q') = N at *
  generalize resD (p * q' + p' * q) (q * q') = D at *
  have hq : D * q' ≠ 0 := Int.mul_ne_zero (by omega) (by omega)
  refine res_lo hq (lo_unique hq h.pos h.cop ?_) h.fn h.fd
  have e1 : N * q' * q = p * (D * q') + p' * D * q := by
    calc N * q' * q = N * (q * q') := by rw [Int.mul_assoc, Int.mul_comm q']
      _ = (p * q' + p' * q) * D := e
      _ = p * (D * q') + p' * D * q := by
        rw [Int.add_mul, Int.mul_assoc, Int.mul_comm q', Int.mul_assoc p' q, Int.mul_comm q D, ← Int.mul_assoc p' D]
  rw [Int.sub_mul, e1]; omega
theorem div_mul {p q p' q' : Int} (h : Fr p q) (h0 : p' ≠ 0) (hb : resB (p * p') (q * q') = true) :
    resN (resN (p * p') (q * q') * q') (resD (p * p') (q * q') * p') = p ∧ resD (resN (p * p') (q * q') * q') (resD (p * p') (q * q') * p') = q ∧ resB (resN (p * p') (q * q') * q') (resD (p * p') (q * q') * p') = true := by
  have e := res_eq hb
  have hd := res_pos hb
  generalize resN (p * p') (q * q') = N at *
  generalize resD (p * p') (q * q') = D at *
  have hq : D * p' ≠ 0 := Int.mul_ne_zero (by omega) h0
  refine res_lo hq (lo_unique hq h.pos h.cop ?_) h.fn h.fd
  calc p * (D * p') = p * p' * D := by rw [Int.mul_comm D, Int.mul_assoc]
    _ = N * (q * q') := e.symm
    _ = N * q' * q := by rw [Int.mul_comm q, Int.mul_assoc]
theorem dist {p q p' q' p'' q'' : Int} (h1 : 0 < q) (h2 : 0 < q') (h3 : 0 < q'') (hs : resB (p * q' + p' * q) (q * q') = true) (hy : resB (p * p'') (q * q'') = true) (hz : resB (p' * p'') (q' * q'') = true) :
    resN (resN (p * p'') (q * q'') * resD (p' * p'') (q' * q'') + resN (p' * p'') (q' * q'') * resD (p * p'') (q * q'')) (resD (p * p'') (q * q'') * resD (p' * p'') (q' * q'')) = resN (resN (p * q' + p' * q) (q * q') * p'') (resD (p * q' + p' * q) (q * q') * q'') ∧
    resD (resN (p * p'') (q * q'') * resD (p' * p'') (q' * q'') + resN (p' * p'') (q' * q'') * resD (p * p'') (q * q'')) (resD (p * p'') (q * q'') * resD (p' * p'') (q' * q'')) = resD (resN (p * q' + p' * q) (q * q') * p'') (resD (p * q' + p' * q) (q * q') * q'') ∧
    resB (resN (p * p'') (q * q'') * resD (p' * p'') (q' * q'') + resN (p' * p'') (q' * q'') * resD (p * p'') (q * q'')) (resD (p * p'') (q * q'') * resD (p' * p'') (q' * q'')) = resB (resN (p * q' + p' * q) (q * q') * p'') (resD (p * q' + p' * q) (q * q') * q'') := by
  have es := res_eq hs
  have ey := res_eq hy
  have ez := res_eq hz
  have ds := res_pos hs
  have dy := res_pos hy
  have dz := res_pos hz
  generalize resN (p * q' + p' * q) (q * q') = N at *
  generalize resD (p * q' + p' * q) (q * q') = D at *
  generalize resN (p * p'') (q * q'') = Y at *
  generalize resD (p * p'') (q * q'') = E at *
  generalize resN (p' * p'') (q' * q'') = Z at *
  generalize resD (p' * p'') (q' * q'') = G at *
  refine res_congr (Int.mul_ne_zero (by omega) (by omega)) (Int.mul_ne_zero (by omega) (by omega)) ?_
  have hk : (q * q') * q'' ≠ 0 := Int.mul_ne_zero (Int.mul_ne_zero (by omega) (by omega)) (by omega)
  refine Int.eq_of_mul_eq_mul_right hk ?_
  have b1 : Y * G * (q * q' * q'') = p * p'' * E * (G * q') := by
    calc Y * G * (q * q' * q'') = (Y * (q * q'')) * (G * q') := by simp only [Int.mul_comm, Int.mul_left_comm]
      _ = _ := by rw [ey]
  have b2 : Z * E * (q * q' * q'') = p' * p'' * G * (E * q) := by
    calc Z * E * (q * q' * q'') = (Z * (q' * q'')) * (E * q) := by simp only [Int.mul_comm, Int.mul_left_comm]
      _ = _ := by rw [ez]
  have b3 : (Y * G + Z * E) * (q * q' * q'') = (p * q' + p' * q) * (p'' * (E * G)) := by
    rw [Int.add_mul, b1, b2, Int.add_mul]
    have c1 : p * p'' * E * (G * q') = p * q' * (p'' * (E * G)) := by simp only [Int.mul_comm, Int.mul_left_comm]
    have c2 : p' * p'' * G * (E * q) = p' * q * (p'' * (E * G)) := by simp only [Int.mul_comm, Int.mul_left_comm]
    rw [c1, c2]
  calc (Y * G + Z * E) * (D * q'') * (q * q' * q'') = ((Y * G + Z * E) * (q * q' * q'')) * (D * q'') := by
        rw [Int.mul_assoc, Int.mul_comm (D * q''), ← Int.mul_assoc]
    _ = (p * q' + p' * q) * D * (p'' * q'' * (E * G)) := by rw [b3]; simp only [Int.mul_comm, Int.mul_left_comm]
    _ = N * (q * q') * (p'' * q'' * (E * G)) := by rw [es]
    _ = N * p'' * (E * G) * (q * q' * q'') := by simp only [Int.mul_comm, Int.mul_left_comm]

theorem Bk.c2 {T : TypeId} {w : World} {b : Nat} {x y : Value} (h : Bk T w b #[x, y]) : w.cell? ⟨b, 0, none⟩ = some x ∧ w.cell? ⟨b, 1, none⟩ = some y := ⟨h.c 0 rfl, h.c 1 rfl⟩
theorem Bk.c4 {T : TypeId} {w : World} {b : Nat} {x y z t : Value} (h : Bk T w b #[x, y, z, t]) : w.cell? ⟨b, 0, none⟩ = some x ∧ w.cell? ⟨b, 1, none⟩ = some y ∧ w.cell? ⟨b, 2, none⟩ = some z ∧ w.cell? ⟨b, 3, none⟩ = some t := ⟨h.c 0 rfl, h.c 1 rfl, h.c 2 rfl, h.c 3 rfl⟩

/-- What stays as long as nothing that stood is changed. -/
def Stable (P : World → Prop) : Prop := ∀ w w', P w → Below w.heap.size w w' → P w'
theorem st_sl {A : Option Addr} {n c : Nat} {xs : List Int} : Stable (fun w => Sl w A n c xs) := fun _ _ h hb => h.below hb
theorem st_bk {T : TypeId} {b : Nat} {l : Array Value} : Stable (fun w => Bk T w b l) := fun _ _ h hb => h.below hb
theorem st_and {P Q : World → Prop} (hp : Stable P) (hq : Stable Q) : Stable (fun w => P w ∧ Q w) := fun w w' h hb => ⟨hp w w' h.1 hb, hq w w' h.2 hb⟩
theorem bundle {P : World → Prop} (hs : Stable P) {w : World} (h : P w) : ∃ R : World → Prop, (∀ w w', R w → Below w.heap.size w w' → R w') ∧ (∀ w, R w → P w) ∧ R w := ⟨P, hs, fun _ h => h, h⟩
end Go.Proofs.YtamlkmmhbejgfaaDoor
