/-
  Contracts of the program's sound, signed and limited.
-/
import Derived.Test.YtfenmogbellhdaaDoorBigD
import Derived.Deep.RegionHeld3
namespace Go.Proofs.YtfenmogbellhdaaDoor
open Go.RowKit

theorem zOf_valid {neg : Bool} {l : List Int} (h : validB neg l = true) : neg = nOf (zOf neg l) ∧ l = lOf (zOf neg l) := ⟨(form_of_valid h).1, (form_of_valid h).2.1⟩

theorem bcell {W w1 : World} (hb : Below W.heap.size W w1) : (∀ b o, b < W.heap.size → w1.cell? ⟨b, o, none⟩ = W.cell? ⟨b, o, none⟩) ∧ (∀ b o, b < W.heap.size → w1.frozen? ⟨b, o, none⟩ = W.frozen? ⟨b, o, none⟩) :=
  ⟨fun b o h => hb.cell (p := ⟨b, o, none⟩) h, fun b o h => hb.frozen (p := ⟨b, o, none⟩) h⟩
theorem Sl.alloc {w : World} {A : Option Addr} {n c : Nat} {xs : List Int} (h : Sl w A n c xs) (o : Obj) : Sl (w.alloc o) A n c xs := h.below ((Below.refl _ _).alloc (Nat.le_refl _) o)

theorem below_box1 {w w1 : World} {o1 : Obj} (hb : Below (w.alloc o1).heap.size (w.alloc o1) w1) : Below w.heap.size w w1 := ((Below.refl _ _).alloc (Nat.le_refl _) _).trans (hb.mono (by simp))
theorem below_box2 {w w1 : World} {o1 o2 : Obj} (hb : Below ((w.alloc o1).alloc o2).heap.size ((w.alloc o1).alloc o2) w1) : Below w.heap.size w w1 :=
  (((Below.refl _ _).alloc (Nat.le_refl _) _).alloc (by simp) _).trans (hb.mono (by simp; omega))
theorem below_box3 {w w1 : World} {o1 o2 o3 : Obj} (hb : Below (((w.alloc o1).alloc o2).alloc o3).heap.size (((w.alloc o1).alloc o2).alloc o3) w1) : Below w.heap.size w w1 :=
  ((((Below.refl _ _).alloc (Nat.le_refl _) _).alloc (by simp) _).alloc (by simp; omega) _).trans (hb.mono (by simp; omega))
/-- A store to a cell that holds no int. -/
theorem Sl.off {w : World} {A : Option Addr} {n c : Nat} {xs : List Int} (h : Sl w A n c xs) {p : Addr} {u : Value} (hp : w.cell? p = some u) (hu : ∀ x : Int, u ≠ .int .i64 x) (v : Value) : Sl (w.setCell p v) A n c xs :=
  ⟨h.len, h.cap, h.top, fun hn => by
    obtain ⟨g, o, e, hg, hc⟩ := h.cells hn
    refine ⟨g, o, e, by simpa [World.setCell] using hg, fun k hk => ?_⟩
    rw [World.cell?_setCell_other _ _ _ _ (fun e' => by
      have := hc k hk
      rw [← e', hp] at this
      exact hu _ (Option.some.inj this))]
    exact hc k hk⟩
/-- A block that holds a number's struct. -/
def Box (w : World) (b : Nat) : Prop := (∃ x, w.cell? ⟨b, 0, none⟩ = some (.bool x)) ∧ ∃ A n c, w.cell? ⟨b, 1, none⟩ = some (.slice A n c)
theorem Sl.box {w : World} {A : Option Addr} {n c : Nat} {xs : List Int} (h : Sl w A n c xs) {b : Nat} (hb : Box w b) (u v : Value) : Sl ((w.setCell ⟨b, 0, none⟩ u).setCell ⟨b, 1, none⟩ v) A n c xs := by
  obtain ⟨⟨x, hx⟩, A', n', c', hy⟩ := hb
  refine (h.off hx (fun _ e => by cases e) u).off (u := .slice A' n' c') ?_ (fun _ e => by cases e) v
  rw [World.cell?_setCell_other _ _ _ _ (by intro e; cases e)]
  exact hy

set_option maxHeartbeats 400000 in
theorem sound_any (neg : Bool) (A : Option Addr) (n c : Nat) (xs : List Int) (w : World) (hs : Sl w A n c xs) :
    Calls Tryd.prog 67 #[.agg #[.bool neg, .slice A n c]] w fun e w' => ∃ B m d, e = .returned (.agg #[.bool (nOf (zOf neg xs)), .slice B m d]) ∧ Sl w' B m d (lOf (zOf neg xs)) ∧ Below w.heap.size w w' := by
  cases hv : validB neg xs with
  | true =>
    obtain ⟨h1, h2⟩ := zOf_valid hv
    have HV := Lib.hid hv
    have H1 := Lib.hid h1
    have H2 := Lib.hid h2
    clear hv h1 h2
    go_enter Tryd.func67, Tryd.ntmps67
    go_wp2_with fail
    (refine (valid_any neg A n c xs _ ((hs.alloc _).alloc _)).mono ?_; rintro e w1 ⟨rfl, hb⟩)
    rw [HV.out]
    have HB := Lib.hid hb
    obtain ⟨hc, hf⟩ := bcell hb
    have hz : w.heap.size + 1 < w1.heap.size := by have := hb.size; simp at this; omega
    clear hb
    go_wp2_with fail
    refine bodyPost_ret (v := .agg #[.bool neg, .slice A n c]) (by simp [results, Tryd.results67, go_sem, hc]) rfl ?_
    have hfin := ((below_box2 HB.out).setCell (p := ⟨w.heap.size + 1, 0, none⟩) (by simp) (.bool neg)).setCell (p := ⟨w.heap.size + 1, 1, none⟩) (by simp) (.slice A n c)
    exact ⟨A, n, c, congrArg (fun b => Ending.returned (.agg #[.bool b, .slice A n c])) H1.out, by rw [← H2.out]; exact hs.below hfin, hfin⟩
  | false =>
    have HV := Lib.hid hv
    have H0 := Lib.hid (zOf_invalid hv)
    clear hv
    go_enter Tryd.func67, Tryd.ntmps67
    go_wp2_with fail
    (refine (valid_any neg A n c xs _ ((hs.alloc _).alloc _)).mono ?_; rintro e w1 ⟨rfl, hb⟩)
    rw [HV.out]
    have HB := Lib.hid hb
    obtain ⟨hc, hf⟩ := bcell hb
    have hz : w.heap.size + 1 < w1.heap.size := by have := hb.size; simp at this; omega
    clear hb
    go_wp2_with fail
    refine bodyPost_ret (v := .agg #[.bool false, .slice none 0 0]) (by simp [results, Tryd.results67, go_sem, hc]) rfl ?_
    have hfin := ((below_box2 HB.out).setCell (p := ⟨w.heap.size + 1, 0, none⟩) (by simp) (.bool false)).setCell (p := ⟨w.heap.size + 1, 1, none⟩) (by simp) (.slice none 0 0)
    exact ⟨none, 0, 0, by rw [H0.out, nOf_zero], by rw [H0.out, lOf_zero]; exact Sl.nil _, hfin⟩

/-- signed, of whatever ints. -/
theorem signed_gen (neg : Bool) (A : Option Addr) (n c : Nat) (xs : List Int) (w : World) (hs : Sl w A n c xs) :
    Calls Tryd.prog 71 #[.bool neg, .slice A n c] w fun e w' => e = .returned (.agg #[.bool (neg && decide (0 < n)), .slice A n c]) ∧ Sl w' A n c xs ∧ Below w.heap.size w w' := by
  have ht := hs.top
  have hc := hs.cap
  cases neg with
  | true =>
    rcases Nat.eq_zero_or_pos n with h0 | h0
    · subst h0
      go_enter Tryd.func71, Tryd.ntmps71
      go_wp2_with fail
      exact bodyPost_ret (v := .agg #[.bool false, .slice A 0 c]) (by simp [results, Tryd.results71, go_sem]) rfl ⟨rfl, hs.alloc _, (Below.refl _ _).alloc (Nat.le_refl _) _⟩
    · have z0 : decide ((0 : Int) < (n : Int)) = true := decide_eq_true (by omega)
      go_enter Tryd.func71, Tryd.ntmps71
      go_wp2_with fail
      exact bodyPost_ret (v := .agg #[.bool true, .slice A n c]) (by simp [results, Tryd.results71, go_sem]) rfl ⟨by rw [decide_eq_true h0]; rfl, hs.alloc _, (Below.refl _ _).alloc (Nat.le_refl _) _⟩
  | false =>
    go_enter Tryd.func71, Tryd.ntmps71
    go_wp2_with fail
    exact bodyPost_ret (v := .agg #[.bool false, .slice A n c]) (by simp [results, Tryd.results71, go_sem]) rfl ⟨rfl, hs.alloc _, (Below.refl _ _).alloc (Nat.le_refl _) _⟩

/-- The number with a sign and a size. -/
def sgn (neg : Bool) (z : Int) : Int := if neg then -z else z
theorem sgn_form (neg : Bool) (k : Nat) : (neg && decide (0 < (digs k).length)) = nOf (sgn neg k) ∧ digs k = lOf (sgn neg k) := by
  constructor
  · have h : (0 < (digs k).length) ↔ 0 < k := by
      constructor
      · intro h
        refine Nat.pos_of_ne_zero fun e => ?_
        rw [e, digs_zero] at h; simp at h
      · intro h
        refine Nat.pos_of_ne_zero fun e => ?_
        have := digs_eq_nil.1 (List.eq_nil_of_length_eq_zero e)
        omega
    unfold nOf sgn
    rw [show decide (0 < (digs k).length) = decide (0 < k) from decide_eq_decide.2 h]
    cases neg
    · simp
    · simp
  · unfold lOf sgn
    congr 1
    cases neg <;> simp
theorem signed_any (neg : Bool) (A : Option Addr) (n c k : Nat) (w : World) (hs : Sl w A n c (digs k)) :
    Calls Tryd.prog 71 #[.bool neg, .slice A n c] w fun e w' => e = .returned (.agg #[.bool (nOf (sgn neg k)), .slice A n c]) ∧ Sl w' A n c (lOf (sgn neg k)) ∧ Below w.heap.size w w' := by
  refine (signed_gen neg A n c (digs k) w hs).mono ?_
  rintro e w' ⟨rfl, h1, h2⟩
  obtain ⟨f1, f2⟩ := sgn_form neg k
  refine ⟨?_, by rw [← f2]; exact h1, h2⟩
  rw [← f1, hs.len]

theorem limited_any (z : Int) (A : Option Addr) (n c : Nat) (w : World) (hs : Sl w A n c (lOf z)) :
    Calls Tryd.prog 118 #[.agg #[.bool (nOf z), .slice A n c]] w fun e w' => ∃ B m d, e = .returned (.tuple #[.agg #[.bool (nOf (fitZ z)), .slice B m d], .bool (fitB z)]) ∧ Sl w' B m d (lOf (fitZ z)) ∧ Below w.heap.size w w' := by
  have ht := hs.top
  have hc := hs.cap
  have hl := Lib.hid hs.len
  by_cases h : 200 < n
  · have hF : Hid (fitB z = false) := by
      show fitB z = false
      unfold fitB; rw [hl.out]; exact decide_eq_false (by omega)
    go_enter Tryd.func118, Tryd.ntmps118
    go_wp2_with fail
    refine bodyPost_ret (v := .tuple #[.agg #[.bool false, .slice none 0 0], .bool false]) (by simp [results, Tryd.results118, go_sem]) rfl ⟨none, 0, 0, ?_, ?_, ((Below.refl _ _).alloc (Nat.le_refl _) _).alloc (by simp) _⟩
    · rw [hF.out, fitZ_not hF.out, nOf_zero]
    · rw [fitZ_not hF.out, lOf_zero]; exact Sl.nil _
  · have hF : Hid (fitB z = true) := by
      show fitB z = true
      unfold fitB; rw [hl.out]; exact decide_eq_true (by omega)
    go_enter Tryd.func118, Tryd.ntmps118
    go_wp2_with fail
    refine bodyPost_ret (v := .tuple #[.agg #[.bool (nOf z), .slice A n c], .bool true]) (by simp [results, Tryd.results118, go_sem]) rfl ⟨A, n, c, ?_, ?_, ((Below.refl _ _).alloc (Nat.le_refl _) _).alloc (by simp) _⟩
    · rw [hF.out, fitZ_of hF.out]
    · rw [fitZ_of hF.out]; exact (hs.alloc _).alloc _
end Go.Proofs.YtfenmogbellhdaaDoor
