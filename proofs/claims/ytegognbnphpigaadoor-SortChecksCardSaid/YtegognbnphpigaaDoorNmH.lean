/-
  A loop over strings.SplitSeq at a separator of one byte.
-/
import Derived.Test.YtegognbnphpigaaDoorNmG
import Derived.RangeFuncWrites
namespace Go.Proofs.YtegognbnphpigaaDoor
open Go.RowKit Go.Shelf

attribute [local go_sem] Oper.semAt_some
/-- What the loop's bookkeeping blocks hold: the record at b + 1, the block for deferred calls at b. -/
structure Book (b : Nat) (r : Loop) (W : World) : Prop where
  rec_ : W.heap[b + 1]? = some (.loop r)
  def_ : W.heap[b]? = some (.deferred (some []))
theorem Book.moved {b : Nat} {r : Loop} {W W' : World} {row : Option Nat} (h : Book b r W) (hg : W.grownBy W' row) (hr : ∀ k, row = some k → k < b) : Book b r W' := by
  obtain ⟨h1, h2⟩ := h
  refine ⟨(hg.block _ (Array.getElem?_eq_some_iff.1 h1).1 (fun e => ?_)).trans h1, (hg.block _ (Array.getElem?_eq_some_iff.1 h2).1 (fun e => ?_)).trans h2⟩
  · have := hr _ e.symm; omega
  · have := hr _ e.symm; omega
theorem Book.keeps {b : Nat} {r : Loop} {W W' : World} (h : Book b r W) (hk : KeepsFrom b W W') : Book b r W' :=
  ⟨hk.same _ _ (by omega) h.rec_ rfl, hk.same _ _ (Nat.le_refl _) h.def_ rfl⟩
theorem Book.turn {b : Nat} {r : Loop} {W : World} (h : Book b r W) (r' : Loop) : Book b r' (W.putObj (b + 1) (.loop r')) :=
  ⟨World.putObj_heap_same (Array.getElem?_eq_some_iff.1 h.rec_).1, (World.putObj_heap_other (by omega)).trans h.def_⟩

/-- How a round may leave: it goes on, or returns. -/
def SplitX (IR : List Txt → World → Prop) : Code → List Txt → World → Prop
  | .ret, pre, W => IR pre W
  | _, _, _ => False

set_option maxHeartbeats 2000000 in
theorem range_split (n : Nat) (hn : 2 ≤ n) {g : Operand} {ps : Array Tmp} {assign body : Code} {Q : Exit → Act → World → Prop} {a : Act} {w : World} (bp bs bv : Nat) (hbp : bp < w.heap.size) (hbs : bs < w.heap.size) (hbv : bv < w.heap.size) (hp : bp ≠ bs) (hv : bv ≠ bs)
    (hg : a.eval g = .func (.func 87) #[] #[.pointer (some ⟨bp, 0, none⟩), .pointer (some ⟨bs, 0, none⟩), .pointer (some ⟨bv, 0, none⟩)]) (hps : ps.size = 1)
    (x : ByteArray) (hx2 : x.size ≤ 10000) (c1 : w.cell? ⟨bp, 0, none⟩ = some (.string ⟨#[46]⟩)) (c2 : w.cell? ⟨bs, 0, none⟩ = some (.string x)) (c3 : w.cell? ⟨bv, 0, none⟩ = some (.int .i64 0)) (f2 : w.frozen? ⟨bs, 0, none⟩ = false)
    (I IR : List Txt → World → Prop) (hI : OwnFrom w.heap.size I) (hIR : OwnFrom w.heap.size IR)
    (hC : ∀ (pre : List Txt) (W : World) (y z : ByteArray), I pre W → W.cell? ⟨bs, 0, none⟩ = some (.string y) → I pre (W.setCell ⟨bs, 0, none⟩ (.string z)))
    (h0 : I [] w) (a₁ : ByteArray → Act)
    (hassign : ∀ (l : Nat) (y : ByteArray) (W : World) (K : Act → World → Prop), K (a₁ y) W →
      assign.wpIn (Fence.wide.inRound l) (n - 1 - 1) Tryd.prog (Exit.then K (fun _ _ _ => False)) { tmps := (ps.zip #[.string y]).foldl (fun t (p, v) => t.setIfInBounds p v) a.tmps, defers := [] } W)
    (hbody : ∀ (l : Nat) (pre : List Txt) (y : ByteArray) (W : World), I pre W → body.wpIn (Fence.wide.inRound l) (n - 1 - 1) Tryd.prog (ownPostG w.heap.size (Below w.heap.size) I (SplitX IR) (pre ++ [y.data.toList]) W) (a₁ y) W)
    (hdone : ∀ (D : Nat) (W : World), w.heap.size ≤ D → I (cut46 x.data.toList) W → W.heap[D]? = some (.deferred (some [])) → Q .normal { a with defers := { target := .collected D, args := #[] } :: a.defers } W)
    (hstop : ∀ (D : Nat) (pre : List Txt) (W : World), w.heap.size ≤ D → pre <+: cut46 x.data.toList → IR pre W → W.heap[D]? = some (.deferred (some [])) → Code.ret.wpIn Fence.wide n Tryd.prog Q { a with defers := { target := .collected D, args := #[] } :: a.defers } W) :
    (Code.rangeFunc g ps assign body).wpIn Fence.wide n Tryd.prog Q a w := by
  refine wpIn_rangeFunc fun fn hfn => ?_
  obtain ⟨r, hr⟩ : ∃ r : LoopState → Option Code → Loop, r = fun st pe => { state := st, pending := pe, fn, tmps := a.tmps, params := ps, assign, body, defers := w.heap.size } := ⟨_, rfl⟩
  obtain ⟨b, hb⟩ : ∃ b, b = w.heap.size := ⟨_, rfl⟩
  have hbk : Book b (r .ready none) ((w.alloc (.deferred (some []))).alloc (.loop (r .ready none))) := by
    have e1 := (MapKept.heap_alloc w (.deferred (some []))).1
    have e2 := (MapKept.heap_alloc (w.alloc (.deferred (some []))) (.loop (r .ready none))).1
    rw [World.size_alloc] at e2
    rw [hb]
    exact ⟨e2, ((Below.refl (w.heap.size + 1) (w.alloc (.deferred (some [])))).alloc (by simp) _).block _ (by omega) |>.trans e1⟩
  have hbel : Below w.heap.size w ((w.alloc (.deferred (some []))).alloc (.loop (r .ready none))) := ((Below.refl _ w).alloc (Nat.le_refl _) _).alloc (by simp) _
  have hI1 : I [] ((w.alloc (.deferred (some []))).alloc (.loop (r .ready none))) := hI.alloc _ (hI.alloc _ h0)
  generalize hW1 : (w.alloc (.deferred (some []))).alloc (.loop (r .ready none)) = W1 at hbk hbel hI1
  refine ⟨b + 1, [{ target := .collected b, args := #[] }], W1, { target := .fn (.func 87) #[.pointer (some ⟨bp, 0, none⟩), .pointer (some ⟨bs, 0, none⟩), .pointer (some ⟨bv, 0, none⟩)], args := #[.func (.yield (b + 1)) #[] #[]] }, W1, 87, #[.func (.yield (b + 1)) #[] #[], .pointer (some ⟨bp, 0, none⟩), .pointer (some ⟨bs, 0, none⟩), .pointer (some ⟨bv, 0, none⟩)], W1, ?_, ?_, fun _ _ => trivial, ?_, fun _ => by omega, ?_⟩
  · rw [← hW1, hr, hb]; exact run_enterLoop_outer _ _ _ _ _
  · simp only [resolve, hg]
    simp [go_sem]
  · simp [invoke, go_sem]
  · refine (split_in (n - 1) (by omega) (b + 1) bp bs bv b (by omega) (by omega) (by omega) hp hv x.data.toList (fun pre W => I pre W ∧ Book b (r .ready none) W) (fun pre W => IR pre W ∧ Book b (r .done (some .ret)) W) ?_ ?_ W1 x rfl hx2 ((hbel.cell (p := ⟨bp, 0, none⟩) hbp).trans c1) ((hbel.cell (p := ⟨bs, 0, none⟩) hbs).trans c2) ((hbel.cell (p := ⟨bv, 0, none⟩) hbv).trans c3) ((hbel.frozen (p := ⟨bs, 0, none⟩) hbs).trans f2) ⟨hI1, hbk⟩).mono ?_
    · rintro pre y W ⟨hi, hk⟩
      have hy := run_yield (P := Tryd.prog) (args := #[.string y]) hk.rec_ (by rw [hr]; exact hps.symm)
      rw [hr] at hy
      refine ⟨fn, _, assign, body, hy, roundIn_of_wpIn hfn (hassign _ y W _ ⟨_, run_beginRound hk.rec_ (by rw [hr]), ?_⟩)⟩
      have hk2 : Book b { r .ready none with state := .busy } (W.putObj (b + 1) (.loop { r .ready none with state := .busy })) := hk.turn _
      have hb2 : Below b W (W.putObj (b + 1) (.loop { r .ready none with state := .busy })) := belowK_b (w := w) (by omega) W _ _ _ (by omega) hk.rec_ rfl rfl
      refine wpIn_mono (hbody _ pre y _ (hI.putObj _ hi (by omega) hk.rec_ rfl)) ?_
      rintro e a3 W3 hpost
      cases e with
      | normal =>
        obtain ⟨h1, h2, h3⟩ := hpost
        rw [← hb] at h1 h2
        have hk3 := hk2.keeps h1
        have he := run_endRound (P := Tryd.prog) none hk3.rec_
        refine ⟨_, _, he, .inl ⟨rfl, ⟨hI.putObj _ h3 (by omega) hk3.rec_ rfl, ?_⟩, ?_⟩⟩
        · have := hk3.turn (r .ready none)
          rw [hr] at this ⊢
          exact this
        · exact (hb2.trans h2).trans (belowK_b (w := w) (by omega) W3 _ _ _ (by omega) hk3.rec_ rfl rfl)
      | ret =>
        obtain ⟨h1, h3⟩ := hpost
        rw [← hb] at h1
        have hk3 := hk2.keeps h1
        have he := run_endRound (P := Tryd.prog) (some .ret) hk3.rec_
        refine ⟨_, _, he, .inr ⟨rfl, hIR.putObj _ h3 (by omega) hk3.rec_ rfl, ?_⟩⟩
        have := hk3.turn (r .done (some .ret))
        rw [hr] at this ⊢
        exact this
      | exit id => exact hpost.2.elim
      | goto t => exact hpost.2.elim
      | panic ch => exact hpost.elim
      | outgrown => exact hpost.elim
    · rintro pre W y z ⟨hi, hk⟩ hc
      exact ⟨hC pre W y z hi hc, hk.moved (grownBy_setCell' W bs (.string z)) (fun k e => by cases e; omega)⟩
    · rintro e W2 ⟨⟨v, rfl⟩, (⟨hi, hk⟩ | ⟨pre, hpre, hi, hk⟩)⟩
      · have he := run_endLoop (P := Tryd.prog) hk.rec_ (by rw [hr]; simp)
        have hpn : (r .ready none).pending = none := by rw [hr]
        rw [hpn] at he
        exact ⟨none, _, he, hdone b _ (by omega) (hI.putObj _ hi (by omega) hk.rec_ rfl) (hk.turn _).def_⟩
      · have he := run_endLoop (P := Tryd.prog) hk.rec_ (by rw [hr]; simp)
        have hpn : (r .done (some .ret)).pending = some .ret := by rw [hr]
        rw [hpn] at he
        exact ⟨some .ret, _, he, hstop b pre _ (by omega) hpre (hIR.putObj _ hi (by omega) hk.rec_ rfl) (hk.turn _).def_⟩
end Go.Proofs.YtegognbnphpigaaDoor
