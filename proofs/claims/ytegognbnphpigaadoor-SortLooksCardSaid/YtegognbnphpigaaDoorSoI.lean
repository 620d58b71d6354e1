/-
  A loop over slices.Backward at a row of variables.
-/
import Derived.Test.YtegognbnphpigaaDoorSoH
namespace Go.Proofs.YtegognbnphpigaaDoor
open Go.RowKit Go.Shelf

attribute [local go_sem] Oper.semAt_some
theorem rev_snoc {vs : List Vr} {j : Nat} (h : j < vs.length) : (vs.drop j).reverse = (vs.drop (j + 1)).reverse ++ [vs.getD j vr0] := by
  rw [drop_at (d := vr0) h, List.reverse_cons]
theorem rev_prefix (vs : List Vr) (j : Nat) : (vs.drop j).reverse <+: vs.reverse := by
  refine ⟨(vs.take j).reverse, ?_⟩
  rw [← List.reverse_append, List.take_append_drop]

set_option maxHeartbeats 2000000 in
theorem back_in (n : Nat) (hn : 1 ≤ n) (l bp n₀ : Nat) (hbp : bp < n₀) (A : Option Addr) (m c : Nat) (vs : List Vr) (hml : vs.length = m) (hm47 : m ≤ 9223372036854775807) (J Jx : List Vr → World → Prop)
    (hY : ∀ (pre : List Vr) (i : Int) (v : Vr) (W1 : World), J pre W1 → YieldAt Fence.wide (n - 1) Tryd.prog l #[.int .i64 i, .agg #[.string ⟨v.name.toArray⟩, .string ⟨v.sort.toArray⟩]] W1 fun e W' =>
      (e = .returned (.bool true) ∧ J (pre ++ [v]) W' ∧ Below n₀ W1 W') ∨ (e = .returned (.bool false) ∧ Jx (pre ++ [v]) W'))
    (W : World) (hA : 0 < m → ∃ g o, A = some ⟨g, o, none⟩ ∧ g < n₀ ∧ ∀ k, k < m → W.cell? ⟨g, o + k * 2, none⟩ = some (strVal (vs.getD k vr0).name) ∧ W.cell? ⟨g, o + k * 2 + 1, none⟩ = some (strVal (vs.getD k vr0).sort))
    (c1 : W.cell? ⟨bp, 0, none⟩ = some (.slice A m c)) (h0 : J [] W) :
    CallsIn Fence.wide n Tryd.prog 61 #[.func (.yield l) #[] #[], .pointer (some ⟨bp, 0, none⟩)] W fun e W' => (∃ v, e = .returned v) ∧
      (J vs.reverse W' ∨ ∃ pre, pre <+: vs.reverse ∧ Jx pre W') := by
  have hfn : Fence.wide.fn 61 := trivial
  have HA := Lib.hid hA
  have HL := Lib.hid hml
  have HC := Lib.hid c1
  have p0 : IntKind.i64.wrap ((m : Int) - 1) = (m : Int) - 1 := (IntWalk.i64_left _).trans (IntWalk.wrap64_in _ (by omega))
  clear hA hml
  refine callsIn_of_wp Tryd.func61 rfl hfn ?_ rfl
  simp only [Tryd.ntmps61, List.size_toArray, List.length_cons, List.length_nil, Nat.reduceAdd, Nat.reduceSub, Array.replicate_succ, Array.replicate_zero, List.push_toArray, List.append_toArray, List.nil_append, List.cons_append]
  gi_wp2
  clear c1 p0
  gi_loopw [3] (fun iv wr => ∃ k : Nat, k ≤ m ∧ iv = .int .i64 ((k : Int) - 1) ∧ J (vs.drop k).reverse wr ∧ Below n₀ W wr) (fun iv _ => (intOf iv + 1).toNat)
  case atStart =>
    exact ⟨m, Nat.le_refl _, by go_num, by rw [List.drop_eq_nil_of_le (by rw [HL.out]; exact Nat.le_refl _)]; exact h0, Below.refl _ _⟩
  case round =>
    obtain ⟨k, hk, rfl, hJ, hb⟩ := hrel
    have d1 : wr.cell? ⟨bp, 0, none⟩ = some (.slice A m c) := (hb.cell (p := ⟨bp, 0, none⟩) hbp).trans HC.out
    have HB := Lib.hid hb
    clear hb
    cases k with
    | zero =>
      have q : ¬ (0 : Int) ≤ ((0 : Nat) : Int) - 1 := by omega
      gi_wp2
      go_end0
      exact ⟨⟨_, rfl⟩, .inl (by simpa using hJ)⟩
    | succ j =>
      have ej : ((j + 1 : Nat) : Int) - 1 = (j : Int) := by omega
      rw [ej]
      have hjl : j < vs.length := by rw [HL.out]; omega
      obtain ⟨g, o, rfl, hg, hc⟩ := HA.out (by omega)
      have e0 := (HB.out.cell (p := ⟨g, o + j * 2, none⟩) hg).trans (hc j (by omega)).1
      have e1 := (HB.out.cell (p := ⟨g, o + j * 2 + 1, none⟩) hg).trans (hc j (by omega)).2
      have HE : Hid ((vs.drop j).reverse = (vs.drop (j + 1)).reverse ++ [vs.getD j vr0]) := rev_snoc hjl
      have hjm : (j : Int) < (m : Int) := by omega
      have p5 : IntKind.i64.wrap ((j : Int) - 1) = (j : Int) - 1 := (IntWalk.i64_left _).trans (IntWalk.wrap64_in _ (by omega))
      obtain ⟨v, hv⟩ : ∃ v, vs.getD j vr0 = v := ⟨_, rfl⟩
      rw [hv] at e0 e1 HE
      simp only [strVal] at e0 e1
      clear hc hg hjl hv ej
      obtain ⟨fn, tmps, assign, body, hy, hR⟩ := hY (vs.drop (j + 1)).reverse (j : Int) v wr hJ
      have HJ : Hid (j + 1 ≤ m) := hk
      clear hJ hk
      gi_wp2
      refine hR.mono ?_
      rintro e W3 (⟨rfl, hJ3, hk3⟩ | ⟨rfl, hJx3⟩)
      · have HB3 := Lib.hid (HB.out.trans hk3)
        rw [← HE.out] at hJ3
        have HJ3 := Lib.hid hJ3
        clear hk3 hJ3
        gi_wp2
        go_roundw
        case rel => exact ⟨j, by have := HJ.out; omega, by go_num, HJ3.out, HB3.out⟩
        case measure => simp [intOf] <;> omega
      · gi_wp2
        refine bodyPost_ret (results_none rfl _ _ _) rfl ?_
        exact ⟨⟨_, rfl⟩, .inr ⟨_, by rw [← HE.out]; exact rev_prefix _ _, hJx3⟩⟩

/-- How a round may leave: it goes on, or returns. -/
def BackX (IR : List Vr → World → Prop) : Code → List Vr → World → Prop
  | .ret, pre, W => IR pre W
  | _, _, _ => False
set_option maxHeartbeats 2000000 in
theorem loop_back (n : Nat) (hn : 2 ≤ n) {g : Operand} {ps : Array Tmp} {assign body : Code} {Q : Exit → Act → World → Prop} {a : Act} {w : World} (bp : Nat) (hbp : bp < w.heap.size)
    (hg : a.eval g = .func (.func 61) #[] #[.pointer (some ⟨bp, 0, none⟩)]) (hps : ps.size = 2)
    (A : Option Addr) (m c : Nat) (vs : List Vr) (hVs : Vs w A m c vs) (c1 : w.cell? ⟨bp, 0, none⟩ = some (.slice A m c))
    (I IR : List Vr → World → Prop) (hI : OwnFrom w.heap.size I) (hIR : OwnFrom w.heap.size IR)
    (h0 : I [] w) (a₁ : Int → Vr → Nat → Act)
    (hassign : ∀ (l : Nat) (i : Int) (v : Vr) (W : World) (B : Nat) (K : Act → World → Prop), B = W.heap.size → K (a₁ i v B) (W.alloc (.cells #[.string ⟨v.name.toArray⟩, .string ⟨v.sort.toArray⟩] 62)) →
      assign.wpIn (Fence.wide.inRound l) (n - 1 - 1) Tryd.prog (Exit.then K (fun _ _ _ => False)) { tmps := (ps.zip #[.int .i64 i, .agg #[.string ⟨v.name.toArray⟩, .string ⟨v.sort.toArray⟩]]).foldl (fun t (p, v) => t.setIfInBounds p v) a.tmps, defers := [] } W)
    (hbody : ∀ (l : Nat) (pre : List Vr) (i : Int) (v : Vr) (B : Nat) (W : World), I pre W → Bk 62 W B #[.string ⟨v.name.toArray⟩, .string ⟨v.sort.toArray⟩] → w.heap.size ≤ B → body.wpIn (Fence.wide.inRound l) (n - 1 - 1) Tryd.prog (ownPostG w.heap.size (Below w.heap.size) I (BackX IR) (pre ++ [v]) W) (a₁ i v B) W)
    (hdone : ∀ (D : Nat) (W : World), w.heap.size ≤ D → I vs.reverse W → W.heap[D]? = some (.deferred (some [])) → Q .normal { a with defers := { target := .collected D, args := #[] } :: a.defers } W)
    (hstop : ∀ (D : Nat) (pre : List Vr) (W : World), w.heap.size ≤ D → pre <+: vs.reverse → IR pre W → W.heap[D]? = some (.deferred (some [])) → Code.ret.wpIn Fence.wide n Tryd.prog Q { a with defers := { target := .collected D, args := #[] } :: a.defers } W) :
    (Code.rangeFunc g ps assign body).wpIn Fence.wide n Tryd.prog Q a w := by
  refine wpIn_rangeFunc fun fn hfn => ?_
  obtain ⟨r, hr⟩ : ∃ r : LoopState → Option Code → Loop, r = fun st pe => { state := st, pending := pe, fn, tmps := a.tmps, params := ps, assign, body, defers := w.heap.size } := ⟨_, rfl⟩
  obtain ⟨b, hb⟩ : ∃ b, b = w.heap.size := ⟨_, rfl⟩
  have hbk : Book b (r .ready none) ((w.alloc (.deferred (some []))).alloc (.loop (r .ready none))) := by
    have e1 := (MapKept.heap_alloc w (.deferred (some []))).1
    have e2 := (MapKept.heap_alloc (w.alloc (.deferred (some []))) (.loop (r .ready none))).1
    rw [World.size_alloc] at e2
    rw [hb]
    exact ⟨e2, ((Below.refl (w.heap.size + 1) (w.alloc (.deferred (some [])))).alloc (by simp) _).block _ (by omega) |>.trans e1⟩
  have hbel : Below w.heap.size w ((w.alloc (.deferred (some []))).alloc (.loop (r .ready none))) := ((Below.refl _ w).alloc (Nat.le_refl _) _).alloc (by simp) _
  have hI1 : I [] ((w.alloc (.deferred (some []))).alloc (.loop (r .ready none))) := hI.alloc _ (hI.alloc _ h0)
  generalize hW1 : (w.alloc (.deferred (some []))).alloc (.loop (r .ready none)) = W1 at hbk hbel hI1
  refine ⟨b + 1, [{ target := .collected b, args := #[] }], W1, { target := .fn (.func 61) #[.pointer (some ⟨bp, 0, none⟩)], args := #[.func (.yield (b + 1)) #[] #[]] }, W1, 61, #[.func (.yield (b + 1)) #[] #[], .pointer (some ⟨bp, 0, none⟩)], W1, ?_, ?_, fun _ _ => trivial, ?_, fun _ => by omega, ?_⟩
  · rw [← hW1, hr, hb]; exact run_enterLoop_outer _ _ _ _ _
  · simp only [resolve, hg]
    simp [go_sem]
  · simp [invoke, go_sem]
  · refine (back_in (n - 1) (by omega) (b + 1) bp b (by omega) A m c vs hVs.len (Nat.le_trans hVs.cap hVs.top) (fun pre W => I pre W ∧ Book b (r .ready none) W) (fun pre W => IR pre W ∧ Book b (r .done (some .ret)) W) ?_ W1 (fun hm => ?_) ((hbel.cell (p := ⟨bp, 0, none⟩) hbp).trans c1) ⟨hI1, hbk⟩).mono ?_
    · rintro pre i v W ⟨hi, hk⟩
      have hy := run_yield (P := Tryd.prog) (args := #[.int .i64 i, .agg #[.string ⟨v.name.toArray⟩, .string ⟨v.sort.toArray⟩]]) hk.rec_ (by rw [hr]; exact hps.symm)
      rw [hr] at hy
      have hbW : b < W.heap.size := (Array.getElem?_eq_some_iff.1 hk.def_).1
      have hkA : Book b (r .ready none) (W.alloc (.cells #[.string ⟨v.name.toArray⟩, .string ⟨v.sort.toArray⟩] 62)) := hk.moved (World.grownBy_alloc W _ none) (fun k e => by cases e)
      have hiA : I pre (W.alloc (.cells #[.string ⟨v.name.toArray⟩, .string ⟨v.sort.toArray⟩] 62)) := hI.alloc _ hi
      have hBA : Bk 62 (W.alloc (.cells #[.string ⟨v.name.toArray⟩, .string ⟨v.sort.toArray⟩] 62)) W.heap.size #[.string ⟨v.name.toArray⟩, .string ⟨v.sort.toArray⟩] := Bk.new _ _ _
      refine ⟨fn, _, assign, body, hy, roundIn_of_wpIn hfn (hassign _ i v W _ _ rfl ⟨_, run_beginRound hkA.rec_ (by rw [hr]), ?_⟩)⟩
      have hk2 : Book b { r .ready none with state := .busy } ((W.alloc (.cells #[.string ⟨v.name.toArray⟩, .string ⟨v.sort.toArray⟩] 62)).putObj (b + 1) (.loop { r .ready none with state := .busy })) := hkA.turn _
      have hb2 : Below b (W.alloc (.cells #[.string ⟨v.name.toArray⟩, .string ⟨v.sort.toArray⟩] 62)) ((W.alloc (.cells #[.string ⟨v.name.toArray⟩, .string ⟨v.sort.toArray⟩] 62)).putObj (b + 1) (.loop { r .ready none with state := .busy })) := belowK_b (w := w) (by omega) _ _ _ _ (by omega) hkA.rec_ rfl rfl
      have hbA : Below b W (W.alloc (.cells #[.string ⟨v.name.toArray⟩, .string ⟨v.sort.toArray⟩] 62)) := (Below.refl b W).alloc (by omega) _
      have hB2 : Bk 62 ((W.alloc (.cells #[.string ⟨v.name.toArray⟩, .string ⟨v.sort.toArray⟩] 62)).putObj (b + 1) (.loop { r .ready none with state := .busy })) W.heap.size #[.string ⟨v.name.toArray⟩, .string ⟨v.sort.toArray⟩] := by
        have hne : W.heap.size ≠ b + 1 := by
          have := (Array.getElem?_eq_some_iff.1 hk.rec_).1
          omega
        exact (World.putObj_heap_other hne).trans hBA
      refine wpIn_mono (hbody _ pre i v W.heap.size _ (hI.putObj _ hiA (by omega) hkA.rec_ rfl) hB2 (by omega)) ?_
      rintro e a3 W3 hpost
      cases e with
      | normal =>
        obtain ⟨h1, h2, h3⟩ := hpost
        rw [← hb] at h1 h2
        have hk3 := hk2.keeps h1
        have he := run_endRound (P := Tryd.prog) none hk3.rec_
        refine ⟨_, _, he, .inl ⟨rfl, ⟨hI.putObj _ h3 (by omega) hk3.rec_ rfl, ?_⟩, ?_⟩⟩
        · have := hk3.turn (r .ready none)
          rw [hr] at this ⊢
          exact this
        · exact ((hbA.trans hb2).trans h2).trans (belowK_b (w := w) (by omega) W3 _ _ _ (by omega) hk3.rec_ rfl rfl)
      | ret =>
        obtain ⟨h1, h3⟩ := hpost
        rw [← hb] at h1
        have hk3 := hk2.keeps h1
        have he := run_endRound (P := Tryd.prog) (some .ret) hk3.rec_
        refine ⟨_, _, he, .inr ⟨rfl, hIR.putObj _ h3 (by omega) hk3.rec_ rfl, ?_⟩⟩
        have := hk3.turn (r .done (some .ret))
        rw [hr] at this ⊢
        exact this
      | exit id => exact hpost.2.elim
      | goto t => exact hpost.2.elim
      | panic ch => exact hpost.elim
      | outgrown => exact hpost.elim
    · obtain ⟨g', o', e', hg', hc'⟩ := hVs.cells hm
      exact ⟨g', o', e', by omega, fun k hk => ⟨(hbel.cell (p := ⟨g', o' + k * 2, none⟩) hg').trans (hc' k hk).1, (hbel.cell (p := ⟨g', o' + k * 2 + 1, none⟩) hg').trans (hc' k hk).2⟩⟩
    · rintro e W2 ⟨⟨v, rfl⟩, (⟨hi, hk⟩ | ⟨pre, hpre, hi, hk⟩)⟩
      · have he := run_endLoop (P := Tryd.prog) hk.rec_ (by rw [hr]; simp)
        have hpn : (r .ready none).pending = none := by rw [hr]
        rw [hpn] at he
        exact ⟨none, _, he, hdone b _ (by omega) (hI.putObj _ hi (by omega) hk.rec_ rfl) (hk.turn _).def_⟩
      · have he := run_endLoop (P := Tryd.prog) hk.rec_ (by rw [hr]; simp)
        have hpn : (r .done (some .ret)).pending = some .ret := by rw [hr]
        rw [hpn] at he
        exact ⟨some .ret, _, he, hstop b pre _ (by omega) hpre (hIR.putObj _ hi (by omega) hk.rec_ rfl) (hk.turn _).def_⟩
end Go.Proofs.YtegognbnphpigaaDoor
