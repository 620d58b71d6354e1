/-
  Rows of tokens: reading and append.
-/
import Derived.Test.YtblakndpionmgaaDoorLxB
import Derived.Maps.AppendAt
namespace Go.Proofs.YtblakndpionmgaaDoor
open Go.RowKit

theorem flat_len (ts : List Tk) : (ts.flatMap encTk).length = ts.length * 4 := by
  induction ts with
  | nil => rfl
  | cons t ts ih => rw [List.flatMap_cons, List.length_append, ih, List.length_cons]; show 4 + _ = _; omega
theorem flat_get {ts : List Tk} {k j : Nat} (hk : k < ts.length) (hj : j < 4) : (ts.flatMap encTk)[k * 4 + j]? = some ((encTk (ts.getD k tk0)).getD j undef) := by
  induction ts generalizing k with
  | nil => simp at hk
  | cons t ts ih =>
    rw [List.flatMap_cons]
    cases k with
    | zero =>
      rw [List.getElem?_append_left (by show _ < 4; omega)]
      have : j = 0 ∨ j = 1 ∨ j = 2 ∨ j = 3 := by omega
      rcases this with rfl | rfl | rfl | rfl <;> rfl
    | succ k =>
      rw [List.getElem?_append_right (by show 4 ≤ _; omega)]
      have e : (k + 1) * 4 + j - (encTk t).length = k * 4 + j := by show _ - 4 = _; omega
      rw [e, ih (by simpa using hk)]
      rfl
/-- The slice value (A, n, c) reads as the tokens ts. -/
structure Ts (w : World) (A : Option Addr) (n c : Nat) (ts : List Tk) : Prop where
  len : ts.length = n
  cap : n ≤ c
  top : c ≤ 9223372036854775807
  cells : 0 < n → ∃ g o, A = some ⟨g, o, none⟩ ∧ g < w.heap.size ∧ ∀ k, k < n → ∀ j, j < 4 → w.cell? ⟨g, o + (k * 4 + j), none⟩ = some ((encTk (ts.getD k tk0)).getD j undef)
theorem Ts.nil (w : World) : Ts w none 0 0 [] := ⟨rfl, Nat.le_refl _, by omega, fun h => absurd h (by omega)⟩
theorem Ts.keep {w w' : World} {A : Option Addr} {n c : Nat} {ts : List Tk} (h : Ts w A n c ts) (hs : w.heap.size ≤ w'.heap.size) (hk : ∀ p : Addr, p.block < w.heap.size → w'.cell? p = w.cell? p) : Ts w' A n c ts :=
  ⟨h.len, h.cap, h.top, fun hn => by
    obtain ⟨g, o, e, hg, hc⟩ := h.cells hn
    exact ⟨g, o, e, by omega, fun k hk' j hj => (hk _ hg).trans (hc k hk' j hj)⟩⟩
theorem Ts.below {w w' : World} {A : Option Addr} {n c : Nat} {ts : List Tk} (h : Ts w A n c ts) (hb : Below w.heap.size w w') : Ts w' A n c ts := h.keep hb.size fun _ hp => hb.cell hp
theorem Ts.alloc {w : World} {A : Option Addr} {n c : Nat} {ts : List Tk} (h : Ts w A n c ts) (o : Obj) : Ts (w.alloc o) A n c ts := h.below ((Below.refl _ _).alloc (Nat.le_refl _) o)
theorem Ts.at_ {w : World} {A : Option Addr} {n c : Nat} {ts : List Tk} (h : Ts w A n c ts) {k : Nat} (hk : k < n) :
    ∃ g o x, A = some ⟨g, o, none⟩ ∧ g < w.heap.size ∧ w.cell? ⟨g, o + k * 4, none⟩ = some (.int .i64 (ts.getD k tk0).kind) ∧ w.cell? ⟨g, o + k * 4 + 1, none⟩ = some (.string x) ∧ w.cell? ⟨g, o + k * 4 + 2, none⟩ = some (.int .i64 (ts.getD k tk0).n) ∧ w.cell? ⟨g, o + k * 4 + 3, none⟩ = some (.int .i64 (ts.getD k tk0).line) ∧ Hid (x.data.toList = (ts.getD k tk0).text) := by
  obtain ⟨g, o, hA, hg, hc⟩ := h.cells (by omega)
  exact ⟨g, o, _, hA, hg, hc k hk 0 (by omega), hc k hk 1 (by omega), hc k hk 2 (by omega), hc k hk 3 (by omega), rfl⟩
theorem Ts.of_row {w : World} {base : Nat} {v : Value} {n : Nat} {ts : List Tk} (hn : ts.length = n) (h : w.ownsRow base 36 4 v n (ts.flatMap encTk)) : ∃ A c, v = .slice A n c ∧ Ts w A n c ts := by
  rcases h.2 with ⟨rfl, rfl⟩ | ⟨g, cap, cur, rfl, hb, hg, h1, h2, h3, ht⟩
  · have : ts = [] := List.eq_nil_of_length_eq_zero hn
    subst this
    exact ⟨none, 0, rfl, Ts.nil w⟩
  · refine ⟨some ⟨g, 0, none⟩, cap, rfl, hn, h1, by unfold maxLen at h2; omega, fun h0 => ⟨g, 0, rfl, (Array.getElem?_eq_some_iff.1 hg).1, fun k hk j hj => ?_⟩⟩
    have e := flat_get (ts := ts) (k := k) (j := j) (by omega) hj
    rw [← ht, List.getElem?_take] at e
    split at e
    · unfold World.cell?
      rw [hg]
      simp only [Nat.zero_add]
      have e2 : cur[k * 4 + j]? = some ((encTk (ts.getD k tk0)).getD j undef) := by rw [← e]; simp
      simpa using e2
    · cases e
theorem tk_info : (Tryd.prog.info? 36).map (fun i => (i.zero, i.size, i.bytes)) = some (some (tkVal tk0), 4, 40) := by kernel_rfl
theorem trow_nil (w : World) (base : Nat) : w.ownsRow base 36 4 (.slice none 0 0) ([] : List Tk).length (([] : List Tk).flatMap encTk) := ⟨rfl, .inl ⟨rfl, rfl⟩⟩
theorem trow_ge {w : World} {base : Nat} {e : TypeId} {size n k : Nat} {v : Value} {xs : List Value} (h : w.ownsRow base e size v n xs) (hk : v.ownBlock = some k) : base ≤ k := by
  rcases h.2 with ⟨rfl, _⟩ | ⟨g, cap, cur, rfl, hb, _⟩
  · cases hk
  · cases hk; exact hb
theorem trow_below {w w' : World} {base : Nat} {e : TypeId} {size n : Nat} {v : Value} {xs : List Value} (h : w.ownsRow base e size v n xs) (hb : Below w.heap.size w w') : w'.ownsRow base e size v n xs := by
  refine ⟨h.1, ?_⟩
  rcases h.2 with h0 | ⟨g, cap, cur, rfl, h1, hg, rest⟩
  · exact .inl h0
  · exact .inr ⟨g, cap, cur, rfl, h1, (hb.block _ (Array.getElem?_eq_some_iff.1 hg).1).trans hg, rest⟩
/-- 'append(l, t)', l a list of tokens that the call made. -/
theorem wpList_append_tk (w : World) {ops : Array Oper} {rest : List Oper} {o : Oper} {a : Act} {Q : Exit → Act → World → Prop} (hgd : o.guard = none) (s x : Operand)
    (ho : o.op = .call { callee := .builtin .append, args := #[s, x], argTypes := #[26, 26] })
    (base : Nat) (hbase : base ≤ w.heap.size) (v : Value) (xs : List Tk) (hs : a.eval s = v) (hown : w.ownsRow base 36 4 v xs.length (xs.flatMap encTk))
    (g : Nat) (t : Tk) (hx : a.eval x = .slice (some ⟨g, 0, none⟩) 1 1) (hB : Bk 36 w g (encTk t).toArray) (hb : xs.length ≤ 1000000)
    (h : ∀ v' w', w'.ownsRow base 36 4 v' (xs ++ [t]).length ((xs ++ [t]).flatMap encTk) → w.grownBy w' v.ownBlock → (v'.ownBlock = v.ownBlock ∨ v'.ownBlock = some w.heap.size) → wpList Tryd.prog ops Q rest (a.put o.dst v') w') :
    wpList Tryd.prog ops Q (o :: rest) a w := by
  obtain ⟨i0, hi, hz0, hz1, hz2⟩ := info_parts tk_info
  refine wpList_append_own_at w hgd s x 26 ho base 36 i0 (tkVal tk0) 4 40 Tryd.underlying26 hi hz0 hz1 hz2 rfl (by decide) v xs.length _ hs hown ⟨g, 0, none⟩ 1 1 (encTk t) hx rfl (fun j u hj => ?_) (fun u hu => ?_) (by unfold maxLen; omega) (by omega) hbase ?_
  · have e2 : (⟨g, 0, none⟩ : Addr).add j = ⟨g, j, none⟩ := by unfold Addr.add; simp; exact Eq.symm
    rw [e2]
    exact hB.c j (by simpa using hj)
  · unfold encTk at hu
    simp only [List.mem_cons, List.not_mem_nil, or_false] at hu
    rcases hu with rfl | rfl | rfl | rfl <;> rfl
  · intro v' w' h1 h2 _ h4
    refine h v' w' ?_ h2 h4
    rw [List.length_append, List.flatMap_append]
    simpa using h1
end Go.Proofs.YtblakndpionmgaaDoor
