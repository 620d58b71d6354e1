/-
  slices.Clone; copies of symbols and of holes.
-/
import Derived.Test.YtegognbnphpigaaDoorSoE
import Derived.Lib.SliceRun
namespace Go.Proofs.YtegognbnphpigaaDoor
open Go.RowKit

theorem empty_row (w : World) (E : TypeId) (size : Nat) : (w.alloc (.cells #[] E)).ownsRow w.heap.size E size (.slice (some ⟨w.heap.size, 0, none⟩) 0 0) 0 [] :=
  ⟨by simp, .inr ⟨w.heap.size, 0, #[], rfl, Nat.le_refl _, (MapKept.heap_alloc w _).1, Nat.le_refl _, by decide, by simp, by simp⟩⟩
theorem row_out {w : World} {base : Nat} {E : TypeId} {size n : Nat} {v : Value} {xs : List Value} (h : w.ownsRow base E size v n xs) :
    ∃ A c, v = .slice A n c ∧ n ≤ c ∧ c ≤ maxLen ∧ (∀ a, A = some a → base ≤ a.block) ∧ (0 < n → ∃ g, A = some ⟨g, 0, none⟩ ∧ g < w.heap.size ∧ (∀ i, w.frozen? ⟨g, i, none⟩ = false) ∧ ∀ j u, xs[j]? = some u → w.cell? ⟨g, j, none⟩ = some u) := by
  obtain ⟨hl, h⟩ := h
  rcases h with ⟨rfl, rfl⟩ | ⟨g, cap, cur, rfl, hb, hg, hc, hm, hs, ht⟩
  · exact ⟨none, 0, rfl, Nat.le_refl _, by decide, (fun a e => by cases e), fun h => absurd h (by omega)⟩
  · refine ⟨some ⟨g, 0, none⟩, cap, rfl, hc, hm, (fun a e => by cases e; exact hb), fun _ => ⟨g, rfl, (Array.getElem?_eq_some_iff.1 hg).1, fun i => by simp [World.frozen?, hg], fun j u hj => ?_⟩⟩
    have hjl := (List.getElem?_eq_some_iff.1 hj).1
    rw [← ht, List.getElem?_take] at hj
    split at hj
    · unfold World.cell?
      rw [hg]
      simpa using hj
    · cases hj
theorem srt_info : (Tryd.prog.info? 22).map (fun i => (i.zero, i.size, i.bytes)) = some (some (.string ⟨#[]⟩), 1, 16) := by kernel_rfl
set_option maxHeartbeats 1000000 in
theorem clone_srt (A : Option Addr) (n c : Nat) (news : List Value) (w : World) (hl : news.length = n * 1) (hn : n ≤ 100000) (hA : 0 < n → ∃ g o, A = some ⟨g, o, none⟩ ∧ ∀ j u, news[j]? = some u → w.cell? ⟨g, o + j, none⟩ = some u) (h1 : ∀ u ∈ news, u.oneCell' = true) :
    Calls Tryd.prog 62 #[.slice A n c] w fun e w' => ∃ v', e = .returned v' ∧ w'.ownsRow w.heap.size 22 1 v' n news ∧ Below w.heap.size w w' := by
  have q := fun (W : World) (a : Option Addr) (n c n' c' : Nat) => Lib.run_eql_slice_nil (P := Tryd.prog) W 23 22 a n c n' c' Tryd.underlying23
  cases A with
  | none =>
    have h0 : n = 0 := by
      rcases Nat.eq_zero_or_pos n with h | h
      · exact h
      · obtain ⟨g, o, e, _⟩ := hA h; cases e
    subst h0
    have hnil : news = [] := List.eq_nil_of_length_eq_zero (by simpa using hl)
    subst hnil
    clear hl hn hA h1
    go_enter Tryd.func62, Tryd.ntmps62
    go_wp2_with fail
    go_ret
    exact ⟨_, rfl, ⟨rfl, .inl ⟨rfl, rfl⟩⟩, Below.refl _ _⟩
  | some ad =>
    obtain ⟨i0, hi, hz0, hz1, hz2⟩ := info_parts srt_info
    have HC : Hid (∀ j u, news[j]? = some u → (w.alloc (.cells #[] 22)).cell? (ad.add j) = some u) := by
      intro j u hj
      have hjl := (List.getElem?_eq_some_iff.1 hj).1
      obtain ⟨g, o, e, hc⟩ := hA (by omega)
      cases e
      have e2 : (⟨g, o, none⟩ : Addr).add j = ⟨g, o + j, none⟩ := by unfold Addr.add; simp
      rw [e2]
      have hcell := hc j u hj
      have hlt : g < w.heap.size := by
        rcases Nat.lt_or_ge g w.heap.size with hlt | hge
        · exact hlt
        · unfold World.cell? at hcell; rw [Array.getElem?_eq_none hge] at hcell; cases hcell
      exact ((below_alloc (w := w) (.cells #[] 22)).cell hlt).trans hcell
    have HO := Lib.hid (empty_row w 22 1)
    have HL := Lib.hid hl
    have H1 := Lib.hid h1
    have HI := Lib.hid hi
    clear hA hl h1 hi
    go_enter Tryd.func62, Tryd.ntmps62
    go_wp2_with (at_builtin; refine wpList_append_own_at _ rfl _ _ 23 rfl w.heap.size 22 i0 (.string ⟨#[]⟩) 1 16 Tryd.underlying23 HI.out hz0 hz1 hz2 rfl (by decide) _ 0 [] rfl HO.out ad n c news rfl HL.out HC.out H1.out (by unfold maxLen; omega) (by omega) (by simp) ?_; intro v2 w2 hr2 hg2 hn2 ho2; have HR2 : Hid (w2.ownsRow w.heap.size 22 1 v2 n news) := (by show World.ownsRow _ _ _ _ _ _ _; simpa using hr2); have HB2 : Hid (Below w.heap.size w w2) := (below_alloc (w := w) (.cells #[] 22)).grown hg2 (by simp) (fun q hq => by cases hq; exact Nat.le_refl _); clear hr2 hg2 hn2 ho2)
    go_ret
    exact ⟨_, rfl, HR2.out, HB2.out⟩
theorem var_info : (Tryd.prog.info? 62).map (fun i => (i.zero, i.size, i.bytes)) = some (some (.agg #[.string ⟨#[]⟩, .string ⟨#[]⟩]), 2, 32) := by kernel_rfl
set_option maxHeartbeats 1000000 in
theorem clone_var (A : Option Addr) (n c : Nat) (news : List Value) (w : World) (hl : news.length = n * 2) (hn : n ≤ 100000) (hA : 0 < n → ∃ g o, A = some ⟨g, o, none⟩ ∧ ∀ j u, news[j]? = some u → w.cell? ⟨g, o + j, none⟩ = some u) (h1 : ∀ u ∈ news, u.oneCell' = true) :
    Calls Tryd.prog 63 #[.slice A n c] w fun e w' => ∃ v', e = .returned v' ∧ w'.ownsRow w.heap.size 62 2 v' n news ∧ Below w.heap.size w w' := by
  have q := fun (W : World) (a : Option Addr) (n c n' c' : Nat) => Lib.run_eql_slice_nil (P := Tryd.prog) W 32 62 a n c n' c' Tryd.underlying32
  cases A with
  | none =>
    have h0 : n = 0 := by
      rcases Nat.eq_zero_or_pos n with h | h
      · exact h
      · obtain ⟨g, o, e, _⟩ := hA h; cases e
    subst h0
    have hnil : news = [] := List.eq_nil_of_length_eq_zero (by simpa using hl)
    subst hnil
    clear hl hn hA h1
    go_enter Tryd.func63, Tryd.ntmps63
    go_wp2_with fail
    go_ret
    exact ⟨_, rfl, ⟨rfl, .inl ⟨rfl, rfl⟩⟩, Below.refl _ _⟩
  | some ad =>
    obtain ⟨i0, hi, hz0, hz1, hz2⟩ := info_parts var_info
    have HC : Hid (∀ j u, news[j]? = some u → (w.alloc (.cells #[] 62)).cell? (ad.add j) = some u) := by
      intro j u hj
      have hjl := (List.getElem?_eq_some_iff.1 hj).1
      obtain ⟨g, o, e, hc⟩ := hA (by omega)
      cases e
      have e2 : (⟨g, o, none⟩ : Addr).add j = ⟨g, o + j, none⟩ := by unfold Addr.add; simp
      rw [e2]
      have hcell := hc j u hj
      have hlt : g < w.heap.size := by
        rcases Nat.lt_or_ge g w.heap.size with hlt | hge
        · exact hlt
        · unfold World.cell? at hcell; rw [Array.getElem?_eq_none hge] at hcell; cases hcell
      exact ((below_alloc (w := w) (.cells #[] 62)).cell hlt).trans hcell
    have HO := Lib.hid (empty_row w 62 2)
    have HL := Lib.hid hl
    have H1 := Lib.hid h1
    have HI := Lib.hid hi
    clear hA hl h1 hi
    go_enter Tryd.func63, Tryd.ntmps63
    go_wp2_with (at_builtin; refine wpList_append_own_at _ rfl _ _ 32 rfl w.heap.size 62 i0 (.agg #[.string ⟨#[]⟩, .string ⟨#[]⟩]) 2 32 Tryd.underlying32 HI.out hz0 hz1 hz2 rfl (by decide) _ 0 [] rfl HO.out ad n c news rfl HL.out HC.out H1.out (by unfold maxLen; omega) (by omega) (by simp) ?_; intro v2 w2 hr2 hg2 hn2 ho2; have HR2 : Hid (w2.ownsRow w.heap.size 62 2 v2 n news) := (by show World.ownsRow _ _ _ _ _ _ _; simpa using hr2); have HB2 : Hid (Below w.heap.size w w2) := (below_alloc (w := w) (.cells #[] 62)).grown hg2 (by simp) (fun q hq => by cases hq; exact Nat.le_refl _); clear hr2 hg2 hn2 ho2)
    go_ret
    exact ⟨_, rfl, HR2.out, HB2.out⟩
theorem sym_info : (Tryd.prog.info? 25).map (fun i => (i.zero, i.size, i.bytes)) = some (some (.agg #[.string ⟨#[]⟩, .slice none 0 0, .string ⟨#[]⟩]), 3, 56) := by kernel_rfl
set_option maxHeartbeats 1000000 in
theorem clone_sym (A : Option Addr) (n c : Nat) (news : List Value) (w : World) (hl : news.length = n * 3) (hn : n ≤ 100000) (hA : 0 < n → ∃ g o, A = some ⟨g, o, none⟩ ∧ ∀ j u, news[j]? = some u → w.cell? ⟨g, o + j, none⟩ = some u) (h1 : ∀ u ∈ news, u.oneCell' = true) :
    Calls Tryd.prog 64 #[.slice A n c] w fun e w' => ∃ v', e = .returned v' ∧ w'.ownsRow w.heap.size 25 3 v' n news ∧ Below w.heap.size w w' := by
  have q := fun (W : World) (a : Option Addr) (n c n' c' : Nat) => Lib.run_eql_slice_nil (P := Tryd.prog) W 33 25 a n c n' c' Tryd.underlying33
  cases A with
  | none =>
    have h0 : n = 0 := by
      rcases Nat.eq_zero_or_pos n with h | h
      · exact h
      · obtain ⟨g, o, e, _⟩ := hA h; cases e
    subst h0
    have hnil : news = [] := List.eq_nil_of_length_eq_zero (by simpa using hl)
    subst hnil
    clear hl hn hA h1
    go_enter Tryd.func64, Tryd.ntmps64
    go_wp2_with fail
    go_ret
    exact ⟨_, rfl, ⟨rfl, .inl ⟨rfl, rfl⟩⟩, Below.refl _ _⟩
  | some ad =>
    obtain ⟨i0, hi, hz0, hz1, hz2⟩ := info_parts sym_info
    have HC : Hid (∀ j u, news[j]? = some u → (w.alloc (.cells #[] 25)).cell? (ad.add j) = some u) := by
      intro j u hj
      have hjl := (List.getElem?_eq_some_iff.1 hj).1
      obtain ⟨g, o, e, hc⟩ := hA (by omega)
      cases e
      have e2 : (⟨g, o, none⟩ : Addr).add j = ⟨g, o + j, none⟩ := by unfold Addr.add; simp
      rw [e2]
      have hcell := hc j u hj
      have hlt : g < w.heap.size := by
        rcases Nat.lt_or_ge g w.heap.size with hlt | hge
        · exact hlt
        · unfold World.cell? at hcell; rw [Array.getElem?_eq_none hge] at hcell; cases hcell
      exact ((below_alloc (w := w) (.cells #[] 25)).cell hlt).trans hcell
    have HO := Lib.hid (empty_row w 25 3)
    have HL := Lib.hid hl
    have H1 := Lib.hid h1
    have HI := Lib.hid hi
    clear hA hl h1 hi
    go_enter Tryd.func64, Tryd.ntmps64
    go_wp2_with (at_builtin; refine wpList_append_own_at _ rfl _ _ 33 rfl w.heap.size 25 i0 (.agg #[.string ⟨#[]⟩, .slice none 0 0, .string ⟨#[]⟩]) 3 56 Tryd.underlying33 HI.out hz0 hz1 hz2 rfl (by decide) _ 0 [] rfl HO.out ad n c news rfl HL.out HC.out H1.out (by unfold maxLen; omega) (by omega) (by simp) ?_; intro v2 w2 hr2 hg2 hn2 ho2; have HR2 : Hid (w2.ownsRow w.heap.size 25 3 v2 n news) := (by show World.ownsRow _ _ _ _ _ _ _; simpa using hr2); have HB2 : Hid (Below w.heap.size w w2) := (below_alloc (w := w) (.cells #[] 25)).grown hg2 (by simp) (fun q hq => by cases hq; exact Nat.le_refl _); clear hr2 hg2 hn2 ho2)
    go_ret
    exact ⟨_, rfl, HR2.out, HB2.out⟩
theorem hol_info : (Tryd.prog.info? 44).map (fun i => (i.zero, i.size, i.bytes)) = some (some (.agg #[.string ⟨#[]⟩, .slice none 0 0]), 2, 40) := by kernel_rfl
set_option maxHeartbeats 1000000 in
theorem clone_hol (A : Option Addr) (n c : Nat) (news : List Value) (w : World) (hl : news.length = n * 2) (hn : n ≤ 100000) (hA : 0 < n → ∃ g o, A = some ⟨g, o, none⟩ ∧ ∀ j u, news[j]? = some u → w.cell? ⟨g, o + j, none⟩ = some u) (h1 : ∀ u ∈ news, u.oneCell' = true) :
    Calls Tryd.prog 65 #[.slice A n c] w fun e w' => ∃ v', e = .returned v' ∧ w'.ownsRow w.heap.size 44 2 v' n news ∧ Below w.heap.size w w' := by
  have q := fun (W : World) (a : Option Addr) (n c n' c' : Nat) => Lib.run_eql_slice_nil (P := Tryd.prog) W 34 44 a n c n' c' Tryd.underlying34
  cases A with
  | none =>
    have h0 : n = 0 := by
      rcases Nat.eq_zero_or_pos n with h | h
      · exact h
      · obtain ⟨g, o, e, _⟩ := hA h; cases e
    subst h0
    have hnil : news = [] := List.eq_nil_of_length_eq_zero (by simpa using hl)
    subst hnil
    clear hl hn hA h1
    go_enter Tryd.func65, Tryd.ntmps65
    go_wp2_with fail
    go_ret
    exact ⟨_, rfl, ⟨rfl, .inl ⟨rfl, rfl⟩⟩, Below.refl _ _⟩
  | some ad =>
    obtain ⟨i0, hi, hz0, hz1, hz2⟩ := info_parts hol_info
    have HC : Hid (∀ j u, news[j]? = some u → (w.alloc (.cells #[] 44)).cell? (ad.add j) = some u) := by
      intro j u hj
      have hjl := (List.getElem?_eq_some_iff.1 hj).1
      obtain ⟨g, o, e, hc⟩ := hA (by omega)
      cases e
      have e2 : (⟨g, o, none⟩ : Addr).add j = ⟨g, o + j, none⟩ := by unfold Addr.add; simp
      rw [e2]
      have hcell := hc j u hj
      have hlt : g < w.heap.size := by
        rcases Nat.lt_or_ge g w.heap.size with hlt | hge
        · exact hlt
        · unfold World.cell? at hcell; rw [Array.getElem?_eq_none hge] at hcell; cases hcell
      exact ((below_alloc (w := w) (.cells #[] 44)).cell hlt).trans hcell
    have HO := Lib.hid (empty_row w 44 2)
    have HL := Lib.hid hl
    have H1 := Lib.hid h1
    have HI := Lib.hid hi
    clear hA hl h1 hi
    go_enter Tryd.func65, Tryd.ntmps65
    go_wp2_with (at_builtin; refine wpList_append_own_at _ rfl _ _ 34 rfl w.heap.size 44 i0 (.agg #[.string ⟨#[]⟩, .slice none 0 0]) 2 40 Tryd.underlying34 HI.out hz0 hz1 hz2 rfl (by decide) _ 0 [] rfl HO.out ad n c news rfl HL.out HC.out H1.out (by unfold maxLen; omega) (by omega) (by simp) ?_; intro v2 w2 hr2 hg2 hn2 ho2; have HR2 : Hid (w2.ownsRow w.heap.size 44 2 v2 n news) := (by show World.ownsRow _ _ _ _ _ _ _; simpa using hr2); have HB2 : Hid (Below w.heap.size w w2) := (below_alloc (w := w) (.cells #[] 44)).grown hg2 (by simp) (fun q hq => by cases hq; exact Nat.le_refl _); clear hr2 hg2 hn2 ho2)
    go_ret
    exact ⟨_, rfl, HR2.out, HB2.out⟩
end Go.Proofs.YtegognbnphpigaaDoor
