/-
  With of sort; Add and With of the reference.
-/
import Derived.Test.YtegognbnphpigaaDoorSoM
import Derived.Deep.RegionHeld3
import Derived.Deep.Cut
import Derived.Deep.AppendLies
namespace Go.Proofs.YtegognbnphpigaaDoor
open Go.RowKit

/-- Block b holds three slices. -/
def AllSl (w : World) (b : Nat) : Prop := ∃ (T : TypeId) (A0 : Option Addr) (n0 c0 : Nat) (B0 : Option Addr) (m0 d0 : Nat) (C0 : Option Addr) (p0 q0 : Nat), Bk T w b #[.slice A0 n0 c0, .slice B0 m0 d0, .slice C0 p0 q0]
theorem AllSl.set0 {w : World} {b : Nat} (h : AllSl w b) (A : Option Addr) (n c : Nat) : AllSl (w.setCell ⟨b, 0, none⟩ (.slice A n c)) b := by
  obtain ⟨T, A0, n0, c0, B0, m0, d0, C0, p0, q0, h⟩ := h
  exact ⟨T, A, n, c, B0, m0, d0, C0, p0, q0, h.set 0 _⟩
theorem AllSl.set1 {w : World} {b : Nat} (h : AllSl w b) (A : Option Addr) (n c : Nat) : AllSl (w.setCell ⟨b, 1, none⟩ (.slice A n c)) b := by
  obtain ⟨T, A0, n0, c0, B0, m0, d0, C0, p0, q0, h⟩ := h
  exact ⟨T, A0, n0, c0, A, n, c, C0, p0, q0, h.set 1 _⟩
theorem AllSl.ne {w : World} {b g i : Nat} {l : Txt} (h : AllSl w b) (hg : w.cell? ⟨g, i, none⟩ = some (strVal l)) : g ≠ b := by
  intro e; subst e
  obtain ⟨T, A0, n0, c0, B0, m0, d0, C0, p0, q0, h⟩ := h
  unfold Bk at h
  simp [World.cell?, h] at hg
  match i, hg with
  | 0, hg => simp [strVal] at hg
  | 1, hg => simp [strVal] at hg
  | 2, hg => simp [strVal] at hg
  | i + 3, hg => simp at hg
theorem Ss.box {w : World} {A : Option Addr} {n c b : Nat} {ls : List Txt} (h : Ss w A n c ls) (hb : AllSl w b) (i : Nat) (u : Value) : Ss (w.setCell ⟨b, i, none⟩ u) A n c ls :=
  h.setfar (fun a ha hm => by
    obtain ⟨g, o, e, _, hc⟩ := h.cells hm
    rw [e] at ha; cases ha
    exact hb.ne (l := ls.getD 0 []) (hc 0 hm)) i u
theorem Vs.box {w : World} {A : Option Addr} {n c b : Nat} {ls : List Vr} (h : Vs w A n c ls) (hb : AllSl w b) (i : Nat) (u : Value) : Vs (w.setCell ⟨b, i, none⟩ u) A n c ls :=
  h.setfar (fun a ha hm => by
    obtain ⟨g, o, e, _, hc⟩ := h.cells hm
    rw [e] at ha; cases ha
    exact hb.ne (hc 0 hm).1) i u
theorem Ys.box {w : World} {A : Option Addr} {n c b : Nat} {ys : List Sy} (h : Ys w A n c ys) (hb : AllSl w b) (i : Nat) (u : Value) : Ys (w.setCell ⟨b, i, none⟩ u) A n c ys :=
  ⟨h.len, h.cap, h.top, fun hn => by
    obtain ⟨g, o, e, hg, hc⟩ := h.cells hn
    have hne : g ≠ b := by obtain ⟨B, m, d, h0, _⟩ := hc 0 hn; exact hb.ne h0
    refine ⟨g, o, e, by simpa using hg, fun k hk => ?_⟩
    obtain ⟨B, m, d, h0, h1, h2, h3⟩ := hc k hk
    have far : ∀ j, (w.setCell ⟨b, i, none⟩ u).cell? ⟨g, j, none⟩ = w.cell? ⟨g, j, none⟩ := fun j => World.cell?_setCell_other _ _ _ _ (fun e => hne (by cases e; rfl))
    exact ⟨B, m, d, (far _).trans h0, (far _).trans h1, (far _).trans h2, h3.box hb i u⟩⟩
theorem Hs.box {w : World} {A : Option Addr} {n c b : Nat} {ys : List Ho} (h : Hs w A n c ys) (hb : AllSl w b) (i : Nat) (u : Value) : Hs (w.setCell ⟨b, i, none⟩ u) A n c ys :=
  ⟨h.len, h.cap, h.top, fun hn => by
    obtain ⟨g, o, e, hg, hc⟩ := h.cells hn
    have hne : g ≠ b := by obtain ⟨B, m, d, h0, _⟩ := hc 0 hn; exact hb.ne h0
    refine ⟨g, o, e, by simpa using hg, fun k hk => ?_⟩
    obtain ⟨B, m, d, h0, h1, h3⟩ := hc k hk
    have far : ∀ j, (w.setCell ⟨b, i, none⟩ u).cell? ⟨g, j, none⟩ = w.cell? ⟨g, j, none⟩ := fun j => World.cell?_setCell_other _ _ _ _ (fun e => hne (by cases e; rfl))
    exact ⟨B, m, d, (far _).trans h0, (far _).trans h1, h3.box hb i u⟩⟩
def set3 (w : World) (b : Nat) (u v t : Value) : World := ((w.setCell ⟨b, 0, none⟩ u).setCell ⟨b, 1, none⟩ v).setCell ⟨b, 2, none⟩ t
theorem box3_sl {w : World} {b : Nat} (hb : AllSl w b) (A : Option Addr) (n c : Nat) (B : Option Addr) (m d : Nat) (C : Option Addr) (p q : Nat) :
    (∀ {A' n' c' ls}, Vs w A' n' c' ls → Vs (set3 w b (.slice A n c) (.slice B m d) (.slice C p q)) A' n' c' ls) ∧ (∀ {A' n' c' ls}, Ys w A' n' c' ls → Ys (set3 w b (.slice A n c) (.slice B m d) (.slice C p q)) A' n' c' ls) ∧ (∀ {A' n' c' ls}, Hs w A' n' c' ls → Hs (set3 w b (.slice A n c) (.slice B m d) (.slice C p q)) A' n' c' ls) :=
  ⟨fun h => ((h.box hb _ _).box (hb.set0 _ _ _) _ _).box ((hb.set0 _ _ _).set1 _ _ _) _ _, fun h => ((h.box hb _ _).box (hb.set0 _ _ _) _ _).box ((hb.set0 _ _ _).set1 _ _ _) _ _, fun h => ((h.box hb _ _).box (hb.set0 _ _ _) _ _).box ((hb.set0 _ _ _).set1 _ _ _) _ _⟩

theorem Bk.kept {T : TypeId} {w w' : World} {b : Nat} {l : Array Value} {row : Option Nat} (h : Bk T w b l) (hg : w.grownBy w' row) (hne : some b ≠ row) : Bk T w' b l := (hg.block _ h.lt hne).trans h
/-- 'append(l, x)' in a region that draws its order, l a list of variables that the call made. -/
theorem step_append_vr (w : World) {ops : Array Oper} {o : Oper} {a : Act} {K : Act → World → Prop} {Q : Exit → Act → World → Prop} {E : Prop} (hgd : o.guard = none) (s x : Operand)
    (ho : o.op = .call { callee := .builtin .append, args := #[s, x], argTypes := #[32, 32] })
    (base : Nat) (hbase : base ≤ w.heap.size) (v : Value) (xs : List Vr) (hs : a.eval s = v) (hown : w.ownsRow base 62 2 v xs.length (xs.flatMap encVr))
    (g : Nat) (t : Vr) (hx : a.eval x = .slice (some ⟨g, 0, none⟩) 1 1) (hB : Bk 62 w g (encVr t).toArray) (hb : xs.length ≤ 1000000)
    (h : ∀ v' w', w'.ownsRow base 62 2 v' (xs ++ [t]).length ((xs ++ [t]).flatMap encVr) → w.grownBy w' v.ownBlock → K (a.put o.dst v') w') :
    if Region.wanted o (yielded ops a.tmps) = true then Oper.wp Tryd.prog o a w K Q else E := by
  obtain ⟨i0, hi, hz0, hz1, hz2⟩ := info_parts var_info
  refine step_append_lies w hgd s x 32 ho base 62 i0 (.agg #[.string ⟨#[]⟩, .string ⟨#[]⟩]) 2 32 Tryd.underlying32 hi hz0 hz1 hz2 rfl (by decide) v xs.length _ hs hown ⟨g, 0, none⟩ 1 1 (encVr t) hx rfl (fun j u hj => ?_) (fun u hu => ?_) (by omega) (by unfold maxLen; omega) (by omega) hbase _ rfl ?_
  · have e2 : (⟨g, 0, none⟩ : Addr).add j = ⟨g, j, none⟩ := by unfold Addr.add; simp; exact Eq.symm
    rw [e2]
    exact hB.c j (by simpa using hj)
  · unfold encVr at hu
    simp only [List.mem_cons, List.not_mem_nil, or_false] at hu
    rcases hu with rfl | rfl <;> rfl
  · intro g cap w' h1 h2 _ _
    refine h _ w' ?_ h2
    rw [List.length_append, List.flatMap_append]
    simpa using h1
theorem own_ne {v v' : Value} {k b : Nat} (hno : ∀ q, v.ownBlock = some q → q ≠ b) (ho : v'.ownBlock = v.ownBlock ∨ v'.ownBlock = some k) (hb : b < k) : ∀ q, v'.ownBlock = some q → q ≠ b := by
  intro q hq
  rcases ho with h | h
  · rw [h] at hq; exact hno q hq
  · rw [h] at hq; cases hq; omega
theorem withV_eq (vs : List Vr) (x : Vr) : withV vs x = vs.filter (keepP x.name) ++ [x] := rfl

/-- The callees of With, seen from a world W that they leave as it was. -/
theorem without_at (W X : World) (hX : Below W.heap.size W X) (A : Option Addr) (n c : Nat) (vs : List Vr) (s : ByteArray) (hs : Vs W A n c vs) (hfit : ∀ x ∈ vs, x.name.length ≤ maxLen) (hn : n ≤ 100) (hsz : s.size ≤ maxLen) :
    Calls Tryd.prog 49 #[.slice A n c, .string s] X fun e w' => ∃ v', e = .returned v' ∧ w'.ownsRow W.heap.size 62 2 v' (vs.filter (keepP s.data.toList)).length ((vs.filter (keepP s.data.toList)).flatMap encVr) ∧ Below W.heap.size W w' ∧ ∀ b l, Bk 62 X b l → Bk 62 w' b l := by
  refine (without_any A n c vs s X (hs.below hX) hfit hn hsz).mono ?_
  rintro e w' ⟨v', rfl, hr, hb⟩
  exact ⟨v', rfl, row_base hr hX.size, nbelow_on hX hb, fun b l h => h.below hb⟩
theorem syms_at (W X : World) (hX : Below W.heap.size W X) (A : Option Addr) (n c : Nat) (ys : List Sy) (hs : Ys W A n c ys) (hn : n ≤ 1000) (hfit : ∀ y ∈ ys, y.args.length ≤ 100000) (vs : List Vr) (v : Value) (hv : X.ownsRow W.heap.size 62 2 v vs.length (vs.flatMap encVr)) :
    Calls Tryd.prog 50 #[.slice A n c, .func (.func 44) #[] #[]] X fun e w' => ∃ A' c', e = .returned (.slice A' n c') ∧ Ys w' A' n c' ys ∧ Below W.heap.size W w' ∧ w'.ownsRow W.heap.size 62 2 v vs.length (vs.flatMap encVr) := by
  refine (copyeach_syms A n c ys X (hs.below hX) hn hfit).mono ?_
  rintro e w' ⟨A', c', rfl, hy, hb⟩
  exact ⟨A', c', rfl, hy, nbelow_on hX hb, trow_below2 hv hb⟩
theorem holes_at (W X : World) (hX : Below W.heap.size W X) (A : Option Addr) (n c : Nat) (ys : List Ho) (hs : Hs W A n c ys) (hn : n ≤ 1000) (hfit : ∀ y ∈ ys, y.ps.length ≤ 100000) (vs : List Vr) (v : Value) (hv : X.ownsRow W.heap.size 62 2 v vs.length (vs.flatMap encVr)) (B : Option Addr) (m d : Nat) (zs : List Sy) (hz : Ys X B m d zs) :
    Calls Tryd.prog 51 #[.slice A n c, .func (.func 45) #[] #[]] X fun e w' => ∃ A' c', e = .returned (.slice A' n c') ∧ Hs w' A' n c' ys ∧ Below W.heap.size W w' ∧ w'.ownsRow W.heap.size 62 2 v vs.length (vs.flatMap encVr) ∧ Ys w' B m d zs := by
  refine (copyeach_holes A n c ys X (hs.below hX) hn hfit).mono ?_
  rintro e w' ⟨A', c', rfl, hy, hb⟩
  exact ⟨A', c', rfl, hy, nbelow_on hX hb, trow_below2 hv hb, hz.below hb⟩

set_option maxRecDepth 100000 in
set_option maxHeartbeats 4000000 in
theorem add_any (A : Option Addr) (n c : Nat) (vs : List Vr) (x y : ByteArray) (w : World) (hs : Vs w A n c vs) (hn : n ≤ 100) :
    Calls Tryd.prog 52 #[.slice A n c, .agg #[.string x, .string y]] w fun e w' => ∃ v', e = .returned v' ∧ w'.ownsRow w.heap.size 62 2 v' (withV vs ⟨x.data.toList, y.data.toList⟩).length ((withV vs ⟨x.data.toList, y.data.toList⟩).flatMap encVr) ∧ Below w.heap.size w w' := by
  have HS := Lib.hid hs
  have HL := Lib.hid hs.len
  have BK := Lib.hid (Bk.new 62 w #[.string x, .string y])
  have HB0 : Hid (Below w.heap.size w (w.alloc (.cells #[.string x, .string y] 62))) := below_alloc _
  have h47 : n ≤ 9223372036854775807 := Nat.le_trans hs.cap hs.top
  have HXY : Hid ((encVr ⟨x.data.toList, y.data.toList⟩).toArray = #[.string x, .string y]) := enc_box rfl rfl
  clear hs
  go_enter Tryd.func52, Tryd.ntmps52
  go_wp2_with fail
  go_loopw [5, 6] (fun ov iv wr => ∃ k : Nat, k ≤ n ∧ iv = .int .i64 (k : Int) ∧ Bk 62 wr w.heap.size #[.string x, .string y] ∧ wr.ownsRow w.heap.size 62 2 ov ((vs.take k).filter (keepP x.data.toList)).length (((vs.take k).filter (keepP x.data.toList)).flatMap encVr) ∧ (∀ q, ov.ownBlock = some q → q ≠ w.heap.size) ∧ Below w.heap.size w wr) (fun _ iv _ => n - (intOf iv).toNat)
  case atStart => exact ⟨0, Nat.zero_le _, rfl, BK.out, by simpa using vrow_nil _ w.heap.size, (fun q hq => by cases hq), HB0.out⟩
  case round =>
    obtain ⟨k, hk, rfl, hbk, ho, hno, hb⟩ := hrel
    have HK := Lib.hid hbk
    have HO := Lib.hid ho
    have HB := Lib.hid hb
    have HNO := Lib.hid hno
    have hsr := HS.out.below hb
    have e0 := hbk.c 0 (v := .string x) rfl
    have e1 := hbk.c 1 (v := .string y) rfl
    clear hbk ho hb hno
    by_cases hlt : k < n
    · have hkl : k < vs.length := by rw [HL.out]; exact hlt
      have HKL := Lib.hid hkl
      obtain ⟨g, o, z, t, rfl, hg, c0, c1, hz, ht⟩ := hsr.at_ hlt
      have HZ := Lib.hid hz.out
      have HEB : Hid ((encVr (vs.getD k vr0)).toArray = #[.string z, .string t]) := enc_box hz.out ht.out
      have q1 : (k : Int) < n := by omega
      have BQ : ∀ q, Below wr.heap.size wr (wr.drewN q) := fun q => belowD wr q
      have HKq : ∀ q, Hid (Bk 62 (wr.drewN q) w.heap.size #[.string x, .string y]) := fun q => HK.out.below (BQ q)
      have HOq : ∀ q, Hid ((wr.drewN q).ownsRow w.heap.size 62 2 _ ((vs.take k).filter (keepP x.data.toList)).length (((vs.take k).filter (keepP x.data.toList)).flatMap encVr)) := fun q => trow_below2 HO.out (BQ q)
      have HBq : ∀ q, Hid (Below w.heap.size w (wr.drewN q)) := fun q => nbelow_on HB.out (BQ q)
      have HFL : Hid (((vs.take k).filter (keepP x.data.toList)).length ≤ 1000000) := by have := filter_le (vs := vs) (k := k) (keepP x.data.toList); rw [HL.out] at this; show _ ≤ _; omega
      clear hz ht hg hkl hsr BQ
      cases hd : (vs.getD k vr0).name == x.data.toList with
      | true =>
        have TB : (z.toList == x.toList) = true := by rw [tolist_eq, tolist_eq, HZ.out]; exact hd
        have HFN : Hid ((vs.take (k + 1)).filter (keepP x.data.toList) = (vs.take k).filter (keepP x.data.toList)) := filter_no HKL.out (by unfold keepP; rw [hd]; rfl)
        clear hd
        go_upto_region 5 with fail
        go_quiet (fail)
        go_wp2_with fail
        go_roundw
        case rel => exact ⟨k + 1, by omega, by go_num, (HKq _).out, by rw [HFN.out]; exact (HOq _).out, HNO.out, (HBq _).out⟩
        case measure => simp [intOf] <;> omega
      | false =>
        have TB : (z.toList == x.toList) = false := by rw [tolist_eq, tolist_eq, HZ.out]; exact hd
        have HFN : Hid ((vs.take (k + 1)).filter (keepP x.data.toList) = (vs.take k).filter (keepP x.data.toList) ++ [vs.getD k vr0]) := filter_yes HKL.out (by unfold keepP; rw [hd]; rfl)
        have HBBq : ∀ q, Hid (Below w.heap.size w ((wr.drewN q).alloc (.cells #[.string z, .string t] 62))) := fun q => nbelow_on (HBq q).out (below_alloc _)
        have HOBq : ∀ q, Hid (((wr.drewN q).alloc (.cells #[.string z, .string t] 62)).ownsRow w.heap.size 62 2 _ ((vs.take k).filter (keepP x.data.toList)).length (((vs.take k).filter (keepP x.data.toList)).flatMap encVr)) := fun q => trow_below2 (HOq q).out (below_alloc _)
        have HKBq : ∀ q, Hid (Bk 62 ((wr.drewN q).alloc (.cells #[.string z, .string t] 62)) w.heap.size #[.string x, .string y]) := fun q => (HKq q).out.alloc _
        have HBKq : ∀ q, Hid (Bk 62 ((wr.drewN q).alloc (.cells #[.string z, .string t] 62)) wr.heap.size (encVr (vs.getD k vr0)).toArray) := fun q => by show Bk _ _ _ _; rw [HEB.out]; exact Bk.at _ rfl
        clear hd
        go_upto_region 5 with fail
        go_quiet (fail)
        go_wp2_with (at_builtin; refine wpList_append_vr _ rfl _ _ rfl w.heap.size (HBBq _).out.size _ ((vs.take k).filter (keepP x.data.toList)) rfl (HOBq _).out _ (vs.getD k vr0) rfl (HBKq _).out HFL.out ?_; intro v5 w5 hr5 hg5 ho5; rw [← HFN.out] at hr5; have HR5 := Lib.hid hr5; have HB5 : Hid (Below w.heap.size w w5) := (HBBq _).out.grown hg5 (HBBq _).out.size (fun q hq => trow_ge2 HO.out hq); have HK5 := Lib.hid ((HKBq _).out.kept hg5 (fun e => HNO.out _ e.symm rfl)); have HN5 : Hid (∀ q, v5.ownBlock = some q → q ≠ w.heap.size) := own_ne HNO.out ho5 (HKBq _).out.lt; clear hr5 hg5 ho5)
        go_roundw
        case rel => exact ⟨k + 1, by omega, by go_num, HK5.out, HR5.out, HN5.out, HB5.out⟩
        case measure => simp [intOf] <;> omega
    · have hke : k = n := by omega
      have q1 : ¬ (k : Int) < n := by omega
      have hre := HO.out
      rw [List.take_of_length_le (l := vs) (by rw [HL.out]; omega)] at hre
      have HRE := Lib.hid (trow_below2 hre (below_alloc (.cells #[.string x, .string y] 62)))
      have HBB := Lib.hid (nbelow_on HB.out (below_alloc (.cells #[.string x, .string y] 62)))
      have HBK2 : Hid (Bk 62 (wr.alloc (.cells #[.string x, .string y] 62)) wr.heap.size (encVr ⟨x.data.toList, y.data.toList⟩).toArray) := by show Bk _ _ _ _; rw [HXY.out]; exact Bk.at _ rfl
      have HFL : Hid ((vs.filter (keepP x.data.toList)).length ≤ 1000000) := by have := List.length_filter_le (keepP x.data.toList) vs; rw [HL.out] at this; show _ ≤ _; omega
      clear hre hsr hke
      go_wp2_with (at_builtin; refine wpList_append_vr _ rfl _ _ rfl w.heap.size HBB.out.size _ (vs.filter (keepP x.data.toList)) rfl HRE.out _ ⟨x.data.toList, y.data.toList⟩ rfl HBK2.out HFL.out ?_; intro v5 w5 hr5 hg5 ho5; have HR5 := Lib.hid hr5; have HB5 : Hid (Below w.heap.size w w5) := HBB.out.grown hg5 HBB.out.size (fun q hq => trow_ge2 HRE.out hq); clear hr5 hg5 ho5)
      go_ret
      exact ⟨_, rfl, HR5.out, HB5.out⟩
theorem add_at (W X : World) (hX : Below W.heap.size W X) (A : Option Addr) (n c : Nat) (vs : List Vr) (x y : ByteArray) (hs : Vs W A n c vs) (hn : n ≤ 100) :
    Calls Tryd.prog 52 #[.slice A n c, .agg #[.string x, .string y]] X fun e w' => ∃ v', e = .returned v' ∧ w'.ownsRow W.heap.size 62 2 v' (withV vs ⟨x.data.toList, y.data.toList⟩).length ((withV vs ⟨x.data.toList, y.data.toList⟩).flatMap encVr) ∧ Below W.heap.size W w' := by
  refine (add_any A n c vs x y X (hs.below hX) hn).mono ?_
  rintro e w' ⟨v', rfl, hr, hb⟩
  exact ⟨v', rfl, row_base hr hX.size, nbelow_on hX hb⟩
set_option maxRecDepth 100000 in
set_option maxHeartbeats 8000000 in
theorem with_any (A0 : Option Addr) (n0 c0 : Nat) (B0 : Option Addr) (m0 d0 : Nat) (C0 : Option Addr) (p0 q0 : Nat) (v : En) (x y : ByteArray) (w : World) (h1 : Vs w A0 n0 c0 v.vars) (h2 : Ys w B0 m0 d0 v.syms) (h3 : Hs w C0 p0 q0 v.holes) (hf : Fits v) (hn : n0 ≤ 100) (hm : m0 ≤ 1000) (hp : p0 ≤ 1000) (hfy : ∀ y ∈ v.syms, y.args.length ≤ 100000) (hfh : ∀ h ∈ v.holes, h.ps.length ≤ 100000) (hx : x.size ≤ maxLen) :
    Calls Tryd.prog 31 #[.agg #[.slice A0 n0 c0, .slice B0 m0 d0, .slice C0 p0 q0], .agg #[.string x, .string y]] w fun e w' => ∃ A n c B m d C p q, e = .returned (.agg #[.slice A n c, .slice B m d, .slice C p q]) ∧ Hid (Vs w' A n c (withV v.vars ⟨x.data.toList, y.data.toList⟩)) ∧ Hid (Ys w' B m d v.syms) ∧ Hid (Hs w' C p q v.holes) ∧ Below w.heap.size w w' := by
  have K0 : Hid (Bk 36 (((w.alloc (.cells #[.slice A0 n0 c0, .slice B0 m0 d0, .slice C0 p0 q0] 36)).alloc (.cells #[.string x, .string y] 62)).alloc (.cells #[.slice none 0 0, .slice none 0 0, .slice none 0 0] 36)) w.heap.size #[.slice A0 n0 c0, .slice B0 m0 d0, .slice C0 p0 q0]) := ((Bk.new 36 w #[.slice A0 n0 c0, .slice B0 m0 d0, .slice C0 p0 q0]).alloc _).alloc _
  have K1 : Hid (Bk 62 (((w.alloc (.cells #[.slice A0 n0 c0, .slice B0 m0 d0, .slice C0 p0 q0] 36)).alloc (.cells #[.string x, .string y] 62)).alloc (.cells #[.slice none 0 0, .slice none 0 0, .slice none 0 0] 36)) (w.heap.size + 1) #[.string x, .string y]) := Bk.alloc (Bk.at _ (by simp)) _
  have K2 : Hid (Bk 36 (((w.alloc (.cells #[.slice A0 n0 c0, .slice B0 m0 d0, .slice C0 p0 q0] 36)).alloc (.cells #[.string x, .string y] 62)).alloc (.cells #[.slice none 0 0, .slice none 0 0, .slice none 0 0] 36)) (w.heap.size + 1 + 1) #[.slice none 0 0, .slice none 0 0, .slice none 0 0]) := Bk.at _ (by simp)
  have HB0 : Hid (Below w.heap.size w (((w.alloc (.cells #[.slice A0 n0 c0, .slice B0 m0 d0, .slice C0 p0 q0] 36)).alloc (.cells #[.string x, .string y] 62)).alloc (.cells #[.slice none 0 0, .slice none 0 0, .slice none 0 0] 36))) := nbelow_on (nbelow_on (below_alloc _) (below_alloc _)) (below_alloc _)
  have HSZ : Hid ((((w.alloc (.cells #[.slice A0 n0 c0, .slice B0 m0 d0, .slice C0 p0 q0] 36)).alloc (.cells #[.string x, .string y] 62)).alloc (.cells #[.slice none 0 0, .slice none 0 0, .slice none 0 0] 36)).heap.size = w.heap.size + 3) := by show _ = _; simp
  have HV := Lib.hid (h1.below HB0.out)
  have HY := Lib.hid (h2.below HB0.out)
  have HH := Lib.hid (h3.below HB0.out)
  have HF := Lib.hid hf
  have HFY := Lib.hid hfy
  have HFH := Lib.hid hfh
  have HXS := Lib.hid hx
  have HXY : Hid ((encVr ⟨x.data.toList, y.data.toList⟩).toArray = #[.string x, .string y]) := enc_box rfl rfl
  have HFL : Hid ((v.vars.filter (keepP x.data.toList)).length ≤ 1000000) := by have := List.length_filter_le (keepP x.data.toList) v.vars; have h := h1.len; show _ ≤ _; omega
  clear h1 h2 h3 hf hfy hfh hx
  generalize hW : (((w.alloc (.cells #[.slice A0 n0 c0, .slice B0 m0 d0, .slice C0 p0 q0] 36)).alloc (.cells #[.string x, .string y] 62)).alloc (.cells #[.slice none 0 0, .slice none 0 0, .slice none 0 0] 36)) = W at *
  have s0 := K0.out.c 0 (v := .slice A0 n0 c0) rfl
  have s1 := K0.out.c 1 (v := .slice B0 m0 d0) rfl
  have s2 := K0.out.c 2 (v := .slice C0 p0 q0) rfl
  have s3 := K1.out.c 0 (v := .string x) rfl
  have s4 := K1.out.c 1 (v := .string y) rfl
  have HVX : ∀ X, Below W.heap.size W X → Vs X A0 n0 c0 v.vars := fun X h => HV.out.below h
  have HYX : ∀ X, Below W.heap.size W X → Ys X B0 m0 d0 v.syms := fun X h => HY.out.below h
  have HHX : ∀ X, Below W.heap.size W X → Hs X C0 p0 q0 v.holes := fun X h => HH.out.below h
  go_enter Tryd.func31, Tryd.ntmps31
  go_wp2_with fail
  clear hW
  have n1 : ¬ w.heap.size = w.heap.size + 1 + 1 := by omega
  have n2 : ¬ w.heap.size + 1 + 1 = w.heap.size := by omega
  have n3 : ¬ w.heap.size + 1 = w.heap.size + 1 + 1 := by omega
  have n4 : ¬ w.heap.size + 1 + 1 = w.heap.size + 1 := by omega
  go_region_held3 (fun w' => w'.cell? ⟨w.heap.size, 0, none⟩ = some (.slice A0 n0 c0) ∧ w'.cell? ⟨w.heap.size, 1, none⟩ = some (.slice B0 m0 d0) ∧ w'.cell? ⟨w.heap.size, 2, none⟩ = some (.slice C0 p0 q0) ∧ w'.cell? ⟨w.heap.size + 1, 0, none⟩ = some (.string x) ∧ w'.cell? ⟨w.heap.size + 1, 1, none⟩ = some (.string y)) (go_keep)
    (first
      | (go_at_call 49; refine (without_at W _ (by first | exact Below.refl _ _ | exact (Below.refl _ _).drew | exact below_alloc _ | exact (below_alloc _).drew | exact nbelow_on (Below.refl _ _).drew (below_alloc _)) A0 n0 c0 v.vars x HV.out HF.out.vars hn HXS.out).mono ?_; rintro e w3 ⟨v3, rfl, hr, hb, hk⟩; have HR3 := Lib.hid hr; have BB3 := Lib.hid hb; have HK3 := Lib.hid hk; (try have HBX : Hid (Bk 62 w3 W.heap.size #[.string x, .string y]) := HK3.out _ _ (by first | exact Bk.new _ _ _ | exact (Bk.new _ W _).drew)); have i0 := (K0.out.below BB3.out).c 0 (v := .slice A0 n0 c0) rfl; have i1 := (K0.out.below BB3.out).c 1 (v := .slice B0 m0 d0) rfl; have i2 := (K0.out.below BB3.out).c 2 (v := .slice C0 p0 q0) rfl; have i3 := (K1.out.below BB3.out).c 0 (v := .string x) rfl; have i4 := (K1.out.below BB3.out).c 1 (v := .string y) rfl; clear hr hb hk)
      | (refine step_append_vr _ rfl _ _ rfl W.heap.size (nbelow_on BB3.out (by first | exact Below.refl _ _ | exact (Below.refl _ _).drew | exact below_alloc _ | exact (below_alloc _).drew | exact nbelow_on (Below.refl _ _).drew (below_alloc _))).size _ (v.vars.filter (keepP x.data.toList)) rfl (trow_below2 HR3.out (by first | exact Below.refl _ _ | exact (Below.refl _ _).drew | exact below_alloc _ | exact (below_alloc _).drew | exact nbelow_on (Below.refl _ _).drew (below_alloc _))) _ ⟨x.data.toList, y.data.toList⟩ rfl (by rw [HXY.out]; first | exact HBX.out | exact Bk.new _ _ _ | exact HBX.out.drew | exact (Bk.new _ _ _).drew) HFL.out ?_; intro v5 w5 hr5 hg5; have HR5 := Lib.hid hr5; have BB5 : Hid (Below W.heap.size W w5) := (nbelow_on BB3.out (by first | exact Below.refl _ _ | exact (Below.refl _ _).drew | exact below_alloc _ | exact (below_alloc _).drew | exact nbelow_on (Below.refl _ _).drew (below_alloc _))).grown hg5 (nbelow_on BB3.out (by first | exact Below.refl _ _ | exact (Below.refl _ _).drew | exact below_alloc _ | exact (below_alloc _).drew | exact nbelow_on (Below.refl _ _).drew (below_alloc _))).size (fun q hq => trow_ge2 HR3.out hq); have j0 := (K0.out.below BB5.out).c 0 (v := .slice A0 n0 c0) rfl; have j1 := (K0.out.below BB5.out).c 1 (v := .slice B0 m0 d0) rfl; have j2 := (K0.out.below BB5.out).c 2 (v := .slice C0 p0 q0) rfl; have j3 := (K1.out.below BB5.out).c 0 (v := .string x) rfl; have j4 := (K1.out.below BB5.out).c 1 (v := .string y) rfl; clear hr5 hg5)
      | (go_at_call 50; refine (syms_at W _ (nbelow_on BB5.out (by first | exact Below.refl _ _ | exact (Below.refl _ _).drew | exact below_alloc _ | exact (below_alloc _).drew | exact nbelow_on (Below.refl _ _).drew (below_alloc _))) B0 m0 d0 v.syms HY.out hm HFY.out (v.vars.filter (keepP x.data.toList) ++ [⟨x.data.toList, y.data.toList⟩]) v5 (trow_below2 HR5.out (by first | exact Below.refl _ _ | exact (Below.refl _ _).drew | exact below_alloc _ | exact (below_alloc _).drew | exact nbelow_on (Below.refl _ _).drew (below_alloc _)))).mono ?_; rintro e w6 ⟨A6, c6, rfl, hy, hb, hr⟩; have HY6 := Lib.hid hy; have BB6 := Lib.hid hb; have HR6 := Lib.hid hr; have k0 := (K0.out.below BB6.out).c 0 (v := .slice A0 n0 c0) rfl; have k1 := (K0.out.below BB6.out).c 1 (v := .slice B0 m0 d0) rfl; have k2 := (K0.out.below BB6.out).c 2 (v := .slice C0 p0 q0) rfl; have k3 := (K1.out.below BB6.out).c 0 (v := .string x) rfl; have k4 := (K1.out.below BB6.out).c 1 (v := .string y) rfl; clear hy hb hr)
      | (go_at_call 51; refine (holes_at W _ (nbelow_on BB6.out (by first | exact Below.refl _ _ | exact (Below.refl _ _).drew | exact below_alloc _ | exact (below_alloc _).drew | exact nbelow_on (Below.refl _ _).drew (below_alloc _))) C0 p0 q0 v.holes HH.out hp HFH.out (v.vars.filter (keepP x.data.toList) ++ [⟨x.data.toList, y.data.toList⟩]) v5 (trow_below2 HR6.out (by first | exact Below.refl _ _ | exact (Below.refl _ _).drew | exact below_alloc _ | exact (below_alloc _).drew | exact nbelow_on (Below.refl _ _).drew (below_alloc _))) A6 m0 c6 v.syms (HY6.out.below (by first | exact Below.refl _ _ | exact (Below.refl _ _).drew | exact below_alloc _ | exact (below_alloc _).drew | exact nbelow_on (Below.refl _ _).drew (below_alloc _)))).mono ?_; rintro e w8 ⟨A8, c8, rfl, hh, hb, hr, hy⟩; have HH8 := Lib.hid hh; have BB8 := Lib.hid hb; have HY8 := Lib.hid hy; obtain ⟨A9, c9, e9, hv9⟩ := Vs.of_row rfl hr; subst e9; have HV9 : Hid (Vs w8 A9 ((v.vars.filter (keepP x.data.toList)).length + 1) c9 (withV v.vars ⟨x.data.toList, y.data.toList⟩)) := (by rw [List.length_append, List.length_singleton] at hv9; exact hv9); have l0 := (K0.out.below BB8.out).c 0 (v := .slice A0 n0 c0) rfl; have l1 := (K0.out.below BB8.out).c 1 (v := .slice B0 m0 d0) rfl; have l2 := (K0.out.below BB8.out).c 2 (v := .slice C0 p0 q0) rfl; have l3 := (K1.out.below BB8.out).c 0 (v := .string x) rfl; have l4 := (K1.out.below BB8.out).c 1 (v := .string y) rfl; have z0 := (K2.out.below BB8.out).c 0 (v := .slice none 0 0) rfl; have z1 := (K2.out.below BB8.out).c 1 (v := .slice none 0 0) rfl; have z2 := (K2.out.below BB8.out).c 2 (v := .slice none 0 0) rfl; have y0 := (K2.out.below BB8.out).fz 0; have y1 := (K2.out.below BB8.out).fz 1; have y2 := (K2.out.below BB8.out).fz 2; clear hh hb hr hy hv9))
  all_goals
    have HZ : AllSl w8 (w.heap.size + 1 + 1) := ⟨_, _, _, _, _, _, _, _, _, _, K2.out.below BB8.out⟩
    have HX3 := Lib.hid (box3_sl HZ A9 ((v.vars.filter (keepP x.data.toList)).length + 1) c9 A6 m0 c6 A8 p0 c8)
    have HBF : Hid (Below w.heap.size w (set3 w8 (w.heap.size + 1 + 1) (.slice A9 ((v.vars.filter (keepP x.data.toList)).length + 1) c9) (.slice A6 m0 c6) (.slice A8 p0 c8))) := (((nbelow_on HB0.out BB8.out).setCell (p := ⟨w.heap.size + 1 + 1, 0, none⟩) (by show w.heap.size ≤ w.heap.size + 1 + 1; omega) _).setCell (p := ⟨w.heap.size + 1 + 1, 1, none⟩) (by show w.heap.size ≤ w.heap.size + 1 + 1; omega) _).setCell (p := ⟨w.heap.size + 1 + 1, 2, none⟩) (by show w.heap.size ≤ w.heap.size + 1 + 1; omega) _
    have M := (((K2.out.below BB8.out).set 0 (.slice A9 ((v.vars.filter (keepP x.data.toList)).length + 1) c9)).set 1 (.slice A6 m0 c6)).set 2 (.slice A8 p0 c8)
    have r0 := M.c 0 (v := .slice A9 ((v.vars.filter (keepP x.data.toList)).length + 1) c9) rfl
    have r1 := M.c 1 (v := .slice A6 m0 c6) rfl
    have r2 := M.c 2 (v := .slice A8 p0 c8) rfl
    clear M HZ
    go_wp2_with fail
    refine bodyPost_ret (v := .agg #[.slice A9 ((v.vars.filter (keepP x.data.toList)).length + 1) c9, .slice A6 m0 c6, .slice A8 p0 c8]) (by simp [results, Tryd.results31, go_sem, *]) rfl ⟨A9, _, c9, A6, m0, c6, A8, p0, c8, rfl, HX3.out.1 HV9.out, HX3.out.2.1 HY8.out, HX3.out.2.2 HH8.out, HBF.out⟩
set_option maxRecDepth 100000 in
set_option maxHeartbeats 8000000 in
theorem rwith_any (A0 : Option Addr) (n0 c0 : Nat) (B0 : Option Addr) (m0 d0 : Nat) (C0 : Option Addr) (p0 q0 : Nat) (v : En) (x y : ByteArray) (w : World) (h1 : Vs w A0 n0 c0 v.vars) (h2 : Ys w B0 m0 d0 v.syms) (h3 : Hs w C0 p0 q0 v.holes) (hn : n0 ≤ 100) :
    Calls Tryd.prog 32 #[.agg #[.slice A0 n0 c0, .slice B0 m0 d0, .slice C0 p0 q0], .agg #[.string x, .string y]] w fun e w' => ∃ A n c B m d C p q, e = .returned (.agg #[.slice A n c, .slice B m d, .slice C p q]) ∧ Hid (Vs w' A n c (withV v.vars ⟨x.data.toList, y.data.toList⟩)) ∧ Hid (Ys w' B m d v.syms) ∧ Hid (Hs w' C p q v.holes) ∧ Below w.heap.size w w' := by
  have K0 : Hid (Bk 36 (((w.alloc (.cells #[.slice A0 n0 c0, .slice B0 m0 d0, .slice C0 p0 q0] 36)).alloc (.cells #[.string x, .string y] 62)).alloc (.cells #[.slice none 0 0, .slice none 0 0, .slice none 0 0] 36)) w.heap.size #[.slice A0 n0 c0, .slice B0 m0 d0, .slice C0 p0 q0]) := ((Bk.new 36 w #[.slice A0 n0 c0, .slice B0 m0 d0, .slice C0 p0 q0]).alloc _).alloc _
  have K1 : Hid (Bk 62 (((w.alloc (.cells #[.slice A0 n0 c0, .slice B0 m0 d0, .slice C0 p0 q0] 36)).alloc (.cells #[.string x, .string y] 62)).alloc (.cells #[.slice none 0 0, .slice none 0 0, .slice none 0 0] 36)) (w.heap.size + 1) #[.string x, .string y]) := Bk.alloc (Bk.at _ (by simp)) _
  have K2 : Hid (Bk 36 (((w.alloc (.cells #[.slice A0 n0 c0, .slice B0 m0 d0, .slice C0 p0 q0] 36)).alloc (.cells #[.string x, .string y] 62)).alloc (.cells #[.slice none 0 0, .slice none 0 0, .slice none 0 0] 36)) (w.heap.size + 1 + 1) #[.slice none 0 0, .slice none 0 0, .slice none 0 0]) := Bk.at _ (by simp)
  have HB0 : Hid (Below w.heap.size w (((w.alloc (.cells #[.slice A0 n0 c0, .slice B0 m0 d0, .slice C0 p0 q0] 36)).alloc (.cells #[.string x, .string y] 62)).alloc (.cells #[.slice none 0 0, .slice none 0 0, .slice none 0 0] 36))) := nbelow_on (nbelow_on (below_alloc _) (below_alloc _)) (below_alloc _)
  have HSZ : Hid ((((w.alloc (.cells #[.slice A0 n0 c0, .slice B0 m0 d0, .slice C0 p0 q0] 36)).alloc (.cells #[.string x, .string y] 62)).alloc (.cells #[.slice none 0 0, .slice none 0 0, .slice none 0 0] 36)).heap.size = w.heap.size + 3) := by show _ = _; simp
  have HV := Lib.hid (h1.below HB0.out)
  have HY := Lib.hid (h2.below HB0.out)
  have HH := Lib.hid (h3.below HB0.out)
  generalize hW : (((w.alloc (.cells #[.slice A0 n0 c0, .slice B0 m0 d0, .slice C0 p0 q0] 36)).alloc (.cells #[.string x, .string y] 62)).alloc (.cells #[.slice none 0 0, .slice none 0 0, .slice none 0 0] 36)) = W at *
  have HXY : Hid (True) := trivial
  clear h1 h2 h3
  have s0 := K0.out.c 0 (v := .slice A0 n0 c0) rfl
  have s1 := K0.out.c 1 (v := .slice B0 m0 d0) rfl
  have s2 := K0.out.c 2 (v := .slice C0 p0 q0) rfl
  have s3 := K1.out.c 0 (v := .string x) rfl
  have s4 := K1.out.c 1 (v := .string y) rfl
  go_enter Tryd.func32, Tryd.ntmps32
  go_wp2_with fail
  clear hW
  have n1 : ¬ w.heap.size = w.heap.size + 1 + 1 := by omega
  have n2 : ¬ w.heap.size + 1 + 1 = w.heap.size := by omega
  have n3 : ¬ w.heap.size + 1 = w.heap.size + 1 + 1 := by omega
  have n4 : ¬ w.heap.size + 1 + 1 = w.heap.size + 1 := by omega
  go_region_held3 (fun w' => w'.cell? ⟨w.heap.size, 0, none⟩ = some (.slice A0 n0 c0) ∧ w'.cell? ⟨w.heap.size, 1, none⟩ = some (.slice B0 m0 d0) ∧ w'.cell? ⟨w.heap.size, 2, none⟩ = some (.slice C0 p0 q0) ∧ w'.cell? ⟨w.heap.size + 1, 0, none⟩ = some (.string x) ∧ w'.cell? ⟨w.heap.size + 1, 1, none⟩ = some (.string y)) (go_keep)
    ((go_at_call 52; refine (add_at W _ (by first | exact Below.refl _ _ | exact (Below.refl _ _).drew | exact below_alloc _ | exact (below_alloc _).drew | exact nbelow_on (Below.refl _ _).drew (below_alloc _)) A0 n0 c0 v.vars x y HV.out hn).mono ?_; rintro e w8 ⟨v8, rfl, hr, hb⟩; have BB8 := Lib.hid hb; obtain ⟨A9, c9, e9, hv9⟩ := Vs.of_row rfl hr; subst e9; have HV9 : Hid (Vs w8 A9 ((v.vars.filter (keepP x.data.toList)).length + 1) c9 (withV v.vars ⟨x.data.toList, y.data.toList⟩)) := (by rw [withV_eq, List.length_append, List.length_singleton] at hv9; exact hv9); have HY8 := Lib.hid (HY.out.below hb); have HH8 := Lib.hid (HH.out.below hb); have EL : (withV v.vars ⟨x.data.toList, y.data.toList⟩).length = (v.vars.filter (keepP x.data.toList)).length + 1 := (by rw [withV_eq, List.length_append, List.length_singleton]); simp only [EL]; have l0 := (K0.out.below BB8.out).c 0 (v := .slice A0 n0 c0) rfl; have l1 := (K0.out.below BB8.out).c 1 (v := .slice B0 m0 d0) rfl; have l2 := (K0.out.below BB8.out).c 2 (v := .slice C0 p0 q0) rfl; have l3 := (K1.out.below BB8.out).c 0 (v := .string x) rfl; have l4 := (K1.out.below BB8.out).c 1 (v := .string y) rfl; have z0 := (K2.out.below BB8.out).c 0 (v := .slice none 0 0) rfl; have z1 := (K2.out.below BB8.out).c 1 (v := .slice none 0 0) rfl; have z2 := (K2.out.below BB8.out).c 2 (v := .slice none 0 0) rfl; have y0 := (K2.out.below BB8.out).fz 0; have y1 := (K2.out.below BB8.out).fz 1; have y2 := (K2.out.below BB8.out).fz 2; clear hb hr hv9 EL))
  all_goals
    have HZ : AllSl w8 (w.heap.size + 1 + 1) := ⟨_, _, _, _, _, _, _, _, _, _, K2.out.below BB8.out⟩
    have HX3 := Lib.hid (box3_sl HZ A9 ((v.vars.filter (keepP x.data.toList)).length + 1) c9 B0 m0 d0 C0 p0 q0)
    have HBF : Hid (Below w.heap.size w (set3 w8 (w.heap.size + 1 + 1) (.slice A9 ((v.vars.filter (keepP x.data.toList)).length + 1) c9) (.slice B0 m0 d0) (.slice C0 p0 q0))) := (((nbelow_on HB0.out BB8.out).setCell (p := ⟨w.heap.size + 1 + 1, 0, none⟩) (by show w.heap.size ≤ w.heap.size + 1 + 1; omega) _).setCell (p := ⟨w.heap.size + 1 + 1, 1, none⟩) (by show w.heap.size ≤ w.heap.size + 1 + 1; omega) _).setCell (p := ⟨w.heap.size + 1 + 1, 2, none⟩) (by show w.heap.size ≤ w.heap.size + 1 + 1; omega) _
    have M := (((K2.out.below BB8.out).set 0 (.slice A9 ((v.vars.filter (keepP x.data.toList)).length + 1) c9)).set 1 (.slice B0 m0 d0)).set 2 (.slice C0 p0 q0)
    have r0 := M.c 0 (v := .slice A9 ((v.vars.filter (keepP x.data.toList)).length + 1) c9) rfl
    have r1 := M.c 1 (v := .slice B0 m0 d0) rfl
    have r2 := M.c 2 (v := .slice C0 p0 q0) rfl
    clear M HZ
    go_wp2_with fail
    refine bodyPost_ret (v := .agg #[.slice A9 ((v.vars.filter (keepP x.data.toList)).length + 1) c9, .slice B0 m0 d0, .slice C0 p0 q0]) (by simp [results, Tryd.results32, go_sem, *]) rfl ⟨A9, _, c9, B0, m0, d0, C0, p0, q0, rfl, HX3.out.1 HV9.out, HX3.out.2.1 HY8.out, HX3.out.2.2 HH8.out, HBF.out⟩
end Go.Proofs.YtegognbnphpigaaDoor
