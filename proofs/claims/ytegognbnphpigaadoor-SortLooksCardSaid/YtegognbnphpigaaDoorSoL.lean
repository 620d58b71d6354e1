/-
  Rows of variables that the call made; without of sort, Add of the reference.
-/
import Derived.Test.YtegognbnphpigaaDoorSoK
import Derived.Deep.QuietTactic
import Derived.BigQuiet
namespace Go.Proofs.YtegognbnphpigaaDoor
open Go.RowKit Go.WideShapes Go.Maps

def encVr (v : Vr) : List Value := [strVal v.name, strVal v.sort]
theorem flatv_len (vs : List Vr) : (vs.flatMap encVr).length = vs.length * 2 := by
  induction vs with
  | nil => rfl
  | cons t ts ih => rw [List.flatMap_cons, List.length_append, ih, List.length_cons]; show 2 + _ = _; omega
theorem flatv_get {vs : List Vr} {k j : Nat} (hk : k < vs.length) (hj : j < 2) : (vs.flatMap encVr)[k * 2 + j]? = some ((encVr (vs.getD k vr0)).getD j undef) := by
  induction vs generalizing k with
  | nil => simp at hk
  | cons t ts ih =>
    rw [List.flatMap_cons]
    cases k with
    | zero =>
      rw [List.getElem?_append_left (by show _ < 2; omega)]
      have : j = 0 ∨ j = 1 := by omega
      rcases this with rfl | rfl <;> rfl
    | succ k =>
      rw [List.getElem?_append_right (by show 2 ≤ _; omega)]
      have e : (k + 1) * 2 + j - (encVr t).length = k * 2 + j := by show _ - 2 = _; omega
      rw [e, ih (by simpa using hk)]
      rfl
/-- A row that the call made, as a list of variables. -/
theorem Vs.of_row {w : World} {base : Nat} {v : Value} {n : Nat} {vs : List Vr} (hn : vs.length = n) (h : w.ownsRow base 62 2 v n (vs.flatMap encVr)) : ∃ A c, v = .slice A n c ∧ Vs w A n c vs := by
  obtain ⟨A, c, rfl, h1, h2, h3, h4⟩ := row_out h
  refine ⟨A, c, rfl, hn, h1, by unfold maxLen at h2; omega, fun h0 => ?_⟩
  obtain ⟨g, e, hg, _, hc⟩ := h4 h0
  refine ⟨g, 0, e, hg, fun k hk => ?_⟩
  have a0 := hc (k * 2 + 0) _ (flatv_get (by omega) (by omega))
  have a1 := hc (k * 2 + 1) _ (flatv_get (by omega) (by omega))
  exact ⟨by simpa [encVr] using a0, by simpa [encVr] using a1⟩
theorem vrow_nil (w : World) (base : Nat) : w.ownsRow base 62 2 (.slice none 0 0) ([] : List Vr).length (([] : List Vr).flatMap encVr) := ⟨rfl, .inl ⟨rfl, rfl⟩⟩
/-- 'append(l, x)', l a list of variables that the call made. -/
theorem wpList_append_vr (w : World) {ops : Array Oper} {rest : List Oper} {o : Oper} {a : Act} {Q : Exit → Act → World → Prop} (hgd : o.guard = none) (s x : Operand)
    (ho : o.op = .call { callee := .builtin .append, args := #[s, x], argTypes := #[32, 32] })
    (base : Nat) (hbase : base ≤ w.heap.size) (v : Value) (xs : List Vr) (hs : a.eval s = v) (hown : w.ownsRow base 62 2 v xs.length (xs.flatMap encVr))
    (g : Nat) (t : Vr) (hx : a.eval x = .slice (some ⟨g, 0, none⟩) 1 1) (hB : Bk 62 w g (encVr t).toArray) (hb : xs.length ≤ 1000000)
    (h : ∀ v' w', w'.ownsRow base 62 2 v' (xs ++ [t]).length ((xs ++ [t]).flatMap encVr) → w.grownBy w' v.ownBlock → (v'.ownBlock = v.ownBlock ∨ v'.ownBlock = some w.heap.size) → wpList Tryd.prog ops Q rest (a.put o.dst v') w') :
    wpList Tryd.prog ops Q (o :: rest) a w := by
  obtain ⟨i0, hi, hz0, hz1, hz2⟩ := info_parts var_info
  refine wpList_append_own_at w hgd s x 32 ho base 62 i0 (.agg #[.string ⟨#[]⟩, .string ⟨#[]⟩]) 2 32 Tryd.underlying32 hi hz0 hz1 hz2 rfl (by decide) v xs.length _ hs hown ⟨g, 0, none⟩ 1 1 (encVr t) hx rfl (fun j u hj => ?_) (fun u hu => ?_) (by unfold maxLen; omega) (by omega) hbase ?_
  · have e2 : (⟨g, 0, none⟩ : Addr).add j = ⟨g, j, none⟩ := by unfold Addr.add; simp; exact Eq.symm
    rw [e2]
    exact hB.c j (by simpa using hj)
  · unfold encVr at hu
    simp only [List.mem_cons, List.not_mem_nil, or_false] at hu
    rcases hu with rfl | rfl <;> rfl
  · intro v' w' h1 h2 _ h4
    refine h v' w' ?_ h2 h4
    rw [List.length_append, List.flatMap_append]
    simpa using h1
theorem enc_box {v : Vr} {x y : ByteArray} (hx : x.data.toList = v.name) (hy : y.data.toList = v.sort) : (encVr v).toArray = #[.string x, .string y] := by
  unfold encVr strVal
  rw [← hx, ← hy, eta_txt, eta_txt]

theorem trow_below2 {w w' : World} {base : Nat} {e : TypeId} {size n : Nat} {v : Value} {xs : List Value} (h : w.ownsRow base e size v n xs) (hb : Below w.heap.size w w') : w'.ownsRow base e size v n xs := by
  refine ⟨h.1, ?_⟩
  rcases h.2 with h0 | ⟨g, cap, cur, rfl, h1, hg, rest⟩
  · exact .inl h0
  · exact .inr ⟨g, cap, cur, rfl, h1, (hb.block _ (Array.getElem?_eq_some_iff.1 hg).1).trans hg, rest⟩
theorem trow_ge2 {w : World} {base : Nat} {e : TypeId} {size n k : Nat} {v : Value} {xs : List Value} (h : w.ownsRow base e size v n xs) (hk : v.ownBlock = some k) : base ≤ k := by
  rcases h.2 with ⟨rfl, _⟩ | ⟨g, cap, cur, rfl, hb, _⟩
  · cases hk
  · cases hk; exact hb
theorem row_base {w : World} {base b2 : Nat} {e : TypeId} {size n : Nat} {v : Value} {xs : List Value} (h : w.ownsRow base e size v n xs) (hb : b2 ≤ base) : w.ownsRow b2 e size v n xs := by
  refine ⟨h.1, ?_⟩
  rcases h.2 with h0 | ⟨g, cap, cur, e1, h1, rest⟩
  · exact .inl h0
  · exact .inr ⟨g, cap, cur, e1, Nat.le_trans hb h1, rest⟩
/-- Block b of w is the set of the texts acc without the text nm. -/
def Md (w : World) (b : Nat) (acc : List Txt) (nm : Txt) : Prop := w.ownsMap Tryd.prog 9 (plainElem Tryd.prog 4) b acc.length ((mapOf acc).del (.string nm))
theorem Md.lt {w : World} {b : Nat} {acc : List Txt} {nm : Txt} (h : Md w b acc nm) : b < w.heap.size := World.ownsMap.lt h
theorem Md.keep {w w' : World} {b n : Nat} {acc : List Txt} {nm : Txt} (h : Md w b acc nm) (hb : Below n w w') (hn : b < n) : Md w' b acc nm := by
  obtain ⟨es, clock, hbl, F, hs, hD⟩ := h
  exact ⟨es, clock, by rw [hb.block _ hn]; exact hbl, F, hs, hD⟩
theorem Md.look {w : World} {b : Nat} {acc : List Txt} {nm : Txt} (h : Md w b acc nm) (s : ByteArray) (hs : s.size ≤ maxLen) (hin : s.data.toList ∈ acc) : (Instr.lookup 89 (.map (some b)) (.string s) false).run Tryd.prog w = .ok (.bool (!(s.data.toList == nm))) w := by
  obtain ⟨v, ps, hr, hv⟩ := World.ownsMap.lookup h Kstr Tryd.underlying89 (zero_bool w) (plainElem_bool Tryd.underlying4 false) (Go.WideMaps.keyOf_string_mk Tryd.underlying9 hs)
  have hat : ((mapOf acc).del (.string nm)).atKey (.string s.data.toList) (.lit (.bool false)) = .lit (.bool (!(s.data.toList == nm))) := by
    by_cases e : s.data.toList = nm
    · rw [e, Maps.atKey_del_same, beq_self_eq_true]; rfl
    · rw [Maps.atKey_del_other (by simpa using e), mapOf_at, decide_eq_true hin, beq_eq_false_iff_ne.2 e]; rfl
  rw [hat] at hv
  rw [hr]
  have hv2 : v = .bool (!(s.data.toList == nm)) := by
    unfold plainElem at hv
    generalize hu : Tryd.prog.underlying 4 = u at hv
    have hu2 : u = some .bool := hu.symm.trans Tryd.underlying4
    subst hu2
    cases v <;> simp at hv
    rw [hv.1]
  rw [hv2]
theorem filter_yes {vs : List Vr} {k : Nat} {p : Vr → Bool} (hk : k < vs.length) (h : p (vs.getD k vr0) = true) : (vs.take (k + 1)).filter p = (vs.take k).filter p ++ [vs.getD k vr0] := by
  rw [take_at (d := vr0) hk, List.filter_append, List.filter_cons, h]; simp
theorem filter_no {vs : List Vr} {k : Nat} {p : Vr → Bool} (hk : k < vs.length) (h : p (vs.getD k vr0) = false) : (vs.take (k + 1)).filter p = (vs.take k).filter p := by
  rw [take_at (d := vr0) hk, List.filter_append, List.filter_cons, h]; simp
theorem filter_le {vs : List Vr} {k : Nat} (p : Vr → Bool) : ((vs.take k).filter p).length ≤ vs.length := by
  have h1 := List.length_filter_le p (vs.take k)
  rw [List.length_take] at h1
  omega
theorem name_in {vs : List Vr} {k : Nat} (hk : k < vs.length) : (vs.getD k vr0).name ∈ vs.map Vr.name := List.mem_map.2 ⟨_, getD_mem_vr hk, rfl⟩
def keepP (nm : Txt) (y : Vr) : Bool := !(y.name == nm)

set_option maxRecDepth 100000 in
set_option maxHeartbeats 4000000 in
theorem without_any (A : Option Addr) (n c : Nat) (vs : List Vr) (s : ByteArray) (w : World) (hs : Vs w A n c vs) (hfit : ∀ x ∈ vs, x.name.length ≤ maxLen) (hn : n ≤ 100) (hsz : s.size ≤ maxLen) :
    Calls Tryd.prog 49 #[.slice A n c, .string s] w fun e w' => ∃ v', e = .returned v' ∧ w'.ownsRow w.heap.size 62 2 v' (vs.filter (keepP s.data.toList)).length ((vs.filter (keepP s.data.toList)).flatMap encVr) ∧ Below w.heap.size w w' := by
  have HS := Lib.hid hs
  have HL := Lib.hid hs.len
  have HF := Lib.hid hfit
  have HSZ := Lib.hid hsz
  have RM := run_makeMap (P := Tryd.prog) 89 w
  obtain ⟨nm, hnm⟩ : ∃ nm, s.data.toList = nm := ⟨_, rfl⟩
  have HNM := Lib.hid hnm
  rw [hnm]
  clear hs hfit hsz hnm
  go_enter Tryd.func49, Tryd.ntmps49
  go_wp2_with fail
  clear RM
  go_loopw [14] (fun iv wr => ∃ k : Nat, k ≤ n ∧ iv = .int .i64 (k : Int) ∧ Ms wr w.heap.size ((vs.take k).map Vr.name) ∧ Below w.heap.size w wr) (fun iv _ => n - (intOf iv).toNat)
  case atStart => exact ⟨0, Nat.zero_le _, rfl, Ms.made w, below_alloc _⟩
  case round =>
    obtain ⟨k, hk, rfl, hm, hb⟩ := hrel
    have HM := Lib.hid hm
    have HB := Lib.hid hb
    have hsr := HS.out.below hb
    clear hm hb
    by_cases hlt : k < n
    · have hkl : k < vs.length := by rw [HL.out]; exact hlt
      have HKL := Lib.hid hkl
      obtain ⟨g, o, x, y, rfl, hg, c0, c1, hx, hy⟩ := hsr.at_ hlt
      have q1 : (k : Int) < n := by omega
      have hxs : x.size ≤ maxLen := by rw [size_list, hx.out]; exact HF.out _ (getD_mem_vr hkl)
      have HMT : Hid ((vs.take (k + 1)).map Vr.name = (vs.take k).map Vr.name ++ [(vs.getD k vr0).name]) := map_take_at Vr.name hkl
      have BK := Bk.new 62 wr #[.string x, .string y]
      have e0 := BK.c 0 (v := .string x) rfl
      have HBA := Lib.hid (nbelow_on HB.out (below_alloc (.cells #[.string x, .string y] 62)))
      have hma := HM.out.keep (below_alloc (.cells #[.string x, .string y] 62))
      obtain ⟨w3, RU, hm3, hg3⟩ := hma.put (names_len Vr.name hkl (by rw [HL.out]; exact hn)) x hxs
      rw [hx.out, ← HMT.out] at hm3
      have HM3 := Lib.hid hm3
      have HB3 : Hid (Below w.heap.size w w3) := HBA.out.grown hg3 HBA.out.size (fun q hq => by cases hq; exact Nat.le_refl _)
      clear hx hy hg hkl hsr hxs BK hma hm3 hg3
      go_wp2_with fail
      go_roundw
      case rel => exact ⟨k + 1, by omega, by go_num, HM3.out, HB3.out⟩
      case measure => simp [intOf] <;> omega
    · have hke : k = n := by omega
      subst hke
      have q1 : ¬ (k : Int) < k := by omega
      have hme := HM.out
      rw [List.take_of_length_le (l := vs) (by rw [HL.out]; exact Nat.le_refl _)] at hme
      have HME := Lib.hid hme
      have HLT : Hid (w.heap.size < wr.heap.size) := hme.lt
      have hkey := Go.WideMaps.keyOf_string_mk (P := Tryd.prog) (s := s) Tryd.underlying9 HSZ.out
      rw [HNM.out] at hkey
      clear hme hsr
      go_wp2_with (at_delete; refine wpList_delete_own _ rfl _ _ 89 9 rfl 4 Kstr Tryd.underlying89 (plainElem Tryd.prog 4) w.heap.size (vs.map Vr.name).length (mapOf (vs.map Vr.name)) rfl HME.out (.string s) (.string nm) rfl hkey ?_; intro w4 hown4 hturn4; have HMD : Hid (Md w4 w.heap.size (vs.map Vr.name) nm) := hown4; have HB4 : Hid (Below w.heap.size w w4) := HB.out.grown hturn4.grown HB.out.size (fun q hq => by cases hq; exact Nat.le_refl _); clear hown4 hturn4)
      clear hkey
      have HLT4 : Hid (w.heap.size < w4.heap.size) := HMD.out.lt
      go_loopw [8, 26] (fun ov iv wr => ∃ j : Nat, j ≤ k ∧ iv = .int .i64 (j : Int) ∧ Md wr w.heap.size (vs.map Vr.name) nm ∧ wr.ownsRow (w.heap.size + 1) 62 2 ov ((vs.take j).filter (keepP nm)).length (((vs.take j).filter (keepP nm)).flatMap encVr) ∧ Below w.heap.size w wr) (fun _ iv _ => k - (intOf iv).toNat)
      case atStart => exact ⟨0, Nat.zero_le _, rfl, HMD.out, by simpa using vrow_nil w4 (w.heap.size + 1), HB4.out⟩
      case round =>
        obtain ⟨j, hj, rfl, hmd, ho, hb⟩ := hrel
        have HM5 := Lib.hid hmd
        have HO := Lib.hid ho
        have HB5 := Lib.hid hb
        have hsr := HS.out.below hb
        clear hmd ho hb
        by_cases hlj : j < k
        · have hkl : j < vs.length := by rw [HL.out]; exact hlj
          have HKL := Lib.hid hkl
          obtain ⟨g, o, x, y, rfl, hg, c0, c1, hx, hy⟩ := hsr.at_ hlj
          have q2 : (j : Int) < k := by omega
          have hxs : x.size ≤ maxLen := by rw [size_list, hx.out]; exact HF.out _ (getD_mem_vr hkl)
          have BK := Bk.new 62 wr #[.string x, .string y]
          have e0 := BK.c 0 (v := .string x) rfl
          have e1 := BK.c 1 (v := .string y) rfl
          have HBA := Lib.hid (nbelow_on HB5.out (below_alloc (.cells #[.string x, .string y] 62)))
          have hlt1 : w.heap.size + 1 ≤ wr.heap.size := HM5.out.lt
          have HOA := Lib.hid (trow_below2 HO.out (below_alloc (w := wr) (.cells #[.string x, .string y] 62)))
          have HMA := Lib.hid (HM5.out.keep (below_alloc (.cells #[.string x, .string y] 62)) HM5.out.lt)
          have RL := HMA.out.look x hxs (by rw [hx.out]; exact name_in hkl)
          rw [hx.out] at RL
          have HEB := Lib.hid (enc_box hx.out hy.out)
          clear hx hy hg hkl hsr hxs BK
          cases hd : (vs.getD j vr0).name == nm with
          | true =>
            have HFN : Hid ((vs.take (j + 1)).filter (keepP nm) = (vs.take j).filter (keepP nm)) := filter_no HKL.out (by unfold keepP; rw [hd]; rfl)
            rw [hd, show (!true) = false from rfl] at RL
            clear hd
            go_wp2_with fail
            go_roundw
            case rel => exact ⟨j + 1, by omega, by go_num, HMA.out, by rw [HFN.out]; exact HOA.out, HBA.out⟩
            case measure => simp [intOf] <;> omega
          | false =>
            have HFN : Hid ((vs.take (j + 1)).filter (keepP nm) = (vs.take j).filter (keepP nm) ++ [vs.getD j vr0]) := filter_yes HKL.out (by unfold keepP; rw [hd]; rfl)
            rw [hd, show (!false) = true from rfl] at RL
            have HBB := Lib.hid (nbelow_on HBA.out (below_alloc (.cells #[.string x, .string y] 62)))
            have HOB := Lib.hid (trow_below2 HOA.out (below_alloc (.cells #[.string x, .string y] 62)))
            have HMB := Lib.hid (HMA.out.keep (below_alloc (.cells #[.string x, .string y] 62)) HMA.out.lt)
            have hbk : Bk 62 ((wr.alloc (.cells #[.string x, .string y] 62)).alloc (.cells #[.string x, .string y] 62)) (wr.heap.size + 1) (encVr (vs.getD j vr0)).toArray := by rw [HEB.out]; exact Bk.at _ (by simp)
            have HBK := Lib.hid hbk
            have HFL : Hid (((vs.take j).filter (keepP nm)).length ≤ 1000000) := by have := filter_le (vs := vs) (k := j) (keepP nm); rw [HL.out] at this; show _ ≤ _; omega
            clear hd hbk
            go_wp2_with (at_builtin; refine wpList_append_vr _ rfl _ _ rfl (w.heap.size + 1) (by simp; omega) _ ((vs.take j).filter (keepP nm)) rfl HOB.out _ (vs.getD j vr0) rfl HBK.out HFL.out ?_; intro v5 w5 hr5 hg5 ho5; rw [← HFN.out] at hr5; have HR5 := Lib.hid hr5; have hb1 : Below (w.heap.size + 1) ((wr.alloc (.cells #[.string x, .string y] 62)).alloc (.cells #[.string x, .string y] 62)) w5 := (Below.refl _ _).grown hg5 (by simp; omega) (fun q hq => trow_ge2 HOB.out hq); have HM6 := Lib.hid (HMB.out.keep hb1 (Nat.lt_succ_self _)); have HB6 := Lib.hid (HBB.out.trans (hb1.mono (Nat.le_succ _))); clear hr5 hg5 ho5 hb1)
            go_roundw
            case rel => exact ⟨j + 1, by omega, by go_num, HM6.out, HR5.out, HB6.out⟩
            case measure => simp [intOf] <;> omega
        · have hje : j = k := by omega
          have q2 : ¬ (j : Int) < k := by omega
          have hre := HO.out
          rw [List.take_of_length_le (l := vs) (by rw [HL.out]; omega)] at hre
          have HRE := Lib.hid (row_base hre (Nat.le_succ _))
          clear hre hsr hje
          go_wp2_with fail
          go_ret
          exact ⟨_, rfl, HRE.out, HB5.out⟩
end Go.Proofs.YtegognbnphpigaaDoor
