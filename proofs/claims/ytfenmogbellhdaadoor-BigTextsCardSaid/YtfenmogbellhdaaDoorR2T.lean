/-
  The reference's Text (layer 2).
-/
import Derived.Test.YtfenmogbellhdaaDoorBigRM
import Derived.Test.YtfenmogbellhdaaDoorBigS3
import Derived.Test.YtfenmogbellhdaaDoorBigU
import Derived.Test.YtfenmogbellhdaaDoorBigV
import Derived.Test.YtfenmogbellhdaaDoorRatW
namespace Go.Proofs.YtfenmogbellhdaaDoor
open Go.RowKit

theorem dec_top (u : Nat) (h : u ≠ 0) : ∃ c cs, Lib.decDigits u = c :: cs ∧ c ≠ 48 := by
  induction u using Nat.strongRecOn with
  | _ u ih =>
    by_cases h1 : u < 10
    · refine ⟨UInt8.ofNat (48 + u), [], dec_small h1, fun e => ?_⟩
      have := congrArg UInt8.toNat e
      rw [UInt8.toNat_ofNat'] at this
      have h48 : (48 : UInt8).toNat = 48 := rfl
      omega
    · obtain ⟨c, cs, e, hc⟩ := ih (u / 10) (by omega) (by omega)
      exact ⟨c, cs ++ [UInt8.ofNat (48 + u % 10)], by rw [dec_big (by omega), e]; rfl, hc⟩
theorem txt_step {xs : List Int} {k m : Nat} {u : Nat} (hd : dOk xs) (ht : topOk xs) (hk : k < xs.length) (hx : xs.getD k 0 = (u : Int)) (hm : m ≤ 3) (h0 : k + 1 = xs.length → m = 0) :
    ∃ m', m' ≤ 3 ∧ List.replicate m 48 ++ dig0 (val (xs.drop (k + 1))).toNat ++ pad4 u = List.replicate m' 48 ++ dig0 (val (xs.drop k)).toNat := by
  have bx := dOk_getD hd k
  rw [hx] at bx
  have hp := pad_dec (d := u) (by omega)
  have hi : Lib.itoa (u : Int) = Lib.decDigits u := by rw [itoa_form, if_neg (by omega)]; rfl
  by_cases h : k + 1 = xs.length
  · have hpos : 0 < (u : Int) := by
      have : xs.getLast? = some (u : Int) := by
        rw [List.getLast?_eq_getElem?, show xs.length - 1 = k by omega]
        have : xs[k]? = some (xs.getD k 0) := by simp [List.getD, hk]
        rw [this, hx]
      unfold topOk at ht
      rw [this] at ht
      have : (u : Int) ≠ 0 := by simpa using ht
      omega
    obtain ⟨e1, e2⟩ := acc_first h hx hpos
    rw [h0 h, e1, e2, hi]
    refine ⟨4 - (Lib.decDigits u).length, ?_, ?_⟩
    · have := List.length_pos_iff.2 (dec_ne u); omega
    · rw [hp]; rfl
  · obtain ⟨e1, e2⟩ := acc_step hd ht (k := k) (by omega) hx
    rw [hi] at e1 e2
    refine ⟨m, hm, ?_⟩
    rw [e1, ← hp, List.append_assoc]
    congr 2
    rw [show ([48, 48, 48, 48] : List UInt8) = List.replicate 4 48 from rfl, List.drop_replicate]
theorem app_list (x y : ByteArray) : (x ++ y).data.toList = x.data.toList ++ y.data.toList := by simp [ByteArray.data_append]
theorem app_list' (x y : ByteArray) : ({ data := x.data ++ y.data } : ByteArray).data.toList = x.data.toList ++ y.data.toList := by simp
theorem first_byte {x : ByteArray} {c : UInt8} {cs : List UInt8} (h : x.data.toList = c :: cs) (hl : 0 < x.size) : x[0] = c := by
  have : x.data.toList[0]? = some c := by rw [h]; rfl
  have h2 : x.data.toList[0]? = some x[0] := by
    rw [List.getElem?_eq_getElem (by rw [h]; simp)]; rfl
  rw [h2] at this; injection this
theorem rest_list (x : ByteArray) : (x.extract 1 x.size).data.toList = x.data.toList.drop 1 := by
  rw [chunk_list, List.take_of_length_le (by have : x.size = x.data.toList.length := Lib.size_eq x; omega)]
theorem itoa_pos' {z : Int} {x : ByteArray} (h : nOf z = false) (h0 : z ≠ 0) (hx : x.data.toList = dig0 z.natAbs) : x = ⟨(Lib.itoa z).toArray⟩ := by
  rw [bytes_eq, hx, dig0_pos (by omega), itoa_form, if_neg (of_decide_eq_false h)]
theorem itoa_neg' {z : Int} {x y : ByteArray} (h : nOf z = true) (hx : x.data.toList = dig0 z.natAbs) (hy : y.data.toList = 45 :: x.data.toList) : y = ⟨(Lib.itoa z).toArray⟩ := by
  have h' : z < 0 := of_decide_eq_true h
  rw [bytes_eq, hy, hx, dig0_pos (by omega), itoa_form, if_pos h']
set_option maxRecDepth 100000 in
set_option maxHeartbeats 4000000 in
theorem r2text_any (na : Bool) (A : Option Addr) (n c : Nat) (xs : List Int) (w : World) (ha : Sl w A n c xs) :
    Calls Tryd.prog 41 #[.agg #[.bool na, .slice A n c]] w fun e w' => e = .returned (.string ⟨(Lib.itoa (zOf na xs)).toArray⟩) ∧ Below w.heap.size w w' := by
  have S1 := Lib.hid ha
  have FA := Lib.hid (fit_zOf na xs)
  clear ha
  have BW := Lib.hid (Below.refl w.heap.size w)
  go_enter Tryd.func41, Tryd.ntmps41
  go_upto_region 1 with fail
  have S1 := Lib.hid (S1.out.alloc (.cells #[.bool na, .slice A n c] 35))
  have BW := Lib.hid (BW.out.alloc BW.out.size (.cells #[.bool na, .slice A n c] 35))
  have X1 := Lib.hid (Bk.new 35 w #[.bool na, .slice A n c])
  generalize (w.alloc (.cells #[.bool na, .slice A n c] 35)) = W0 at *
  have e0 : W0.cell? ⟨w.heap.size, 0, none⟩ = some (.bool na) := X1.out.c 0 rfl
  have e1 : W0.cell? ⟨w.heap.size, 1, none⟩ = some (.slice A n c) := X1.out.c 1 rfl
  go_wp2_with fail
  ((with_reducible refine (rdigits_any na A n c xs _ S1.out).mono ?_); rintro e w1 ⟨T, k, r, rfl, hs, hb⟩)
  clear e0 e1
  have S1 := Lib.hid (S1.out.below hb)
  have BW := Lib.hid (below_on BW.out hb)
  have X1 := Lib.hid (X1.out.below hb)
  clear hb
  have S2 := Lib.hid hs
  clear hs
  have SX := Lib.hid S1.out
  have kl := S2.out.fit FA.out
  have KL := Lib.hid S2.out.len
  have kt := S2.out.top
  have kc := S2.out.cap
  go_wp2_with fail
  go_loopw [4, 5] (fun sv iv wr => ∃ (j m : Nat) (x : ByteArray), j ≤ k ∧ iv = .int .i64 ((j : Int) - 1) ∧ sv = .string x ∧ Below w1.heap.size w1 wr ∧ m ≤ 3 ∧ (j = k → m = 0) ∧ x.data.toList = List.replicate m 48 ++ dig0 (val ((lOf (zOf na xs)).drop j)).toNat) (fun _ iv _ => (intOf iv + 1).toNat)
  case atStart => exact ⟨k, 0, ByteArray.empty, Nat.le_refl _, rfl, rfl, Below.refl _ _, by omega, fun _ => rfl, by rw [List.drop_of_length_le (by rw [KL.out]; exact Nat.le_refl _)]; rfl⟩
  case round =>
    obtain ⟨j, m, x, hj, rfl, rfl, hbw, hm, hm0, hx⟩ := hrel
    have BB := Lib.hid hbw
    have HX := Lib.hid hx
    have HM0 := Lib.hid hm0
    have hxs : x.size ≤ 1003 := by
      have h1 : x.size = x.data.toList.length := Lib.size_eq x
      have h2 := drop_digs (lOf_ok (zOf na xs)) (by rw [KL.out]; exact kl) j
      rw [h1, hx, List.length_append, List.length_replicate]; omega
    clear hx hm0
    have S2 := Lib.hid (S2.out.below hbw)
    have X1 := Lib.hid (X1.out.below hbw)
    have SX := Lib.hid (SX.out.below hbw)
    have BW := Lib.hid (below_on BW.out hbw)
    clear hbw
    by_cases h0 : 0 < j
    · obtain ⟨i, rfl⟩ : ∃ i, j = i + 1 := ⟨j - 1, by omega⟩
      obtain ⟨g, o, v, rfl, hg, hv, hve⟩ := S2.out.at_ (show i < k by omega)
      have dv := dOk_getD (lOf_ok (zOf na xs)) i
      rw [hve.out] at dv
      obtain ⟨u, rfl⟩ := Int.eq_ofNat_of_zero_le dv.1
      obtain ⟨v0, v1⟩ := dv
      have p1 : (i : Int) < (k : Int) := by omega
      have p3 : (0 : Int) ≤ (i : Int) := by omega
      rw [show ((i + 1 : Nat) : Int) - 1 = (i : Int) from by omega]
      have HST := Lib.hid (txt_step (lOf_ok (zOf na xs)) (lOf_top (zOf na xs)) (k := i) (by rw [KL.out]; omega) hve.out hm (by rw [KL.out]; exact HM0.out))
      go_wp2_with fail
      ((refine (four_any u _ (by omega)).mono ?_); rintro e w3 ⟨rfl, q1, rfl⟩)
      obtain ⟨fb, hfb⟩ : ∃ fb : ByteArray, (⟨(pad4 u).toArray⟩ : ByteArray) = fb := ⟨_, rfl⟩
      have HFB : Hid (fb.data.toList = pad4 u) := by show fb.data.toList = _; rw [← hfb]
      have hfs : fb.size ≤ 4 := by
        have h1 : fb.size = fb.data.toList.length := Lib.size_eq fb
        rw [h1, HFB.out]; exact Nat.le_refl 4
      rw [hfb]
      clear hfb
      go_wp2_with fail
      go_roundw
      case rel =>
        obtain ⟨m', hm', he⟩ := HST.out
        exact ⟨i, m', _, by omega, rfl, rfl, below_drewN BB.out q1, hm', fun e => by omega, by rw [← he, ← HX.out, ← HFB.out]; first | exact app_list _ _ | exact app_list' _ _⟩
      case measure => simp [intOf] <;> omega
    · obtain rfl : j = 0 := by omega
      rw [List.drop_zero, val_lOf, Int.toNat_natCast] at HX
      have HZ : Hid ((zOf na xs = 0 → m = 0)) := fun h => by
        refine HM0.out ?_
        have := KL.out
        rw [h, lOf_zero] at this
        simpa using this
      generalize hze : zOf na xs = z at *
      have HZE := Lib.hid hze
      clear hze
      clear hj
      go_wp2_with fail
      go_loop [4] (fun sv => ∃ (m : Nat) (x : ByteArray), sv = .string x ∧ m ≤ 3 ∧ (z = 0 → m = 0) ∧ x.size ≤ 1003 ∧ x.data.toList = List.replicate m 48 ++ dig0 z.natAbs) (fun sv => match sv with | .string x => x.size | _ => 0)
      case atStart => exact ⟨m, x, rfl, by assumption, HZ.out, by assumption, HX.out⟩
      case round =>
        obtain ⟨m, x, rfl, hm, hz, hs, hx⟩ := hrel
        have HX := Lib.hid hx
        have HZ := Lib.hid hz
        have hsz : x.size = m + (dig0 z.natAbs).length := by
          have h1 : x.size = x.data.toList.length := Lib.size_eq x
          rw [h1, hx, List.length_append, List.length_replicate]
        clear hx hz
        rcases Nat.eq_zero_or_pos m with h0 | h0
        · subst h0
          have HX : Hid (x.data.toList = dig0 z.natAbs) := HX.out
          by_cases hz0 : z = 0
          · subst hz0
            obtain rfl : x = ByteArray.empty := by rw [bytes_eq, HX.out]; rfl
            clear hs hsz
            go_wp2_with fail
            go_ret
            exact ⟨ret_str (by rw [HZE.out, bytes_eq, itoa_form, if_neg (by omega)]; exact (dec_small (u := 0) (by omega)).symm), BW.out⟩
          · obtain ⟨c0, cs, hc, hc48⟩ := dec_top z.natAbs (by omega)
            have HC : Hid (x.data.toList = c0 :: cs) := by show x.data.toList = _; rw [HX.out, dig0_pos (by omega), hc]
            have hp : 0 < x.size := by rw [hsz, dig0_pos (by omega), hc]; simp
            have HSZ := Lib.hid hsz
            have HZ0 := Lib.hid hz0
            have hie : x.toList.isEmpty = false := by rw [ByteArray.toList_eq, HC.out]; rfl
            clear hsz hc hz0
            by_cases h1 : 1 < x.size
            · have hx0 := first_byte HC.out hp
              have hcb : ((c0.toNat : Int) == 48) = false := by
                simp only [beq_eq_false_iff_ne]
                intro e
                exact hc48 (UInt8.toNat_inj.1 (by have h48 : (48 : UInt8).toNat = 48 := rfl; omega))
              clear hc48
              have e0 : wr.cell? ⟨w.heap.size, 0, none⟩ = some (.bool na) := X1.out.c 0 rfl
              have e1 : wr.cell? ⟨w.heap.size, 1, none⟩ = some (.slice A n c) := X1.out.c 1 rfl
              go_wp2_with fail
              ((with_reducible refine (rnegative_any na A n c xs _ SX.out).mono ?_); rintro e w4 ⟨rfl, hb⟩)
              rw [HZE.out]
              have BW := Lib.hid (below_on BW.out hb)
              clear hb e0 e1
              rcases Bool.eq_false_or_eq_true (nOf z) with hn | hn
              · have HNN := Lib.hid hn
                rw [hn]
                clear hn
                go_wp2_with fail
                go_ret
                exact ⟨ret_str (by rw [HZE.out]; exact itoa_neg' HNN.out HX.out (by first | exact app_list _ _ | exact app_list' _ _ | simp)), BW.out⟩
              · have HNN := Lib.hid hn
                rw [hn]
                clear hn
                go_wp2_with fail
                go_ret
                exact ⟨ret_str (by rw [HZE.out]; exact itoa_pos' HNN.out HZ0.out HX.out), BW.out⟩
            · clear hc48
              have e0 : wr.cell? ⟨w.heap.size, 0, none⟩ = some (.bool na) := X1.out.c 0 rfl
              have e1 : wr.cell? ⟨w.heap.size, 1, none⟩ = some (.slice A n c) := X1.out.c 1 rfl
              go_wp2_with fail
              ((with_reducible refine (rnegative_any na A n c xs _ SX.out).mono ?_); rintro e w4 ⟨rfl, hb⟩)
              rw [HZE.out]
              have BW := Lib.hid (below_on BW.out hb)
              clear hb e0 e1
              rcases Bool.eq_false_or_eq_true (nOf z) with hn | hn
              · have HNN := Lib.hid hn
                rw [hn]
                clear hn
                go_wp2_with fail
                go_ret
                exact ⟨ret_str (by rw [HZE.out]; exact itoa_neg' HNN.out HX.out (by first | exact app_list _ _ | exact app_list' _ _ | simp)), BW.out⟩
              · have HNN := Lib.hid hn
                rw [hn]
                clear hn
                go_wp2_with fail
                go_ret
                exact ⟨ret_str (by rw [HZE.out]; exact itoa_pos' HNN.out HZ0.out HX.out), BW.out⟩
        · have HC : Hid (x.data.toList = 48 :: (List.replicate (m - 1) 48 ++ dig0 z.natAbs)) := by
            show x.data.toList = _
            rw [HX.out, show m = (m - 1) + 1 by omega, List.replicate_succ]; simp
          have hp : 0 < x.size := by omega
          have h1 : 1 < x.size := by
            have : z ≠ 0 := fun e => by have := HZ.out e; omega
            have : dig0 z.natAbs ≠ [] := by rw [dig0_pos (by omega)]; exact dec_ne _
            have := List.length_pos_iff.2 this
            omega
          have hx0 := first_byte HC.out hp
          have HSZ := Lib.hid hsz
          clear hsz
          have HTL : Hid (List.take (x.size - 1) x.data.toList.tail = List.replicate (m - 1) 48 ++ dig0 z.natAbs) := by
            show _ = _
            rw [HC.out, List.tail_cons, List.take_of_length_le (by rw [List.length_append, List.length_replicate]; have := HSZ.out; omega)]
          go_wp2_with fail
          exact ⟨⟨m - 1, by omega, fun e => by have := HZ.out e; omega, by omega, HTL.out⟩, by omega⟩
  
end Go.Proofs.YtfenmogbellhdaaDoor
