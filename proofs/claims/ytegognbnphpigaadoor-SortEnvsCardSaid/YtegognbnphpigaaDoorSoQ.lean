/-
  env and awake of the laws.
-/
import Derived.Test.YtegognbnphpigaaDoorSoP
namespace Go.Proofs.YtegognbnphpigaaDoor
open Go.RowKit

/-- A literal row of variables. -/
theorem vs_lit {w : World} {t : TypeId} (vs : List Vr) {cells : Array Value} {n : Nat} (h : cells = (vs.flatMap encVr).toArray) (hn : vs.length = n) (hn2 : n ≤ 100000) {b : Nat} (hb : b = w.heap.size) : Vs (w.alloc (.cells cells t)) (some ⟨b, 0, none⟩) n n vs := by
  subst hb
  refine ⟨hn, Nat.le_refl _, by omega, fun _ => ⟨w.heap.size, 0, rfl, by simp, fun k hk => ?_⟩⟩
  have B : Bk t (w.alloc (.cells cells t)) w.heap.size cells := Bk.new t w cells
  have a0 := flatv_get (vs := vs) (k := k) (j := 0) (by omega) (by omega)
  have a1 := flatv_get (vs := vs) (k := k) (j := 1) (by omega) (by omega)
  rw [h] at B
  constructor
  · have := B.c (k * 2 + 0) (v := strVal (vs.getD k vr0).name) (by simpa [encVr] using a0)
    simpa [h] using this
  · have := B.c (k * 2 + 1) (v := strVal (vs.getD k vr0).sort) (by simpa [encVr] using a1)
    simpa [h] using this
theorem ys_lit {w : World} {t : TypeId} {x y : ByteArray} {B : Option Addr} {m d : Nat} {ls : List Txt} (hs : Ss w B m d ls) {b : Nat} (hb : b = w.heap.size) : Ys (w.alloc (.cells #[.string x, .slice B m d, .string y] t)) (some ⟨b, 0, none⟩) 1 1 [⟨x.data.toList, ls, y.data.toList⟩] := by
  subst hb
  refine ⟨rfl, Nat.le_refl _, by omega, fun _ => ⟨w.heap.size, 0, rfl, by simp, fun k hk => ?_⟩⟩
  have K : Bk t (w.alloc (.cells #[.string x, .slice B m d, .string y] t)) w.heap.size #[.string x, .slice B m d, .string y] := Bk.new t w _
  obtain rfl : k = 0 := by omega
  exact ⟨B, m, d, K.c 0 (by simp [strVal]), K.c 1 rfl, K.c 2 (by simp [strVal]), hs.below (below_alloc _)⟩
theorem hs_lit {w : World} {t : TypeId} {x : ByteArray} {B : Option Addr} {m d : Nat} {ls : List Vr} (hs : Vs w B m d ls) {b : Nat} (hb : b = w.heap.size) : Hs (w.alloc (.cells #[.string x, .slice B m d] t)) (some ⟨b, 0, none⟩) 1 1 [⟨x.data.toList, ls⟩] := by
  subst hb
  refine ⟨rfl, Nat.le_refl _, by omega, fun _ => ⟨w.heap.size, 0, rfl, by simp, fun k hk => ?_⟩⟩
  have K : Bk t (w.alloc (.cells #[.string x, .slice B m d] t)) w.heap.size #[.string x, .slice B m d] := Bk.new t w _
  obtain rfl : k = 0 := by omega
  exact ⟨B, m, d, K.c 0 (by simp [strVal]), K.c 1 rfl, hs.below (below_alloc _)⟩
def evs : List Vr := [⟨[120], tInt⟩, ⟨[120], tBool⟩]
theorem env_env_any (w : World) : Calls Tryd.prog 34 #[] w fun e w' => ∃ A c, e = .returned (.agg #[.slice A 2 c, .slice none 0 0, .slice none 0 0]) ∧ Vs w' A 2 c evs ∧ Below w.heap.size w w' := by
  have M : Bk 36 ((w.alloc (.cells #[.slice (some ⟨w.heap.size + 1, 0, none⟩) 2 2, .slice none 0 0, .slice none 0 0] 36)).alloc (.cells #[.string ⟨#[120]⟩, .string ⟨#[73, 110, 116]⟩, .string ⟨#[120]⟩, .string ⟨#[66, 111, 111, 108]⟩] 62)) w.heap.size #[.slice (some ⟨w.heap.size + 1, 0, none⟩) 2 2, .slice none 0 0, .slice none 0 0] := (Bk.new 36 w #[.slice (some ⟨w.heap.size + 1, 0, none⟩) 2 2, .slice none 0 0, .slice none 0 0]).alloc _
  have r0 := M.c 0 (v := .slice (some ⟨w.heap.size + 1, 0, none⟩) 2 2) rfl
  have r1 := M.c 1 (v := .slice none 0 0) rfl
  have r2 := M.c 2 (v := .slice none 0 0) rfl
  have HB : Hid (Below w.heap.size w ((w.alloc (.cells #[.slice (some ⟨w.heap.size + 1, 0, none⟩) 2 2, .slice none 0 0, .slice none 0 0] 36)).alloc (.cells #[.string ⟨#[120]⟩, .string ⟨#[73, 110, 116]⟩, .string ⟨#[120]⟩, .string ⟨#[66, 111, 111, 108]⟩] 62))) := nbelow_on (below_alloc _) (below_alloc _)
  have HV : Hid (Vs ((w.alloc (.cells #[.slice (some ⟨w.heap.size + 1, 0, none⟩) 2 2, .slice none 0 0, .slice none 0 0] 36)).alloc (.cells #[.string ⟨#[120]⟩, .string ⟨#[73, 110, 116]⟩, .string ⟨#[120]⟩, .string ⟨#[66, 111, 111, 108]⟩] 62)) (some ⟨w.heap.size + 1, 0, none⟩) 2 2 evs) := vs_lit (n := 2) evs rfl rfl (by omega) (by simp)
  clear M
  go_enter Tryd.func34, Tryd.ntmps34
  go_wp2_with fail
  refine bodyPost_ret (v := .agg #[.slice (some ⟨w.heap.size + 1, 0, none⟩) 2 2, .slice none 0 0, .slice none 0 0]) (by simp [results, Tryd.results34, go_sem, *]) rfl ⟨_, _, rfl, HV.out, HB.out⟩
theorem evs_fits : Fits ⟨evs, [], []⟩ := (li_of (by decide)).fits
theorem lit_fits : Fits ⟨[], [⟨[108, 101, 110], [[76, 105, 115, 116]], [73, 110, 116]⟩], [⟨[107], [⟨[118], tInt⟩]⟩]⟩ := (li_of (by decide)).fits
set_option maxRecDepth 100000 in
set_option maxHeartbeats 8000000 in
theorem awake_any (w : World) (henv : Env w) : Calls Tryd.prog 11 #[] w fun e w' => e = .returned (.bool true) ∧ Below w.heap.size w w' := by
  have HB0 : Hid (Below w.heap.size w w) := Below.refl _ _
  have HE0 := Lib.hid henv
  clear henv
  go_enter Tryd.func11, Tryd.ntmps11
  go_wp2_with fail
  (refine (env_env_any w).mono ?_); rintro e w1 ⟨A1, c1, rfl, hv, hb⟩
  have HB1 := Lib.hid (nbelow_on HB0.out hb)
  have HE1 := Lib.hid (HE0.out.below hb)
  clear hb 
  have V1_1 : Hid (Vs w1 A1 2 c1 evs) := hv
  clear hv
  go_wp2_with fail
  (refine (var_any A1 2 c1 none 0 0 none 0 0 ⟨evs, [], []⟩ ⟨#[120]⟩ w1 V1_1.out).mono ?_); rintro e w2 ⟨y1, rfl, hy1, hb⟩
  have HB2 := Lib.hid (nbelow_on HB1.out hb)
  have HE2 := Lib.hid (HE1.out.below hb)
  have V1_2 := Lib.hid (V1_1.out.below hb)
  clear hb V1_1
  have HY1 : Hid (y1.data.toList = tBool) := hy1.out
  clear hy1
  clear V1_2
  rw [show (varF (En.vars ⟨evs, [], []⟩) (ByteArray.data ⟨#[120]⟩).toList).isSome = true from by decide]
  go_wp2_with fail
  (refine (find_any none 0 0 none 0 0 none 0 0 ⟨[], [], []⟩ ⟨#[116, 97, 103]⟩ w2 (Ys.nil _) (fun y h => by cases h)).mono ?_); rintro e w3 ⟨x2, A2, n2, c2, y2, rfl, hx, hs, hy, hb⟩
  have HB3 := Lib.hid (nbelow_on HB2.out hb)
  have HE3 := Lib.hid (HE2.out.below hb)
  clear hb 
  have HY2 : Hid (y2.data.toList = tInt) := hy.out
  clear hx hs hy
  rw [show (findF (En.syms ⟨[], [], []⟩) (ByteArray.data ⟨#[116, 97, 103]⟩).toList).isSome = true from by decide]
  have HB4 : Hid (Below w.heap.size w (w3.alloc (.cells #[.string x2, .slice A2 n2 c2, .string y2] 25))) := nbelow_on HB3.out (below_alloc _)
  have HE4 : Hid (Env (w3.alloc (.cells #[.string x2, .slice A2 n2 c2, .string y2] 25))) := HE3.out.below (below_alloc _)
  have T3_4 : Hid (Bk 25 (w3.alloc (.cells #[.string x2, .slice A2 n2 c2, .string y2] 25)) (w3.heap.size) #[.string x2, .slice A2 n2 c2, .string y2]) := Bk.at _ (by simp)
  go_wp2_with fail
  (refine (find_any none 0 0 none 0 0 none 0 0 ⟨[], [], []⟩ ⟨#[118, 97, 108]⟩ (w3.alloc (.cells #[.string x2, .slice A2 n2 c2, .string y2] 25)) (Ys.nil _) (fun y h => by cases h)).mono ?_); rintro e w5 ⟨x3, A3, n3, c3, y3, rfl, hx, hs, hy, hb⟩
  have HB5 := Lib.hid (nbelow_on HB4.out hb)
  have HE5 := Lib.hid (HE4.out.below hb)
  have T3_5 := Lib.hid (T3_4.out.below hb)
  clear hb T3_4
  have HN3 : Hid (1 = n3) := hs.out.len
  clear hx hs hy
  rw [show (findF (En.syms ⟨[], [], []⟩) (ByteArray.data ⟨#[118, 97, 108]⟩).toList).isSome = true from by decide]
  have HB6 : Hid (Below w.heap.size w (w5.alloc (.cells #[.string x3, .slice A3 n3 c3, .string y3] 25))) := nbelow_on HB5.out (below_alloc _)
  have HE6 : Hid (Env (w5.alloc (.cells #[.string x3, .slice A3 n3 c3, .string y3] 25))) := HE5.out.below (below_alloc _)
  have T3_6 := Lib.hid (T3_5.out.below (below_alloc (w := w5) (.cells #[.string x3, .slice A3 n3 c3, .string y3] 25)))
  clear T3_5
  have T5_6 : Hid (Bk 25 (w5.alloc (.cells #[.string x3, .slice A3 n3 c3, .string y3] 25)) (w5.heap.size) #[.string x3, .slice A3 n3 c3, .string y3]) := Bk.at _ (by simp)
  go_wp2_with fail
  (refine (find_any none 0 0 none 0 0 none 0 0 ⟨[], [], []⟩ ⟨#[108, 101, 110]⟩ (w5.alloc (.cells #[.string x3, .slice A3 n3 c3, .string y3] 25)) (Ys.nil _) (fun y h => by cases h)).mono ?_); rintro e w7 ⟨x4, A4, n4, c4, y4, rfl, hx, hs, hy, hb⟩
  have HB7 := Lib.hid (nbelow_on HB6.out hb)
  have HE7 := Lib.hid (HE6.out.below hb)
  have T3_7 := Lib.hid (T3_6.out.below hb)
  have T5_7 := Lib.hid (T5_6.out.below hb)
  clear hb T3_6 T5_6
  clear hx hs hy
  rw [show (findF (En.syms ⟨[], [], []⟩) (ByteArray.data ⟨#[108, 101, 110]⟩).toList).isSome = false from by decide]
  have HB8 : Hid (Below w.heap.size w (w7.alloc (.cells #[.string x4, .slice A4 n4 c4, .string y4] 25))) := nbelow_on HB7.out (below_alloc _)
  have HE8 : Hid (Env (w7.alloc (.cells #[.string x4, .slice A4 n4 c4, .string y4] 25))) := HE7.out.below (below_alloc _)
  have T3_8 := Lib.hid (T3_7.out.below (below_alloc (w := w7) (.cells #[.string x4, .slice A4 n4 c4, .string y4] 25)))
  have T5_8 := Lib.hid (T5_7.out.below (below_alloc (w := w7) (.cells #[.string x4, .slice A4 n4 c4, .string y4] 25)))
  clear T3_7 T5_7
  go_wp2_with fail
  (refine (of_any 3 ⟨#[]⟩ none 0 0 none 0 0 0 ⟨#[]⟩ 0 none 0 0 none 0 0 (w7.alloc (.cells #[.string x4, .slice A4 n4 c4, .string y4] 25))).mono ?_); rintro e w9 ⟨rfl, hb⟩
  have HB9 := Lib.hid (nbelow_on HB8.out hb)
  have HE9 := Lib.hid (HE8.out.below hb)
  have T3_9 := Lib.hid (T3_8.out.below hb)
  have T5_9 := Lib.hid (T5_8.out.below hb)
  clear hb T3_8 T5_8
  rw [show ofR 3 ⟨#[]⟩ 0 = .tuple #[.string ⟨#[67, 101, 108, 108]⟩, .bool true] from rfl]
  have HB10 : Hid (Below w.heap.size w (w9.alloc (.cells #[.int .i64 1, .string ⟨#[]⟩, .slice none 0 0, .slice none 0 0, .int .i64 0, .string ⟨#[]⟩, .int .i64 0, .slice none 0 0, .slice none 0 0, .int .i64 1, .string ⟨#[]⟩, .slice none 0 0, .slice none 0 0, .int .i64 0, .string ⟨#[]⟩, .int .i64 0, .slice none 0 0, .slice none 0 0] 58))) := nbelow_on HB9.out (below_alloc _)
  have HE10 : Hid (Env (w9.alloc (.cells #[.int .i64 1, .string ⟨#[]⟩, .slice none 0 0, .slice none 0 0, .int .i64 0, .string ⟨#[]⟩, .int .i64 0, .slice none 0 0, .slice none 0 0, .int .i64 1, .string ⟨#[]⟩, .slice none 0 0, .slice none 0 0, .int .i64 0, .string ⟨#[]⟩, .int .i64 0, .slice none 0 0, .slice none 0 0] 58))) := HE9.out.below (below_alloc _)
  have T3_10 := Lib.hid (T3_9.out.below (below_alloc (w := w9) (.cells #[.int .i64 1, .string ⟨#[]⟩, .slice none 0 0, .slice none 0 0, .int .i64 0, .string ⟨#[]⟩, .int .i64 0, .slice none 0 0, .slice none 0 0, .int .i64 1, .string ⟨#[]⟩, .slice none 0 0, .slice none 0 0, .int .i64 0, .string ⟨#[]⟩, .int .i64 0, .slice none 0 0, .slice none 0 0] 58)))
  have T5_10 := Lib.hid (T5_9.out.below (below_alloc (w := w9) (.cells #[.int .i64 1, .string ⟨#[]⟩, .slice none 0 0, .slice none 0 0, .int .i64 0, .string ⟨#[]⟩, .int .i64 0, .slice none 0 0, .slice none 0 0, .int .i64 1, .string ⟨#[]⟩, .slice none 0 0, .slice none 0 0, .int .i64 0, .string ⟨#[]⟩, .int .i64 0, .slice none 0 0, .slice none 0 0] 58)))
  clear T3_9 T5_9
  go_wp2_with fail
  (refine (of_any 6 ⟨#[]⟩ (some ⟨w9.heap.size, 0, none⟩) 2 2 none 0 0 0 ⟨#[]⟩ 0 none 0 0 none 0 0 (w9.alloc (.cells #[.int .i64 1, .string ⟨#[]⟩, .slice none 0 0, .slice none 0 0, .int .i64 0, .string ⟨#[]⟩, .int .i64 0, .slice none 0 0, .slice none 0 0, .int .i64 1, .string ⟨#[]⟩, .slice none 0 0, .slice none 0 0, .int .i64 0, .string ⟨#[]⟩, .int .i64 0, .slice none 0 0, .slice none 0 0] 58))).mono ?_); rintro e w11 ⟨rfl, hb⟩
  have HB11 := Lib.hid (nbelow_on HB10.out hb)
  have HE11 := Lib.hid (HE10.out.below hb)
  have T3_11 := Lib.hid (T3_10.out.below hb)
  have T5_11 := Lib.hid (T5_10.out.below hb)
  clear hb T3_10 T5_10
  rw [show ofR 6 ⟨#[]⟩ 2 = .tuple #[.string ⟨#[]⟩, .bool false] from rfl]
  go_wp2_with fail
  (refine (env_env_any w11).mono ?_); rintro e w12 ⟨A5, c5, rfl, hv, hb⟩
  have HB12 := Lib.hid (nbelow_on HB11.out hb)
  have HE12 := Lib.hid (HE11.out.below hb)
  have T3_12 := Lib.hid (T3_11.out.below hb)
  have T5_12 := Lib.hid (T5_11.out.below hb)
  clear hb T3_11 T5_11
  have V1_12 : Hid (Vs w12 A5 2 c5 evs) := hv
  clear hv
  go_wp2_with fail
  (refine (with_any A5 2 c5 none 0 0 none 0 0 ⟨evs, [], []⟩ ⟨#[120]⟩ ⟨#[76, 105, 115, 116]⟩ w12 V1_12.out (Ys.nil _) (Hs.nil _) evs_fits (by omega) (by omega) (by omega) (fun y h => by cases h) (fun y h => by cases h) (by decide)).mono ?_); rintro e w13 ⟨A6, n6, c6, B6, m6, d6, C6, p6, q6, rfl, hv, hy, hh, hb⟩
  have HB13 := Lib.hid (nbelow_on HB12.out hb)
  have HE13 := Lib.hid (HE12.out.below hb)
  have T3_13 := Lib.hid (T3_12.out.below hb)
  have T5_13 := Lib.hid (T5_12.out.below hb)
  have V1_13 := Lib.hid (V1_12.out.below hb)
  clear hb T3_12 T5_12 V1_12
  clear V1_13
  have V6_13 : Hid (Vs w13 A6 n6 c6 [⟨[120], [76, 105, 115, 116]⟩]) := (show withV evs ⟨(ByteArray.data ⟨#[120]⟩).toList, (ByteArray.data ⟨#[76, 105, 115, 116]⟩).toList⟩ = [⟨[120], [76, 105, 115, 116]⟩] from rfl) ▸ hv.out
  clear hv hy hh
  have HB14 : Hid (Below w.heap.size w (w13.alloc (.cells #[.slice A6 n6 c6, .slice B6 m6 d6, .slice C6 p6 q6] 36))) := nbelow_on HB13.out (below_alloc _)
  have HE14 : Hid (Env (w13.alloc (.cells #[.slice A6 n6 c6, .slice B6 m6 d6, .slice C6 p6 q6] 36))) := HE13.out.below (below_alloc _)
  have T3_14 := Lib.hid (T3_13.out.below (below_alloc (w := w13) (.cells #[.slice A6 n6 c6, .slice B6 m6 d6, .slice C6 p6 q6] 36)))
  have T5_14 := Lib.hid (T5_13.out.below (below_alloc (w := w13) (.cells #[.slice A6 n6 c6, .slice B6 m6 d6, .slice C6 p6 q6] 36)))
  have V6_14 := Lib.hid (V6_13.out.below (below_alloc (w := w13) (.cells #[.slice A6 n6 c6, .slice B6 m6 d6, .slice C6 p6 q6] 36)))
  clear T3_13 T5_13 V6_13
  have T13_14 : Hid (Bk 36 (w13.alloc (.cells #[.slice A6 n6 c6, .slice B6 m6 d6, .slice C6 p6 q6] 36)) (w13.heap.size) #[.slice A6 n6 c6, .slice B6 m6 d6, .slice C6 p6 q6]) := Bk.at _ (by simp)
  have HB15 : Hid (Below w.heap.size w ((w13.alloc (.cells #[.slice A6 n6 c6, .slice B6 m6 d6, .slice C6 p6 q6] 36)).alloc (.cells #[.string ⟨#[118]⟩, .string ⟨#[73, 110, 116]⟩] 62))) := nbelow_on HB14.out (below_alloc _)
  have HE15 : Hid (Env ((w13.alloc (.cells #[.slice A6 n6 c6, .slice B6 m6 d6, .slice C6 p6 q6] 36)).alloc (.cells #[.string ⟨#[118]⟩, .string ⟨#[73, 110, 116]⟩] 62))) := HE14.out.below (below_alloc _)
  have T3_15 := Lib.hid (T3_14.out.below (below_alloc (w := (w13.alloc (.cells #[.slice A6 n6 c6, .slice B6 m6 d6, .slice C6 p6 q6] 36))) (.cells #[.string ⟨#[118]⟩, .string ⟨#[73, 110, 116]⟩] 62)))
  have T5_15 := Lib.hid (T5_14.out.below (below_alloc (w := (w13.alloc (.cells #[.slice A6 n6 c6, .slice B6 m6 d6, .slice C6 p6 q6] 36))) (.cells #[.string ⟨#[118]⟩, .string ⟨#[73, 110, 116]⟩] 62)))
  have V6_15 := Lib.hid (V6_14.out.below (below_alloc (w := (w13.alloc (.cells #[.slice A6 n6 c6, .slice B6 m6 d6, .slice C6 p6 q6] 36))) (.cells #[.string ⟨#[118]⟩, .string ⟨#[73, 110, 116]⟩] 62)))
  have T13_15 := Lib.hid (T13_14.out.below (below_alloc (w := (w13.alloc (.cells #[.slice A6 n6 c6, .slice B6 m6 d6, .slice C6 p6 q6] 36))) (.cells #[.string ⟨#[118]⟩, .string ⟨#[73, 110, 116]⟩] 62)))
  clear T3_14 T5_14 V6_14 T13_14
  have V8_15 : Hid (Vs ((w13.alloc (.cells #[.slice A6 n6 c6, .slice B6 m6 d6, .slice C6 p6 q6] 36)).alloc (.cells #[.string ⟨#[118]⟩, .string ⟨#[73, 110, 116]⟩] 62)) (some ⟨w13.heap.size + 1, 0, none⟩) 1 1 [⟨[118], tInt⟩]) := vs_lit [⟨[118], tInt⟩] (n := 1) rfl rfl (by omega) (by simp)
  obtain ⟨g8, hg8⟩ : ∃ g8, g8 = w13.heap.size + 1 := ⟨_, rfl⟩
  have HB16 : Hid (Below w.heap.size w (((w13.alloc (.cells #[.slice A6 n6 c6, .slice B6 m6 d6, .slice C6 p6 q6] 36)).alloc (.cells #[.string ⟨#[118]⟩, .string ⟨#[73, 110, 116]⟩] 62)).alloc (.cells #[.string ⟨#[107]⟩, .slice (some ⟨w13.heap.size + 1, 0, none⟩) 1 1] 44))) := nbelow_on HB15.out (below_alloc _)
  have HE16 : Hid (Env (((w13.alloc (.cells #[.slice A6 n6 c6, .slice B6 m6 d6, .slice C6 p6 q6] 36)).alloc (.cells #[.string ⟨#[118]⟩, .string ⟨#[73, 110, 116]⟩] 62)).alloc (.cells #[.string ⟨#[107]⟩, .slice (some ⟨w13.heap.size + 1, 0, none⟩) 1 1] 44))) := HE15.out.below (below_alloc _)
  have T3_16 := Lib.hid (T3_15.out.below (below_alloc (w := ((w13.alloc (.cells #[.slice A6 n6 c6, .slice B6 m6 d6, .slice C6 p6 q6] 36)).alloc (.cells #[.string ⟨#[118]⟩, .string ⟨#[73, 110, 116]⟩] 62))) (.cells #[.string ⟨#[107]⟩, .slice (some ⟨w13.heap.size + 1, 0, none⟩) 1 1] 44)))
  have T5_16 := Lib.hid (T5_15.out.below (below_alloc (w := ((w13.alloc (.cells #[.slice A6 n6 c6, .slice B6 m6 d6, .slice C6 p6 q6] 36)).alloc (.cells #[.string ⟨#[118]⟩, .string ⟨#[73, 110, 116]⟩] 62))) (.cells #[.string ⟨#[107]⟩, .slice (some ⟨w13.heap.size + 1, 0, none⟩) 1 1] 44)))
  have V6_16 := Lib.hid (V6_15.out.below (below_alloc (w := ((w13.alloc (.cells #[.slice A6 n6 c6, .slice B6 m6 d6, .slice C6 p6 q6] 36)).alloc (.cells #[.string ⟨#[118]⟩, .string ⟨#[73, 110, 116]⟩] 62))) (.cells #[.string ⟨#[107]⟩, .slice (some ⟨w13.heap.size + 1, 0, none⟩) 1 1] 44)))
  have T13_16 := Lib.hid (T13_15.out.below (below_alloc (w := ((w13.alloc (.cells #[.slice A6 n6 c6, .slice B6 m6 d6, .slice C6 p6 q6] 36)).alloc (.cells #[.string ⟨#[118]⟩, .string ⟨#[73, 110, 116]⟩] 62))) (.cells #[.string ⟨#[107]⟩, .slice (some ⟨w13.heap.size + 1, 0, none⟩) 1 1] 44)))
  have V8_16 := Lib.hid (V8_15.out.below (below_alloc (w := ((w13.alloc (.cells #[.slice A6 n6 c6, .slice B6 m6 d6, .slice C6 p6 q6] 36)).alloc (.cells #[.string ⟨#[118]⟩, .string ⟨#[73, 110, 116]⟩] 62))) (.cells #[.string ⟨#[107]⟩, .slice (some ⟨w13.heap.size + 1, 0, none⟩) 1 1] 44)))
  clear T3_15 T5_15 V6_15 T13_15 V8_15
  have T14_16 : Hid (Bk 44 (((w13.alloc (.cells #[.slice A6 n6 c6, .slice B6 m6 d6, .slice C6 p6 q6] 36)).alloc (.cells #[.string ⟨#[118]⟩, .string ⟨#[73, 110, 116]⟩] 62)).alloc (.cells #[.string ⟨#[107]⟩, .slice (some ⟨w13.heap.size + 1, 0, none⟩) 1 1] 44)) (w13.heap.size + 1 + 1) #[.string ⟨#[107]⟩, .slice (some ⟨w13.heap.size + 1, 0, none⟩) 1 1]) := Bk.at _ (by simp)
  have H9x_16 : Hid (True) := trivial
  clear H9x_16
  have hs9 : Hs ((((w13.alloc (.cells #[.slice A6 n6 c6, .slice B6 m6 d6, .slice C6 p6 q6] 36)).alloc (.cells #[.string ⟨#[118]⟩, .string ⟨#[73, 110, 116]⟩] 62)).alloc (.cells #[.string ⟨#[107]⟩, .slice (some ⟨w13.heap.size + 1, 0, none⟩) 1 1] 44)).alloc (.cells #[.string ⟨#[107]⟩, .slice (some ⟨w13.heap.size + 1, 0, none⟩) 1 1] 44)) (some ⟨w13.heap.size + 1 + 1 + 1, 0, none⟩) 1 1 [⟨(ByteArray.data ⟨#[107]⟩).toList, [⟨[118], tInt⟩]⟩] := hs_lit V8_16.out (by simp)
  have HB17 : Hid (Below w.heap.size w ((((w13.alloc (.cells #[.slice A6 n6 c6, .slice B6 m6 d6, .slice C6 p6 q6] 36)).alloc (.cells #[.string ⟨#[118]⟩, .string ⟨#[73, 110, 116]⟩] 62)).alloc (.cells #[.string ⟨#[107]⟩, .slice (some ⟨w13.heap.size + 1, 0, none⟩) 1 1] 44)).alloc (.cells #[.string ⟨#[107]⟩, .slice (some ⟨w13.heap.size + 1, 0, none⟩) 1 1] 44))) := nbelow_on HB16.out (below_alloc _)
  have HE17 : Hid (Env ((((w13.alloc (.cells #[.slice A6 n6 c6, .slice B6 m6 d6, .slice C6 p6 q6] 36)).alloc (.cells #[.string ⟨#[118]⟩, .string ⟨#[73, 110, 116]⟩] 62)).alloc (.cells #[.string ⟨#[107]⟩, .slice (some ⟨w13.heap.size + 1, 0, none⟩) 1 1] 44)).alloc (.cells #[.string ⟨#[107]⟩, .slice (some ⟨w13.heap.size + 1, 0, none⟩) 1 1] 44))) := HE16.out.below (below_alloc _)
  have T3_17 := Lib.hid (T3_16.out.below (below_alloc (w := (((w13.alloc (.cells #[.slice A6 n6 c6, .slice B6 m6 d6, .slice C6 p6 q6] 36)).alloc (.cells #[.string ⟨#[118]⟩, .string ⟨#[73, 110, 116]⟩] 62)).alloc (.cells #[.string ⟨#[107]⟩, .slice (some ⟨w13.heap.size + 1, 0, none⟩) 1 1] 44))) (.cells #[.string ⟨#[107]⟩, .slice (some ⟨w13.heap.size + 1, 0, none⟩) 1 1] 44)))
  have T5_17 := Lib.hid (T5_16.out.below (below_alloc (w := (((w13.alloc (.cells #[.slice A6 n6 c6, .slice B6 m6 d6, .slice C6 p6 q6] 36)).alloc (.cells #[.string ⟨#[118]⟩, .string ⟨#[73, 110, 116]⟩] 62)).alloc (.cells #[.string ⟨#[107]⟩, .slice (some ⟨w13.heap.size + 1, 0, none⟩) 1 1] 44))) (.cells #[.string ⟨#[107]⟩, .slice (some ⟨w13.heap.size + 1, 0, none⟩) 1 1] 44)))
  have V6_17 := Lib.hid (V6_16.out.below (below_alloc (w := (((w13.alloc (.cells #[.slice A6 n6 c6, .slice B6 m6 d6, .slice C6 p6 q6] 36)).alloc (.cells #[.string ⟨#[118]⟩, .string ⟨#[73, 110, 116]⟩] 62)).alloc (.cells #[.string ⟨#[107]⟩, .slice (some ⟨w13.heap.size + 1, 0, none⟩) 1 1] 44))) (.cells #[.string ⟨#[107]⟩, .slice (some ⟨w13.heap.size + 1, 0, none⟩) 1 1] 44)))
  have T13_17 := Lib.hid (T13_16.out.below (below_alloc (w := (((w13.alloc (.cells #[.slice A6 n6 c6, .slice B6 m6 d6, .slice C6 p6 q6] 36)).alloc (.cells #[.string ⟨#[118]⟩, .string ⟨#[73, 110, 116]⟩] 62)).alloc (.cells #[.string ⟨#[107]⟩, .slice (some ⟨w13.heap.size + 1, 0, none⟩) 1 1] 44))) (.cells #[.string ⟨#[107]⟩, .slice (some ⟨w13.heap.size + 1, 0, none⟩) 1 1] 44)))
  have V8_17 := Lib.hid (V8_16.out.below (below_alloc (w := (((w13.alloc (.cells #[.slice A6 n6 c6, .slice B6 m6 d6, .slice C6 p6 q6] 36)).alloc (.cells #[.string ⟨#[118]⟩, .string ⟨#[73, 110, 116]⟩] 62)).alloc (.cells #[.string ⟨#[107]⟩, .slice (some ⟨w13.heap.size + 1, 0, none⟩) 1 1] 44))) (.cells #[.string ⟨#[107]⟩, .slice (some ⟨w13.heap.size + 1, 0, none⟩) 1 1] 44)))
  have T14_17 := Lib.hid (T14_16.out.below (below_alloc (w := (((w13.alloc (.cells #[.slice A6 n6 c6, .slice B6 m6 d6, .slice C6 p6 q6] 36)).alloc (.cells #[.string ⟨#[118]⟩, .string ⟨#[73, 110, 116]⟩] 62)).alloc (.cells #[.string ⟨#[107]⟩, .slice (some ⟨w13.heap.size + 1, 0, none⟩) 1 1] 44))) (.cells #[.string ⟨#[107]⟩, .slice (some ⟨w13.heap.size + 1, 0, none⟩) 1 1] 44)))
  clear T3_16 T5_16 V6_16 T13_16 V8_16 T14_16
  have H9_17 : Hid (Hs ((((w13.alloc (.cells #[.slice A6 n6 c6, .slice B6 m6 d6, .slice C6 p6 q6] 36)).alloc (.cells #[.string ⟨#[118]⟩, .string ⟨#[73, 110, 116]⟩] 62)).alloc (.cells #[.string ⟨#[107]⟩, .slice (some ⟨w13.heap.size + 1, 0, none⟩) 1 1] 44)).alloc (.cells #[.string ⟨#[107]⟩, .slice (some ⟨w13.heap.size + 1, 0, none⟩) 1 1] 44)) (some ⟨w13.heap.size + 1 + 1 + 1, 0, none⟩) 1 1 [⟨[107], [⟨[118], tInt⟩]⟩]) := hs9
  clear hs9 hg8
  have a0 := T14_17.out.c 0 (v := .string ⟨#[107]⟩) rfl
  have a1 := T14_17.out.c 1 (v := .slice (some ⟨w13.heap.size + 1, 0, none⟩) 1 1) rfl
  have a2 := (show Bk 44 (((w13.alloc (.cells #[.slice A6 n6 c6, .slice B6 m6 d6, .slice C6 p6 q6] 36)).alloc (.cells #[.string ⟨#[118]⟩, .string ⟨#[73, 110, 116]⟩] 62)).alloc (.cells #[.string ⟨#[107]⟩, .slice (some ⟨w13.heap.size + 1, 0, none⟩) 1 1] 44)) _ #[.string ⟨#[107]⟩, .slice (some ⟨w13.heap.size + 1, 0, none⟩) 1 1] from Bk.at _ (by simp)).c 0 (b := w13.heap.size + 1 + 1) (v := .string ⟨#[107]⟩) rfl
  have a3 := (show Bk 44 (((w13.alloc (.cells #[.slice A6 n6 c6, .slice B6 m6 d6, .slice C6 p6 q6] 36)).alloc (.cells #[.string ⟨#[118]⟩, .string ⟨#[73, 110, 116]⟩] 62)).alloc (.cells #[.string ⟨#[107]⟩, .slice (some ⟨w13.heap.size + 1, 0, none⟩) 1 1] 44)) _ #[.string ⟨#[107]⟩, .slice (some ⟨w13.heap.size + 1, 0, none⟩) 1 1] from Bk.at _ (by simp)).c 1 (b := w13.heap.size + 1 + 1) (v := .slice (some ⟨w13.heap.size + 1, 0, none⟩) 1 1) rfl
  go_wp2_with fail
  (refine (hole_any none 0 0 none 0 0 (some ⟨w13.heap.size + 1 + 1 + 1, 0, none⟩) 1 1 ⟨[], [], [⟨[107], [⟨[118], tInt⟩]⟩]⟩ ⟨#[107]⟩ ((((w13.alloc (.cells #[.slice A6 n6 c6, .slice B6 m6 d6, .slice C6 p6 q6] 36)).alloc (.cells #[.string ⟨#[118]⟩, .string ⟨#[73, 110, 116]⟩] 62)).alloc (.cells #[.string ⟨#[107]⟩, .slice (some ⟨w13.heap.size + 1, 0, none⟩) 1 1] 44)).alloc (.cells #[.string ⟨#[107]⟩, .slice (some ⟨w13.heap.size + 1, 0, none⟩) 1 1] 44)) H9_17.out (fun h hh => by cases hh with | head => show 1 ≤ 100000; omega | tail _ h => cases h)).mono ?_); rintro e w18 ⟨x9, A9, n9, c9, rfl, hx, hv, hb⟩
  have HB18 := Lib.hid (nbelow_on HB17.out hb)
  have HE18 := Lib.hid (HE17.out.below hb)
  have T3_18 := Lib.hid (T3_17.out.below hb)
  have T5_18 := Lib.hid (T5_17.out.below hb)
  have V6_18 := Lib.hid (V6_17.out.below hb)
  have T13_18 := Lib.hid (T13_17.out.below hb)
  have V8_18 := Lib.hid (V8_17.out.below hb)
  have T14_18 := Lib.hid (T14_17.out.below hb)
  have H9_18 := Lib.hid (H9_17.out.below hb)
  clear hb T3_17 T5_17 V6_17 T13_17 V8_17 T14_17 H9_17
  clear a0 a1 a2 a3
  have HX9 : Hid (x9.data.toList = [107]) := hx.out
  have V9_18 : Hid (Vs w18 A9 n9 c9 [⟨[118], tInt⟩]) := hv.out
  clear hx hv
  clear H9_18
  rw [show (holeF (En.holes ⟨[], [], [⟨[107], [⟨[118], tInt⟩]⟩]⟩) (ByteArray.data ⟨#[107]⟩).toList).isSome = true from by decide]
  have HB19 : Hid (Below w.heap.size w (w18.alloc (.cells #[.string x9, .slice A9 n9 c9] 44))) := nbelow_on HB18.out (below_alloc _)
  have HE19 : Hid (Env (w18.alloc (.cells #[.string x9, .slice A9 n9 c9] 44))) := HE18.out.below (below_alloc _)
  have T3_19 := Lib.hid (T3_18.out.below (below_alloc (w := w18) (.cells #[.string x9, .slice A9 n9 c9] 44)))
  have T5_19 := Lib.hid (T5_18.out.below (below_alloc (w := w18) (.cells #[.string x9, .slice A9 n9 c9] 44)))
  have V6_19 := Lib.hid (V6_18.out.below (below_alloc (w := w18) (.cells #[.string x9, .slice A9 n9 c9] 44)))
  have T13_19 := Lib.hid (T13_18.out.below (below_alloc (w := w18) (.cells #[.string x9, .slice A9 n9 c9] 44)))
  have V8_19 := Lib.hid (V8_18.out.below (below_alloc (w := w18) (.cells #[.string x9, .slice A9 n9 c9] 44)))
  have T14_19 := Lib.hid (T14_18.out.below (below_alloc (w := w18) (.cells #[.string x9, .slice A9 n9 c9] 44)))
  have V9_19 := Lib.hid (V9_18.out.below (below_alloc (w := w18) (.cells #[.string x9, .slice A9 n9 c9] 44)))
  clear T3_18 T5_18 V6_18 T13_18 V8_18 T14_18 V9_18
  have T15_19 : Hid (Bk 44 (w18.alloc (.cells #[.string x9, .slice A9 n9 c9] 44)) (w18.heap.size) #[.string x9, .slice A9 n9 c9]) := Bk.at _ (by simp)
  go_wp2_with fail
  (refine (check_any ⟨#[76, 105, 115, 116, 46, 73, 110, 116]⟩ (w18.alloc (.cells #[.string x9, .slice A9 n9 c9] 44)) HE19.out).mono ?_); rintro e w20 ⟨rfl, hb⟩
  have HB20 := Lib.hid (nbelow_on HB19.out hb)
  have HE20 := Lib.hid (HE19.out.below hb)
  have T3_20 := Lib.hid (T3_19.out.below hb)
  have T5_20 := Lib.hid (T5_19.out.below hb)
  have V6_20 := Lib.hid (V6_19.out.below hb)
  have T13_20 := Lib.hid (T13_19.out.below hb)
  have V8_20 := Lib.hid (V8_19.out.below hb)
  have T14_20 := Lib.hid (T14_19.out.below hb)
  have V9_20 := Lib.hid (V9_19.out.below hb)
  have T15_20 := Lib.hid (T15_19.out.below hb)
  clear hb T3_19 T5_19 V6_19 T13_19 V8_19 T14_19 V9_19 T15_19
  rw [show sortI (ByteArray.data ⟨#[76, 105, 115, 116, 46, 73, 110, 116]⟩).toList = 0 from by decide]
  go_wp2_with fail
  (refine (check_any ⟨#[108, 105, 115, 116]⟩ w20 HE20.out).mono ?_); rintro e w21 ⟨rfl, hb⟩
  have HB21 := Lib.hid (nbelow_on HB20.out hb)
  have HE21 := Lib.hid (HE20.out.below hb)
  have T3_21 := Lib.hid (T3_20.out.below hb)
  have T5_21 := Lib.hid (T5_20.out.below hb)
  have V6_21 := Lib.hid (V6_20.out.below hb)
  have T13_21 := Lib.hid (T13_20.out.below hb)
  have V8_21 := Lib.hid (V8_20.out.below hb)
  have T14_21 := Lib.hid (T14_20.out.below hb)
  have V9_21 := Lib.hid (V9_20.out.below hb)
  have T15_21 := Lib.hid (T15_20.out.below hb)
  clear hb T3_20 T5_20 V6_20 T13_20 V8_20 T14_20 V9_20 T15_20
  rw [show sortI (ByteArray.data ⟨#[108, 105, 115, 116]⟩).toList = 11 from by decide]
  go_wp2_with fail
  (refine (env_env_any w21).mono ?_); rintro e w22 ⟨A7, c7, rfl, hv, hb⟩
  have HB22 := Lib.hid (nbelow_on HB21.out hb)
  have HE22 := Lib.hid (HE21.out.below hb)
  have T3_22 := Lib.hid (T3_21.out.below hb)
  have T5_22 := Lib.hid (T5_21.out.below hb)
  have V6_22 := Lib.hid (V6_21.out.below hb)
  have T13_22 := Lib.hid (T13_21.out.below hb)
  have V8_22 := Lib.hid (V8_21.out.below hb)
  have T14_22 := Lib.hid (T14_21.out.below hb)
  have V9_22 := Lib.hid (V9_21.out.below hb)
  have T15_22 := Lib.hid (T15_21.out.below hb)
  clear hb T3_21 T5_21 V6_21 T13_21 V8_21 T14_21 V9_21 T15_21
  have V1_22 : Hid (Vs w22 A7 2 c7 evs) := hv
  clear hv
  go_wp2_with fail
  (refine (env_any A7 2 c7 none 0 0 none 0 0 ⟨evs, [], []⟩ w22 HE22.out evs_fits V1_22.out (Ys.nil _) (Hs.nil _)).mono ?_); rintro e w23 ⟨rfl, hb⟩
  have HB23 := Lib.hid (nbelow_on HB22.out hb)
  have HE23 := Lib.hid (HE22.out.below hb)
  have T3_23 := Lib.hid (T3_22.out.below hb)
  have T5_23 := Lib.hid (T5_22.out.below hb)
  have V6_23 := Lib.hid (V6_22.out.below hb)
  have T13_23 := Lib.hid (T13_22.out.below hb)
  have V8_23 := Lib.hid (V8_22.out.below hb)
  have T14_23 := Lib.hid (T14_22.out.below hb)
  have V9_23 := Lib.hid (V9_22.out.below hb)
  have T15_23 := Lib.hid (T15_22.out.below hb)
  have V1_23 := Lib.hid (V1_22.out.below hb)
  clear hb T3_22 T5_22 V6_22 T13_22 V8_22 T14_22 V9_22 T15_22 V1_22
  clear V1_23
  rw [show envI ⟨evs, [], []⟩ = 4 from by decide]
  have b0 := T3_23.out.c 2 (v := .string y2) rfl
  have b1 := T5_23.out.c 1 (v := .slice A3 n3 c3) rfl
  have t1 : (y1.toList == [66, 111, 111, 108]) = true := txt_eq_lit (by rw [HY1.out]; rfl)
  have t2 : (y2.toList == [73, 110, 116]) = true := txt_eq_lit (by rw [HY2.out]; rfl)
  have t3 : ((n3 : Int) == 1) = true := by rw [← HN3.out]; rfl
  have t3' : ((n3 : Int) != 1) = false := by rw [bne, t3]; rfl
  have HB24 : Hid (Below w.heap.size w (w23.alloc (.cells #[.string ⟨#[76, 105, 115, 116]⟩] 22))) := nbelow_on HB23.out (below_alloc _)
  have HE24 : Hid (Env (w23.alloc (.cells #[.string ⟨#[76, 105, 115, 116]⟩] 22))) := HE23.out.below (below_alloc _)
  have T3_24 := Lib.hid (T3_23.out.below (below_alloc (w := w23) (.cells #[.string ⟨#[76, 105, 115, 116]⟩] 22)))
  have T5_24 := Lib.hid (T5_23.out.below (below_alloc (w := w23) (.cells #[.string ⟨#[76, 105, 115, 116]⟩] 22)))
  have V6_24 := Lib.hid (V6_23.out.below (below_alloc (w := w23) (.cells #[.string ⟨#[76, 105, 115, 116]⟩] 22)))
  have T13_24 := Lib.hid (T13_23.out.below (below_alloc (w := w23) (.cells #[.string ⟨#[76, 105, 115, 116]⟩] 22)))
  have V8_24 := Lib.hid (V8_23.out.below (below_alloc (w := w23) (.cells #[.string ⟨#[76, 105, 115, 116]⟩] 22)))
  have T14_24 := Lib.hid (T14_23.out.below (below_alloc (w := w23) (.cells #[.string ⟨#[76, 105, 115, 116]⟩] 22)))
  have V9_24 := Lib.hid (V9_23.out.below (below_alloc (w := w23) (.cells #[.string ⟨#[76, 105, 115, 116]⟩] 22)))
  have T15_24 := Lib.hid (T15_23.out.below (below_alloc (w := w23) (.cells #[.string ⟨#[76, 105, 115, 116]⟩] 22)))
  clear T3_23 T5_23 V6_23 T13_23 V8_23 T14_23 V9_23 T15_23
  have S12_24 : Hid (Ss (w23.alloc (.cells #[.string ⟨#[76, 105, 115, 116]⟩] 22)) (some ⟨w23.heap.size, 0, none⟩) 1 1 [[76, 105, 115, 116]]) := (by have h := ss_lit (w := w23) (t := 22) (cells := #[.string ⟨#[76, 105, 115, 116]⟩]) (n := 1) [[76, 105, 115, 116]] rfl rfl (by omega); exact h)
  have HB25 : Hid (Below w.heap.size w ((w23.alloc (.cells #[.string ⟨#[76, 105, 115, 116]⟩] 22)).alloc (.cells #[.string ⟨#[108, 101, 110]⟩, .slice (some ⟨w23.heap.size, 0, none⟩) 1 1, .string ⟨#[73, 110, 116]⟩] 25))) := nbelow_on HB24.out (below_alloc _)
  have HE25 : Hid (Env ((w23.alloc (.cells #[.string ⟨#[76, 105, 115, 116]⟩] 22)).alloc (.cells #[.string ⟨#[108, 101, 110]⟩, .slice (some ⟨w23.heap.size, 0, none⟩) 1 1, .string ⟨#[73, 110, 116]⟩] 25))) := HE24.out.below (below_alloc _)
  have T3_25 := Lib.hid (T3_24.out.below (below_alloc (w := (w23.alloc (.cells #[.string ⟨#[76, 105, 115, 116]⟩] 22))) (.cells #[.string ⟨#[108, 101, 110]⟩, .slice (some ⟨w23.heap.size, 0, none⟩) 1 1, .string ⟨#[73, 110, 116]⟩] 25)))
  have T5_25 := Lib.hid (T5_24.out.below (below_alloc (w := (w23.alloc (.cells #[.string ⟨#[76, 105, 115, 116]⟩] 22))) (.cells #[.string ⟨#[108, 101, 110]⟩, .slice (some ⟨w23.heap.size, 0, none⟩) 1 1, .string ⟨#[73, 110, 116]⟩] 25)))
  have V6_25 := Lib.hid (V6_24.out.below (below_alloc (w := (w23.alloc (.cells #[.string ⟨#[76, 105, 115, 116]⟩] 22))) (.cells #[.string ⟨#[108, 101, 110]⟩, .slice (some ⟨w23.heap.size, 0, none⟩) 1 1, .string ⟨#[73, 110, 116]⟩] 25)))
  have T13_25 := Lib.hid (T13_24.out.below (below_alloc (w := (w23.alloc (.cells #[.string ⟨#[76, 105, 115, 116]⟩] 22))) (.cells #[.string ⟨#[108, 101, 110]⟩, .slice (some ⟨w23.heap.size, 0, none⟩) 1 1, .string ⟨#[73, 110, 116]⟩] 25)))
  have V8_25 := Lib.hid (V8_24.out.below (below_alloc (w := (w23.alloc (.cells #[.string ⟨#[76, 105, 115, 116]⟩] 22))) (.cells #[.string ⟨#[108, 101, 110]⟩, .slice (some ⟨w23.heap.size, 0, none⟩) 1 1, .string ⟨#[73, 110, 116]⟩] 25)))
  have T14_25 := Lib.hid (T14_24.out.below (below_alloc (w := (w23.alloc (.cells #[.string ⟨#[76, 105, 115, 116]⟩] 22))) (.cells #[.string ⟨#[108, 101, 110]⟩, .slice (some ⟨w23.heap.size, 0, none⟩) 1 1, .string ⟨#[73, 110, 116]⟩] 25)))
  have V9_25 := Lib.hid (V9_24.out.below (below_alloc (w := (w23.alloc (.cells #[.string ⟨#[76, 105, 115, 116]⟩] 22))) (.cells #[.string ⟨#[108, 101, 110]⟩, .slice (some ⟨w23.heap.size, 0, none⟩) 1 1, .string ⟨#[73, 110, 116]⟩] 25)))
  have T15_25 := Lib.hid (T15_24.out.below (below_alloc (w := (w23.alloc (.cells #[.string ⟨#[76, 105, 115, 116]⟩] 22))) (.cells #[.string ⟨#[108, 101, 110]⟩, .slice (some ⟨w23.heap.size, 0, none⟩) 1 1, .string ⟨#[73, 110, 116]⟩] 25)))
  have S12_25 := Lib.hid (S12_24.out.below (below_alloc (w := (w23.alloc (.cells #[.string ⟨#[76, 105, 115, 116]⟩] 22))) (.cells #[.string ⟨#[108, 101, 110]⟩, .slice (some ⟨w23.heap.size, 0, none⟩) 1 1, .string ⟨#[73, 110, 116]⟩] 25)))
  clear T3_24 T5_24 V6_24 T13_24 V8_24 T14_24 V9_24 T15_24 S12_24
  have T17_25 : Hid (Bk 25 ((w23.alloc (.cells #[.string ⟨#[76, 105, 115, 116]⟩] 22)).alloc (.cells #[.string ⟨#[108, 101, 110]⟩, .slice (some ⟨w23.heap.size, 0, none⟩) 1 1, .string ⟨#[73, 110, 116]⟩] 25)) (w23.heap.size + 1) #[.string ⟨#[108, 101, 110]⟩, .slice (some ⟨w23.heap.size, 0, none⟩) 1 1, .string ⟨#[73, 110, 116]⟩]) := Bk.at _ (by simp)
  have HN6 : Hid (1 = n6) := V6_25.out.len
  have b2 := T13_25.out.c 0 (v := .slice A6 n6 c6) rfl
  have t4 : ((n6 : Int) == 1) = true := by rw [← HN6.out]; rfl
  obtain ⟨g6, o6, z6, u6, ea6, hg6, d60, d61, -, hu6⟩ := V6_25.out.at_ (k := 0) (by have := HN6.out; omega)
  have t5 : (u6.toList == [76, 105, 115, 116]) = true := txt_eq_lit (by rw [hu6.out]; rfl)
  have d62 := (show _ from d61); simp only [Nat.zero_mul, Nat.add_zero] at d62 d61
  subst ea6
  have t6 : (0 : Int) < (n6 : Int) := by have := HN6.out; omega
  have HU6 := Lib.hid hu6
  clear hg6 hu6 d60
  have b3 := T15_25.out.c 0 (v := .string x9) rfl
  have b4 := T15_25.out.c 1 (v := .slice A9 n9 c9) rfl
  have b5 := T14_25.out.c 0 (v := .string ⟨#[107]⟩) rfl
  have b6 := T14_25.out.c 1 (v := .slice (some ⟨w13.heap.size + 1, 0, none⟩) 1 1) rfl
  have CH : Calls Tryd.prog 26 #[.agg #[.string x9, .slice A9 n9 c9], .agg #[.string ⟨#[107]⟩, .slice (some ⟨w13.heap.size + 1, 0, none⟩) 1 1]] ((w23.alloc (.cells #[.string ⟨#[76, 105, 115, 116]⟩] 22)).alloc (.cells #[.string ⟨#[108, 101, 110]⟩, .slice (some ⟨w23.heap.size, 0, none⟩) 1 1, .string ⟨#[73, 110, 116]⟩] 25)) fun e w' => e = .returned (.bool true) ∧ Below ((w23.alloc (.cells #[.string ⟨#[76, 105, 115, 116]⟩] 22)).alloc (.cells #[.string ⟨#[108, 101, 110]⟩, .slice (some ⟨w23.heap.size, 0, none⟩) 1 1, .string ⟨#[73, 110, 116]⟩] 25)).heap.size ((w23.alloc (.cells #[.string ⟨#[76, 105, 115, 116]⟩] 22)).alloc (.cells #[.string ⟨#[108, 101, 110]⟩, .slice (some ⟨w23.heap.size, 0, none⟩) 1 1, .string ⟨#[73, 110, 116]⟩] 25)) w' := by
    have hx9 : x9 = ⟨#[107]⟩ := same_txt HX9.out rfl
    have hn9 : n9 = 1 := V9_25.out.len.symm
    have hv9 := V9_25.out
    subst hx9 hn9
    exact samehole_any ⟨#[107]⟩ A9 1 c9 (some ⟨w13.heap.size + 1, 0, none⟩) 1 [⟨[118], tInt⟩] ((w23.alloc (.cells #[.string ⟨#[76, 105, 115, 116]⟩] 22)).alloc (.cells #[.string ⟨#[108, 101, 110]⟩, .slice (some ⟨w23.heap.size, 0, none⟩) 1 1, .string ⟨#[73, 110, 116]⟩] 25)) hv9 V8_25.out
  go_wp2_with fail
  (refine (CH).mono ?_); rintro e w26 ⟨rfl, hb⟩
  have HB26 := Lib.hid (nbelow_on HB25.out hb)
  have HE26 := Lib.hid (HE25.out.below hb)
  have T3_26 := Lib.hid (T3_25.out.below hb)
  have T5_26 := Lib.hid (T5_25.out.below hb)
  have V6_26 := Lib.hid (V6_25.out.below hb)
  have T13_26 := Lib.hid (T13_25.out.below hb)
  have V8_26 := Lib.hid (V8_25.out.below hb)
  have T14_26 := Lib.hid (T14_25.out.below hb)
  have V9_26 := Lib.hid (V9_25.out.below hb)
  have T15_26 := Lib.hid (T15_25.out.below hb)
  have S12_26 := Lib.hid (S12_25.out.below hb)
  have T17_26 := Lib.hid (T17_25.out.below hb)
  clear hb T3_25 T5_25 V6_25 T13_25 V8_25 T14_25 V9_25 T15_25 S12_25 T17_25
  clear CH
  have h0 := T17_26.out.c 0 (v := .string ⟨#[108, 101, 110]⟩) rfl
  have h1 := T17_26.out.c 1 (v := .slice (some ⟨w23.heap.size, 0, none⟩) 1 1) rfl
  have h2 := T17_26.out.c 2 (v := .string ⟨#[73, 110, 116]⟩) rfl
  go_wp2_with fail
  (refine (sym_any ⟨#[108, 101, 110]⟩ ⟨#[73, 110, 116]⟩ (some ⟨w23.heap.size, 0, none⟩) 1 1 [[76, 105, 115, 116]] w26 HE26.out S12_26.out).mono ?_); rintro e w27 ⟨rfl, hb⟩
  have HB27 := Lib.hid (nbelow_on HB26.out hb)
  have HE27 := Lib.hid (HE26.out.below hb)
  have T3_27 := Lib.hid (T3_26.out.below hb)
  have T5_27 := Lib.hid (T5_26.out.below hb)
  have V6_27 := Lib.hid (V6_26.out.below hb)
  have T13_27 := Lib.hid (T13_26.out.below hb)
  have V8_27 := Lib.hid (V8_26.out.below hb)
  have T14_27 := Lib.hid (T14_26.out.below hb)
  have V9_27 := Lib.hid (V9_26.out.below hb)
  have T15_27 := Lib.hid (T15_26.out.below hb)
  have S12_27 := Lib.hid (S12_26.out.below hb)
  have T17_27 := Lib.hid (T17_26.out.below hb)
  clear hb T3_26 T5_26 V6_26 T13_26 V8_26 T14_26 V9_26 T15_26 S12_26 T17_26
  rw [show symI ⟨(ByteArray.data ⟨#[108, 101, 110]⟩).toList, [[76, 105, 115, 116]], (ByteArray.data ⟨#[73, 110, 116]⟩).toList⟩ = 0 from by decide]
  go_wp2_with fail
  (refine (sym_any ⟨#[108, 101, 110]⟩ ⟨#[]⟩ none 0 0 [] w27 HE27.out (Ss.nil _)).mono ?_); rintro e w28 ⟨rfl, hb⟩
  have HB28 := Lib.hid (nbelow_on HB27.out hb)
  have HE28 := Lib.hid (HE27.out.below hb)
  have T3_28 := Lib.hid (T3_27.out.below hb)
  have T5_28 := Lib.hid (T5_27.out.below hb)
  have V6_28 := Lib.hid (V6_27.out.below hb)
  have T13_28 := Lib.hid (T13_27.out.below hb)
  have V8_28 := Lib.hid (V8_27.out.below hb)
  have T14_28 := Lib.hid (T14_27.out.below hb)
  have V9_28 := Lib.hid (V9_27.out.below hb)
  have T15_28 := Lib.hid (T15_27.out.below hb)
  have S12_28 := Lib.hid (S12_27.out.below hb)
  have T17_28 := Lib.hid (T17_27.out.below hb)
  clear hb T3_27 T5_27 V6_27 T13_27 V8_27 T14_27 V9_27 T15_27 S12_27 T17_27
  rw [show symI ⟨(ByteArray.data ⟨#[108, 101, 110]⟩).toList, [], (ByteArray.data ⟨#[]⟩).toList⟩ = 13 from by decide]
  have j0 := T17_28.out.c 0 (v := .string ⟨#[108, 101, 110]⟩) rfl
  have j1 := T17_28.out.c 1 (v := .slice (some ⟨w23.heap.size, 0, none⟩) 1 1) rfl
  have j2 := T17_28.out.c 2 (v := .string ⟨#[73, 110, 116]⟩) rfl
  have ys13 : Ys (w28.alloc (.cells #[.string ⟨#[108, 101, 110]⟩, .slice (some ⟨w23.heap.size, 0, none⟩) 1 1, .string ⟨#[73, 110, 116]⟩] 25)) (some ⟨w28.heap.size, 0, none⟩) 1 1 [⟨(ByteArray.data ⟨#[108, 101, 110]⟩).toList, [[76, 105, 115, 116]], (ByteArray.data ⟨#[73, 110, 116]⟩).toList⟩] := ys_lit S12_28.out (by simp)
  have HB29 : Hid (Below w.heap.size w (w28.alloc (.cells #[.string ⟨#[108, 101, 110]⟩, .slice (some ⟨w23.heap.size, 0, none⟩) 1 1, .string ⟨#[73, 110, 116]⟩] 25))) := nbelow_on HB28.out (below_alloc _)
  have HE29 : Hid (Env (w28.alloc (.cells #[.string ⟨#[108, 101, 110]⟩, .slice (some ⟨w23.heap.size, 0, none⟩) 1 1, .string ⟨#[73, 110, 116]⟩] 25))) := HE28.out.below (below_alloc _)
  have T3_29 := Lib.hid (T3_28.out.below (below_alloc (w := w28) (.cells #[.string ⟨#[108, 101, 110]⟩, .slice (some ⟨w23.heap.size, 0, none⟩) 1 1, .string ⟨#[73, 110, 116]⟩] 25)))
  have T5_29 := Lib.hid (T5_28.out.below (below_alloc (w := w28) (.cells #[.string ⟨#[108, 101, 110]⟩, .slice (some ⟨w23.heap.size, 0, none⟩) 1 1, .string ⟨#[73, 110, 116]⟩] 25)))
  have V6_29 := Lib.hid (V6_28.out.below (below_alloc (w := w28) (.cells #[.string ⟨#[108, 101, 110]⟩, .slice (some ⟨w23.heap.size, 0, none⟩) 1 1, .string ⟨#[73, 110, 116]⟩] 25)))
  have T13_29 := Lib.hid (T13_28.out.below (below_alloc (w := w28) (.cells #[.string ⟨#[108, 101, 110]⟩, .slice (some ⟨w23.heap.size, 0, none⟩) 1 1, .string ⟨#[73, 110, 116]⟩] 25)))
  have V8_29 := Lib.hid (V8_28.out.below (below_alloc (w := w28) (.cells #[.string ⟨#[108, 101, 110]⟩, .slice (some ⟨w23.heap.size, 0, none⟩) 1 1, .string ⟨#[73, 110, 116]⟩] 25)))
  have T14_29 := Lib.hid (T14_28.out.below (below_alloc (w := w28) (.cells #[.string ⟨#[108, 101, 110]⟩, .slice (some ⟨w23.heap.size, 0, none⟩) 1 1, .string ⟨#[73, 110, 116]⟩] 25)))
  have V9_29 := Lib.hid (V9_28.out.below (below_alloc (w := w28) (.cells #[.string ⟨#[108, 101, 110]⟩, .slice (some ⟨w23.heap.size, 0, none⟩) 1 1, .string ⟨#[73, 110, 116]⟩] 25)))
  have T15_29 := Lib.hid (T15_28.out.below (below_alloc (w := w28) (.cells #[.string ⟨#[108, 101, 110]⟩, .slice (some ⟨w23.heap.size, 0, none⟩) 1 1, .string ⟨#[73, 110, 116]⟩] 25)))
  have S12_29 := Lib.hid (S12_28.out.below (below_alloc (w := w28) (.cells #[.string ⟨#[108, 101, 110]⟩, .slice (some ⟨w23.heap.size, 0, none⟩) 1 1, .string ⟨#[73, 110, 116]⟩] 25)))
  have T17_29 := Lib.hid (T17_28.out.below (below_alloc (w := w28) (.cells #[.string ⟨#[108, 101, 110]⟩, .slice (some ⟨w23.heap.size, 0, none⟩) 1 1, .string ⟨#[73, 110, 116]⟩] 25)))
  clear T3_28 T5_28 V6_28 T13_28 V8_28 T14_28 V9_28 T15_28 S12_28 T17_28
  have Y13_29 : Hid (Ys (w28.alloc (.cells #[.string ⟨#[108, 101, 110]⟩, .slice (some ⟨w23.heap.size, 0, none⟩) 1 1, .string ⟨#[73, 110, 116]⟩] 25)) (some ⟨w28.heap.size, 0, none⟩) 1 1 [⟨[108, 101, 110], [[76, 105, 115, 116]], [73, 110, 116]⟩]) := ys13
  clear ys13
  have j3 := T14_29.out.c 0 (v := .string ⟨#[107]⟩) rfl
  have j4 := T14_29.out.c 1 (v := .slice (some ⟨w13.heap.size + 1, 0, none⟩) 1 1) rfl
  have hs13 : Hs ((w28.alloc (.cells #[.string ⟨#[108, 101, 110]⟩, .slice (some ⟨w23.heap.size, 0, none⟩) 1 1, .string ⟨#[73, 110, 116]⟩] 25)).alloc (.cells #[.string ⟨#[107]⟩, .slice (some ⟨w13.heap.size + 1, 0, none⟩) 1 1] 44)) (some ⟨w28.heap.size + 1, 0, none⟩) 1 1 [⟨(ByteArray.data ⟨#[107]⟩).toList, [⟨[118], tInt⟩]⟩] := hs_lit V8_29.out (by simp)
  have HB30 : Hid (Below w.heap.size w ((w28.alloc (.cells #[.string ⟨#[108, 101, 110]⟩, .slice (some ⟨w23.heap.size, 0, none⟩) 1 1, .string ⟨#[73, 110, 116]⟩] 25)).alloc (.cells #[.string ⟨#[107]⟩, .slice (some ⟨w13.heap.size + 1, 0, none⟩) 1 1] 44))) := nbelow_on HB29.out (below_alloc _)
  have HE30 : Hid (Env ((w28.alloc (.cells #[.string ⟨#[108, 101, 110]⟩, .slice (some ⟨w23.heap.size, 0, none⟩) 1 1, .string ⟨#[73, 110, 116]⟩] 25)).alloc (.cells #[.string ⟨#[107]⟩, .slice (some ⟨w13.heap.size + 1, 0, none⟩) 1 1] 44))) := HE29.out.below (below_alloc _)
  have T3_30 := Lib.hid (T3_29.out.below (below_alloc (w := (w28.alloc (.cells #[.string ⟨#[108, 101, 110]⟩, .slice (some ⟨w23.heap.size, 0, none⟩) 1 1, .string ⟨#[73, 110, 116]⟩] 25))) (.cells #[.string ⟨#[107]⟩, .slice (some ⟨w13.heap.size + 1, 0, none⟩) 1 1] 44)))
  have T5_30 := Lib.hid (T5_29.out.below (below_alloc (w := (w28.alloc (.cells #[.string ⟨#[108, 101, 110]⟩, .slice (some ⟨w23.heap.size, 0, none⟩) 1 1, .string ⟨#[73, 110, 116]⟩] 25))) (.cells #[.string ⟨#[107]⟩, .slice (some ⟨w13.heap.size + 1, 0, none⟩) 1 1] 44)))
  have V6_30 := Lib.hid (V6_29.out.below (below_alloc (w := (w28.alloc (.cells #[.string ⟨#[108, 101, 110]⟩, .slice (some ⟨w23.heap.size, 0, none⟩) 1 1, .string ⟨#[73, 110, 116]⟩] 25))) (.cells #[.string ⟨#[107]⟩, .slice (some ⟨w13.heap.size + 1, 0, none⟩) 1 1] 44)))
  have T13_30 := Lib.hid (T13_29.out.below (below_alloc (w := (w28.alloc (.cells #[.string ⟨#[108, 101, 110]⟩, .slice (some ⟨w23.heap.size, 0, none⟩) 1 1, .string ⟨#[73, 110, 116]⟩] 25))) (.cells #[.string ⟨#[107]⟩, .slice (some ⟨w13.heap.size + 1, 0, none⟩) 1 1] 44)))
  have V8_30 := Lib.hid (V8_29.out.below (below_alloc (w := (w28.alloc (.cells #[.string ⟨#[108, 101, 110]⟩, .slice (some ⟨w23.heap.size, 0, none⟩) 1 1, .string ⟨#[73, 110, 116]⟩] 25))) (.cells #[.string ⟨#[107]⟩, .slice (some ⟨w13.heap.size + 1, 0, none⟩) 1 1] 44)))
  have T14_30 := Lib.hid (T14_29.out.below (below_alloc (w := (w28.alloc (.cells #[.string ⟨#[108, 101, 110]⟩, .slice (some ⟨w23.heap.size, 0, none⟩) 1 1, .string ⟨#[73, 110, 116]⟩] 25))) (.cells #[.string ⟨#[107]⟩, .slice (some ⟨w13.heap.size + 1, 0, none⟩) 1 1] 44)))
  have V9_30 := Lib.hid (V9_29.out.below (below_alloc (w := (w28.alloc (.cells #[.string ⟨#[108, 101, 110]⟩, .slice (some ⟨w23.heap.size, 0, none⟩) 1 1, .string ⟨#[73, 110, 116]⟩] 25))) (.cells #[.string ⟨#[107]⟩, .slice (some ⟨w13.heap.size + 1, 0, none⟩) 1 1] 44)))
  have T15_30 := Lib.hid (T15_29.out.below (below_alloc (w := (w28.alloc (.cells #[.string ⟨#[108, 101, 110]⟩, .slice (some ⟨w23.heap.size, 0, none⟩) 1 1, .string ⟨#[73, 110, 116]⟩] 25))) (.cells #[.string ⟨#[107]⟩, .slice (some ⟨w13.heap.size + 1, 0, none⟩) 1 1] 44)))
  have S12_30 := Lib.hid (S12_29.out.below (below_alloc (w := (w28.alloc (.cells #[.string ⟨#[108, 101, 110]⟩, .slice (some ⟨w23.heap.size, 0, none⟩) 1 1, .string ⟨#[73, 110, 116]⟩] 25))) (.cells #[.string ⟨#[107]⟩, .slice (some ⟨w13.heap.size + 1, 0, none⟩) 1 1] 44)))
  have T17_30 := Lib.hid (T17_29.out.below (below_alloc (w := (w28.alloc (.cells #[.string ⟨#[108, 101, 110]⟩, .slice (some ⟨w23.heap.size, 0, none⟩) 1 1, .string ⟨#[73, 110, 116]⟩] 25))) (.cells #[.string ⟨#[107]⟩, .slice (some ⟨w13.heap.size + 1, 0, none⟩) 1 1] 44)))
  have Y13_30 := Lib.hid (Y13_29.out.below (below_alloc (w := (w28.alloc (.cells #[.string ⟨#[108, 101, 110]⟩, .slice (some ⟨w23.heap.size, 0, none⟩) 1 1, .string ⟨#[73, 110, 116]⟩] 25))) (.cells #[.string ⟨#[107]⟩, .slice (some ⟨w13.heap.size + 1, 0, none⟩) 1 1] 44)))
  clear T3_29 T5_29 V6_29 T13_29 V8_29 T14_29 V9_29 T15_29 S12_29 T17_29 Y13_29
  have H13_30 : Hid (Hs ((w28.alloc (.cells #[.string ⟨#[108, 101, 110]⟩, .slice (some ⟨w23.heap.size, 0, none⟩) 1 1, .string ⟨#[73, 110, 116]⟩] 25)).alloc (.cells #[.string ⟨#[107]⟩, .slice (some ⟨w13.heap.size + 1, 0, none⟩) 1 1] 44)) (some ⟨w28.heap.size + 1, 0, none⟩) 1 1 [⟨[107], [⟨[118], tInt⟩]⟩]) := hs13
  clear hs13
  go_wp2_with fail
  (refine (env_any none 0 0 (some ⟨w28.heap.size, 0, none⟩) 1 1 (some ⟨w28.heap.size + 1, 0, none⟩) 1 1 ⟨[], [⟨[108, 101, 110], [[76, 105, 115, 116]], [73, 110, 116]⟩], [⟨[107], [⟨[118], tInt⟩]⟩]⟩ ((w28.alloc (.cells #[.string ⟨#[108, 101, 110]⟩, .slice (some ⟨w23.heap.size, 0, none⟩) 1 1, .string ⟨#[73, 110, 116]⟩] 25)).alloc (.cells #[.string ⟨#[107]⟩, .slice (some ⟨w13.heap.size + 1, 0, none⟩) 1 1] 44)) HE30.out lit_fits (Vs.nil _) Y13_30.out H13_30.out).mono ?_); rintro e w31 ⟨rfl, hb⟩
  have HB31 := Lib.hid (nbelow_on HB30.out hb)
  have HE31 := Lib.hid (HE30.out.below hb)
  have T3_31 := Lib.hid (T3_30.out.below hb)
  have T5_31 := Lib.hid (T5_30.out.below hb)
  have V6_31 := Lib.hid (V6_30.out.below hb)
  have T13_31 := Lib.hid (T13_30.out.below hb)
  have V8_31 := Lib.hid (V8_30.out.below hb)
  have T14_31 := Lib.hid (T14_30.out.below hb)
  have V9_31 := Lib.hid (V9_30.out.below hb)
  have T15_31 := Lib.hid (T15_30.out.below hb)
  have S12_31 := Lib.hid (S12_30.out.below hb)
  have T17_31 := Lib.hid (T17_30.out.below hb)
  have Y13_31 := Lib.hid (Y13_30.out.below hb)
  have H13_31 := Lib.hid (H13_30.out.below hb)
  clear hb T3_30 T5_30 V6_30 T13_30 V8_30 T14_30 V9_30 T15_30 S12_30 T17_30 Y13_30 H13_30
  rw [show envI ⟨[], [⟨[108, 101, 110], [[76, 105, 115, 116]], [73, 110, 116]⟩], [⟨[107], [⟨[118], tInt⟩]⟩]⟩ = 0 from by decide]
  go_wp2_with fail
  go_ret
  exact ⟨rfl, HB31.out⟩
end Go.Proofs.YtegognbnphpigaaDoor
