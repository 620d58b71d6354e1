/-
  THE STATEMENT BigTexts IS PROVED: for every number and every text (the listed library tables holding what the program's text lays, tied by the card), the law returns true and its arguments read as before.
-/
import Derived.Test.YtfenmogbellhdaaDoorCards
import Derived.Test.YtfenmogbellhdaaDoorTie
import Derived.Test.YtfenmogbellhdaaDoorBigLaid
import Derived.Test.YtfenmogbellhdaaDoorR2Q
namespace Go.Proofs.YtfenmogbellhdaaDoor.bigTexts
open Go.ChangeShapes Go.WideShapes Go.ChangeAt Go.RowKit
open Go.ChangeMaps (open_string shut_string)


set_option maxRecDepth 100000 in
set_option maxHeartbeats 8000000 in
theorem walk (s1 : Bool) (A1 : Option Addr) (n1 c1 : Nat) (x1 : List Int) (s : ByteArray) (w : World) (h1 : Sl w A1 n1 c1 x1) (htab : Tab w) :
    Calls Tryd.prog 10 #[.agg #[.bool s1, .slice A1 n1 c1], .string s] w fun e w' => e = .returned (.bool true) ∧ Below w.heap.size w w' := by
  have S1 := Lib.hid h1
  have TB := Lib.hid htab
  clear h1 htab
  by_cases g1 : 300 < n1
  · have b1 : decide ((300 : Int) < (n1 : Int)) = true := decide_eq_true (by omega)
    have BW := Lib.hid (Below.refl w.heap.size w)
    go_enter Tryd.func10, Tryd.ntmps10
    go_upto_region 1 with fail
    have S1 := Lib.hid (S1.out.alloc (.cells #[.bool s1, .slice A1 n1 c1] 35))
    have TB := Lib.hid (tab_on TB.out ((Below.refl _ _).alloc (Nat.le_refl _) (.cells #[.bool s1, .slice A1 n1 c1] 35)))
    have BW := Lib.hid (BW.out.alloc BW.out.size (.cells #[.bool s1, .slice A1 n1 c1] 35))
    have X1 := Lib.hid (Bk.new 35 w #[.bool s1, .slice A1 n1 c1])
    generalize (w.alloc (.cells #[.bool s1, .slice A1 n1 c1] 35)) = W0 at *
    have e0 : W0.cell? ⟨w.heap.size, 0, none⟩ = some (.bool s1) := X1.out.c 0 rfl
    have e1 : W0.cell? ⟨w.heap.size, 1, none⟩ = some (.slice A1 n1 c1) := X1.out.c 1 rfl
    go_wp2_with fail
    ((with_reducible refine (long_any s1 A1 n1 c1 300 _).mono ?_); rintro e v1 ⟨rfl, hb⟩)
    rw [b1]
    clear e0 e1
    have S1 := Lib.hid (S1.out.below hb)
    have TB := Lib.hid (tab_on TB.out hb)
    have BW := Lib.hid (below_on BW.out hb)
    have X1 := Lib.hid (X1.out.below hb)
    clear hb
    have e0 : v1.cell? ⟨w.heap.size, 0, none⟩ = some (.bool s1) := X1.out.c 0 rfl
    have e1 : v1.cell? ⟨w.heap.size, 1, none⟩ = some (.slice A1 n1 c1) := X1.out.c 1 rfl
    go_wp2_with fail
    ((with_reducible refine (awake_any _ TB.out).mono ?_); rintro e v9 ⟨rfl, hb⟩)
    clear e0 e1
    have S1 := Lib.hid (S1.out.below hb)
    have TB := Lib.hid (tab_on TB.out hb)
    have BW := Lib.hid (below_on BW.out hb)
    have X1 := Lib.hid (X1.out.below hb)
    clear hb
    go_wp2_with fail
    go_ret
    exact ⟨rfl, BW.out⟩
  · by_cases g2 : 1000 < s.size
    · have b1 : decide ((300 : Int) < (n1 : Int)) = false := decide_eq_false (by omega)
      have b2 : (1000 : Int) < (s.size : Int) := by omega
      have BW := Lib.hid (Below.refl w.heap.size w)
      go_enter Tryd.func10, Tryd.ntmps10
      go_upto_region 1 with fail
      have S1 := Lib.hid (S1.out.alloc (.cells #[.bool s1, .slice A1 n1 c1] 35))
      have TB := Lib.hid (tab_on TB.out ((Below.refl _ _).alloc (Nat.le_refl _) (.cells #[.bool s1, .slice A1 n1 c1] 35)))
      have BW := Lib.hid (BW.out.alloc BW.out.size (.cells #[.bool s1, .slice A1 n1 c1] 35))
      have X1 := Lib.hid (Bk.new 35 w #[.bool s1, .slice A1 n1 c1])
      generalize (w.alloc (.cells #[.bool s1, .slice A1 n1 c1] 35)) = W0 at *
      have e0 : W0.cell? ⟨w.heap.size, 0, none⟩ = some (.bool s1) := X1.out.c 0 rfl
      have e1 : W0.cell? ⟨w.heap.size, 1, none⟩ = some (.slice A1 n1 c1) := X1.out.c 1 rfl
      go_wp2_with fail
      ((with_reducible refine (long_any s1 A1 n1 c1 300 _).mono ?_); rintro e v1 ⟨rfl, hb⟩)
      rw [b1]
      clear e0 e1
      have S1 := Lib.hid (S1.out.below hb)
      have TB := Lib.hid (tab_on TB.out hb)
      have BW := Lib.hid (below_on BW.out hb)
      have X1 := Lib.hid (X1.out.below hb)
      clear hb
      have e0 : v1.cell? ⟨w.heap.size, 0, none⟩ = some (.bool s1) := X1.out.c 0 rfl
      have e1 : v1.cell? ⟨w.heap.size, 1, none⟩ = some (.slice A1 n1 c1) := X1.out.c 1 rfl
      go_wp2_with fail
      ((with_reducible refine (awake_any _ TB.out).mono ?_); rintro e v9 ⟨rfl, hb⟩)
      clear e0 e1
      have S1 := Lib.hid (S1.out.below hb)
      have TB := Lib.hid (tab_on TB.out hb)
      have BW := Lib.hid (below_on BW.out hb)
      have X1 := Lib.hid (X1.out.below hb)
      clear hb
      go_wp2_with fail
      go_ret
      exact ⟨rfl, BW.out⟩
    · have b1 : decide ((300 : Int) < (n1 : Int)) = false := decide_eq_false (by omega)
      have b2 : ¬ (1000 : Int) < (s.size : Int) := by omega
      have BW := Lib.hid (Below.refl w.heap.size w)
      go_enter Tryd.func10, Tryd.ntmps10
      go_upto_region 1 with fail
      have S1 := Lib.hid (S1.out.alloc (.cells #[.bool s1, .slice A1 n1 c1] 35))
      have TB := Lib.hid (tab_on TB.out ((Below.refl _ _).alloc (Nat.le_refl _) (.cells #[.bool s1, .slice A1 n1 c1] 35)))
      have BW := Lib.hid (BW.out.alloc BW.out.size (.cells #[.bool s1, .slice A1 n1 c1] 35))
      have X1 := Lib.hid (Bk.new 35 w #[.bool s1, .slice A1 n1 c1])
      generalize (w.alloc (.cells #[.bool s1, .slice A1 n1 c1] 35)) = W0 at *
      have e0 : W0.cell? ⟨w.heap.size, 0, none⟩ = some (.bool s1) := X1.out.c 0 rfl
      have e1 : W0.cell? ⟨w.heap.size, 1, none⟩ = some (.slice A1 n1 c1) := X1.out.c 1 rfl
      go_wp2_with fail
      ((with_reducible refine (long_any s1 A1 n1 c1 300 _).mono ?_); rintro e v1 ⟨rfl, hb⟩)
      rw [b1]
      clear e0 e1
      have S1 := Lib.hid (S1.out.below hb)
      have TB := Lib.hid (tab_on TB.out hb)
      have BW := Lib.hid (below_on BW.out hb)
      have X1 := Lib.hid (X1.out.below hb)
      clear hb
      have e0 : v1.cell? ⟨w.heap.size, 0, none⟩ = some (.bool s1) := X1.out.c 0 rfl
      have e1 : v1.cell? ⟨w.heap.size, 1, none⟩ = some (.slice A1 n1 c1) := X1.out.c 1 rfl
      go_wp2_with fail
      ((with_reducible refine (parse_big s _ (by omega) TB.out).mono ?_); rintro e u1 ⟨z1, ok1, T1, k1, r1, rfl, hs, hp1, hb⟩)
      clear e0 e1
      have S1 := Lib.hid (S1.out.below hb)
      have TB := Lib.hid (tab_on TB.out hb)
      have BW := Lib.hid (below_on BW.out hb)
      have X1 := Lib.hid (X1.out.below hb)
      clear hb
      have Q1 := Lib.hid hs
      have P1 := Lib.hid hp1
      clear hs hp1
      have e0 : u1.cell? ⟨w.heap.size, 0, none⟩ = some (.bool s1) := X1.out.c 0 rfl
      have e1 : u1.cell? ⟨w.heap.size, 1, none⟩ = some (.slice A1 n1 c1) := X1.out.c 1 rfl
      go_upto_region 4 with fail
      clear e0 e1
      have ln1 := X1.out.lt
      have S1 := Lib.hid (S1.out.alloc (.cells #[.bool (nOf (z1)), .slice T1 k1 r1] 35))
      have TB := Lib.hid (tab_on TB.out ((Below.refl _ _).alloc (Nat.le_refl _) (.cells #[.bool (nOf (z1)), .slice T1 k1 r1] 35)))
      have BW := Lib.hid (BW.out.alloc BW.out.size (.cells #[.bool (nOf (z1)), .slice T1 k1 r1] 35))
      have X1 := Lib.hid (X1.out.alloc (.cells #[.bool (nOf (z1)), .slice T1 k1 r1] 35))
      have Q1 := Lib.hid (Q1.out.alloc (.cells #[.bool (nOf (z1)), .slice T1 k1 r1] 35))
      have Y1 := Lib.hid (Bk.new 35 u1 #[.bool (nOf (z1)), .slice T1 k1 r1])
      generalize (u1.alloc (.cells #[.bool (nOf (z1)), .slice T1 k1 r1] 35)) = V1 at *
      have e0 : V1.cell? ⟨w.heap.size, 0, none⟩ = some (.bool s1) := X1.out.c 0 rfl
      have e1 : V1.cell? ⟨w.heap.size, 1, none⟩ = some (.slice A1 n1 c1) := X1.out.c 1 rfl
      go_wp2_with fail
      ((with_reducible refine (r2parse_any s _ (by omega)).mono ?_); rintro e u2 hpp)
      obtain ⟨z2, ok2, T2, k2, r2, rfl, hs, hp2, hb⟩ := hpp
      obtain ⟨rfl, rfl⟩ := PSpec.same P1.out hp2
      clear hp2
      clear e0 e1
      have S1 := Lib.hid (S1.out.below hb)
      have TB := Lib.hid (tab_on TB.out hb)
      have BW := Lib.hid (below_on BW.out hb)
      have X1 := Lib.hid (X1.out.below hb)
      have Q1 := Lib.hid (Q1.out.below hb)
      have Y1 := Lib.hid (Y1.out.below hb)
      clear hb
      have Q2 := Lib.hid hs
      clear hs
      have e0 : u2.cell? ⟨w.heap.size, 0, none⟩ = some (.bool s1) := X1.out.c 0 rfl
      have e1 : u2.cell? ⟨w.heap.size, 1, none⟩ = some (.slice A1 n1 c1) := X1.out.c 1 rfl
      go_upto_region 5 with fail
      clear e0 e1
      have ln2 := X1.out.lt
      have ln3 := Y1.out.lt
      have S1 := Lib.hid (S1.out.alloc (.cells #[.bool (nOf (z1)), .slice T2 k2 r2] 35))
      have TB := Lib.hid (tab_on TB.out ((Below.refl _ _).alloc (Nat.le_refl _) (.cells #[.bool (nOf (z1)), .slice T2 k2 r2] 35)))
      have BW := Lib.hid (BW.out.alloc BW.out.size (.cells #[.bool (nOf (z1)), .slice T2 k2 r2] 35))
      have X1 := Lib.hid (X1.out.alloc (.cells #[.bool (nOf (z1)), .slice T2 k2 r2] 35))
      have Q1 := Lib.hid (Q1.out.alloc (.cells #[.bool (nOf (z1)), .slice T2 k2 r2] 35))
      have Y1 := Lib.hid (Y1.out.alloc (.cells #[.bool (nOf (z1)), .slice T2 k2 r2] 35))
      have Q2 := Lib.hid (Q2.out.alloc (.cells #[.bool (nOf (z1)), .slice T2 k2 r2] 35))
      have Y2 := Lib.hid (Bk.new 35 u2 #[.bool (nOf (z1)), .slice T2 k2 r2])
      generalize (u2.alloc (.cells #[.bool (nOf (z1)), .slice T2 k2 r2] 35)) = V2 at *
      obtain ⟨tb, htb⟩ : ∃ tb : ByteArray, (⟨(Lib.itoa (zOf s1 x1)).toArray⟩ : ByteArray) = tb := ⟨_, rfl⟩
      have HTX := Lib.hid htb
      clear htb
      have bb : (ok1 == ok1) = true := beq_self_eq_true _
      have e0 : V2.cell? ⟨w.heap.size, 0, none⟩ = some (.bool s1) := X1.out.c 0 rfl
      have e1 : V2.cell? ⟨w.heap.size, 1, none⟩ = some (.slice A1 n1 c1) := X1.out.c 1 rfl
      have e2 : V2.cell? ⟨u1.heap.size, 0, none⟩ = some (.bool (nOf (z1))) := Y1.out.c 0 rfl
      have e3 : V2.cell? ⟨u1.heap.size, 1, none⟩ = some (.slice T1 k1 r1) := Y1.out.c 1 rfl
      have e4 : V2.cell? ⟨u2.heap.size, 0, none⟩ = some (.bool (nOf (z1))) := Y2.out.c 0 rfl
      have e5 : V2.cell? ⟨u2.heap.size, 1, none⟩ = some (.slice T2 k2 r2) := Y2.out.c 1 rfl
      go_region_held3 (fun w' => w'.cell? ⟨w.heap.size, 0, none⟩ = some (.bool s1) ∧ w'.cell? ⟨w.heap.size, 1, none⟩ = some (.slice A1 n1 c1) ∧ w'.cell? ⟨u1.heap.size, 0, none⟩ = some (.bool (nOf (z1))) ∧ w'.cell? ⟨u1.heap.size, 1, none⟩ = some (.slice T1 k1 r1) ∧ w'.cell? ⟨u2.heap.size, 0, none⟩ = some (.bool (nOf (z1))) ∧ w'.cell? ⟨u2.heap.size, 1, none⟩ = some (.slice T2 k2 r2)) (go_keep)
        (first | (go_at_call 40; (with_reducible refine (text_big s1 A1 n1 c1 x1 _ (by first | exact S1.out | exact S1.out.drew) (by first | exact TB.out | exact tab_on TB.out (Below.refl _ _).drew)).mono ?_); rintro e a1 ⟨rfl, hb⟩; rw [HTX.out]; have BB1 := Lib.hid (show Below V2.heap.size V2 a1 from (by first | exact hb | exact (Below.refl _ _).drew.trans (hb.mono (Nat.le_refl _)))); have f0 : a1.cell? ⟨w.heap.size, 0, none⟩ = some (.bool s1) := (X1.out.below BB1.out).c 0 rfl; have f1 : a1.cell? ⟨w.heap.size, 1, none⟩ = some (.slice A1 n1 c1) := (X1.out.below BB1.out).c 1 rfl; have f2 : a1.cell? ⟨u1.heap.size, 0, none⟩ = some (.bool (nOf (z1))) := (Y1.out.below BB1.out).c 0 rfl; have f3 : a1.cell? ⟨u1.heap.size, 1, none⟩ = some (.slice T1 k1 r1) := (Y1.out.below BB1.out).c 1 rfl; have f4 : a1.cell? ⟨u2.heap.size, 0, none⟩ = some (.bool (nOf (z1))) := (Y2.out.below BB1.out).c 0 rfl; have f5 : a1.cell? ⟨u2.heap.size, 1, none⟩ = some (.slice T2 k2 r2) := (Y2.out.below BB1.out).c 1 rfl; clear hb) | (go_at_call 41; (with_reducible refine (r2text_any s1 A1 n1 c1 x1 _ (S1.out.below BB1.out)).mono ?_); rintro e a2 ⟨rfl, hb⟩; rw [HTX.out]; have BB2 := Lib.hid (below_up BB1.out hb); have f0 : a2.cell? ⟨w.heap.size, 0, none⟩ = some (.bool s1) := (X1.out.below BB2.out).c 0 rfl; have f1 : a2.cell? ⟨w.heap.size, 1, none⟩ = some (.slice A1 n1 c1) := (X1.out.below BB2.out).c 1 rfl; have f2 : a2.cell? ⟨u1.heap.size, 0, none⟩ = some (.bool (nOf (z1))) := (Y1.out.below BB2.out).c 0 rfl; have f3 : a2.cell? ⟨u1.heap.size, 1, none⟩ = some (.slice T1 k1 r1) := (Y1.out.below BB2.out).c 1 rfl; have f4 : a2.cell? ⟨u2.heap.size, 0, none⟩ = some (.bool (nOf (z1))) := (Y2.out.below BB2.out).c 0 rfl; have f5 : a2.cell? ⟨u2.heap.size, 1, none⟩ = some (.slice T2 k2 r2) := (Y2.out.below BB2.out).c 1 rfl; clear hb) | (go_at_call 35; (with_reducible refine (same_ok _ _ T1 T2 k1 r1 k2 r2 _ _ _ (Q1.out.below BB2.out) (Q2.out.below BB2.out) rfl rfl).mono ?_); rintro e a3 ⟨rfl, hb⟩; have BB3 := Lib.hid (below_up BB2.out hb); have f0 : a3.cell? ⟨w.heap.size, 0, none⟩ = some (.bool s1) := (X1.out.below BB3.out).c 0 rfl; have f1 : a3.cell? ⟨w.heap.size, 1, none⟩ = some (.slice A1 n1 c1) := (X1.out.below BB3.out).c 1 rfl; have f2 : a3.cell? ⟨u1.heap.size, 0, none⟩ = some (.bool (nOf (z1))) := (Y1.out.below BB3.out).c 0 rfl; have f3 : a3.cell? ⟨u1.heap.size, 1, none⟩ = some (.slice T1 k1 r1) := (Y1.out.below BB3.out).c 1 rfl; have f4 : a3.cell? ⟨u2.heap.size, 0, none⟩ = some (.bool (nOf (z1))) := (Y2.out.below BB3.out).c 0 rfl; have f5 : a3.cell? ⟨u2.heap.size, 1, none⟩ = some (.slice T2 k2 r2) := (Y2.out.below BB3.out).c 1 rfl; clear hb) | (go_at_call 32; (with_reducible refine (awake_any _ (tab_on TB.out BB3.out)).mono ?_); rintro e a4 ⟨rfl, hb⟩; have BB4 := Lib.hid (below_up BB3.out hb); have f0 : a4.cell? ⟨w.heap.size, 0, none⟩ = some (.bool s1) := (X1.out.below BB4.out).c 0 rfl; have f1 : a4.cell? ⟨w.heap.size, 1, none⟩ = some (.slice A1 n1 c1) := (X1.out.below BB4.out).c 1 rfl; have f2 : a4.cell? ⟨u1.heap.size, 0, none⟩ = some (.bool (nOf (z1))) := (Y1.out.below BB4.out).c 0 rfl; have f3 : a4.cell? ⟨u1.heap.size, 1, none⟩ = some (.slice T1 k1 r1) := (Y1.out.below BB4.out).c 1 rfl; have f4 : a4.cell? ⟨u2.heap.size, 0, none⟩ = some (.bool (nOf (z1))) := (Y2.out.below BB4.out).c 0 rfl; have f5 : a4.cell? ⟨u2.heap.size, 1, none⟩ = some (.slice T2 k2 r2) := (Y2.out.below BB4.out).c 1 rfl; clear hb))
      clear e0 e1 e2 e3 e4 e5
      try clear f0 f1 f2 f3 f4 f5
      have S1 := Lib.hid (S1.out.below BB4.out)
      have TB := Lib.hid (tab_on TB.out BB4.out)
      have BW := Lib.hid (below_on BW.out BB4.out)
      have X1 := Lib.hid (X1.out.below BB4.out)
      have Q1 := Lib.hid (Q1.out.below BB4.out)
      have Y1 := Lib.hid (Y1.out.below BB4.out)
      have Q2 := Lib.hid (Q2.out.below BB4.out)
      have Y2 := Lib.hid (Y2.out.below BB4.out)
      go_wp2_with fail
      go_ret
      exact ⟨rfl, BW.out⟩

set_option maxRecDepth 100000 in
theorem contract (H : Type) (enc : TypeId × Value → H) (W : World) (base : Nat) (args : Array Value) (ds gs : List (DataW H)) (before : List MemPlace)
    (hval : ∀ (j : Nat) t v, Tryd.f10.params[j]? = some t → args[j]? = some v → Value.okWide Tryd.prog W .any base t v)
    (hW : DataW.Whole enc Tryd.prog Tryd.f10.params.toList Rows.bigTextsSpec.vars false W args.toList ds gs before) (hL : laidMetH Tryd.prog Rows.bigTextsRow.laid W) :
    Calls Tryd.prog 10 args W fun e W' => ∃ v, e = .returned v ∧ Rows.bigTextsSpec.post enc Tryd.prog Tryd.f10 false true false false W args v W' := by
  have hW' := hW
  obtain ⟨p, q, hA0, hV, rfl, hfz, hnd⟩ := hW
  have hA : DataW.TrodAll enc Tryd.prog W 0 (fun _ => true) true Tryd.f10.params.toList args.toList ds p := hA0
  have hlt : ∀ x ∈ p, x.block < W.heap.size := fun x hx => hW'.lt x (by simp [hx])
  have hAll := hA
  rw [Tryd.params10] at hA hval
  obtain ⟨v0, vs0, d0, ds0, p0, q0, hargs, rfl, rfl, h0, r0⟩ := trodAll_cons hA
  obtain ⟨v1, vs1, d1, ds1, p1, q1, rfl, rfl, rfl, h1, r1⟩ := trodAll_cons r0
  obtain ⟨rfl, rfl, rfl⟩ := trodAll_nil r1
  obtain rfl : args = #[v0, v1] := by cases args; simp_all
  obtain ⟨rfl, rfl⟩ := trodVars_none hV
  obtain ⟨s1, A1, n1, c1, x1, rfl, g1⟩ := open_big (hval 0 35 v0 rfl rfl) h0
  obtain ⟨t2, rfl, _, _, g2⟩ := open_string Tryd.underlying9 (hval 1 9 v1 rfl rfl) h1
  refine (walk s1 A1 n1 c1 x1 t2 W g1 (tab_of_laid hL)).mono fun e W' ⟨he, hg⟩ => ?_
  subst he
  refine ⟨_, rfl, _, _, _, [], _, [], hW', trodAll_mk1 (shut_bool Tryd.underlying4 _), trodAll_below hg (fun t ht => ?_) hAll hlt, rfl, hg.frame _, fun h => by cases h⟩
  rw [Tryd.params10] at ht
  simp only [List.mem_cons, List.not_mem_nil, or_false] at ht
  rcases ht with rfl | rfl
  · exact read_big
  · exact read_string

set_option maxRecDepth 100000 in
theorem reads (os : Os) {H : Type} (enc : TypeId × Value → H) : ∃ places, DataW.whole enc Tryd.prog ((World.doorLaid Tryd.prog 24 os).forCall (fun _ _ => 0) ⟨#[], #[Value.agg #[.bool false, .slice none 0 0], Value.string ByteArray.empty], []⟩).memory Tryd.f10.params.toList Rows.bigTextsSpec.vars false #[Value.agg #[.bool false, .slice none 0 0], Value.string ByteArray.empty].toList 8 = some ([.agg [.lit (.bool false), .nil], .lit (.string [])], [], places) :=
  ⟨[], by kernel_rfl⟩

set_option maxRecDepth 100000 in
theorem lifted (os : Os) (started : os.Started) (H : Type) (enc : TypeId × Value → H) (F : Stop.Interp) :
    ReturnsInHanded {} Tryd.checked os 10 .any ((OpenSpec.ofChange Rows.bigTextsSpec).preRow enc Tryd.prog Tryd.f10 Rows.bigTextsRow.domain false Rows.bigTextsRow.laid) (((OpenSpec.ofChange Rows.bigTextsSpec).at F).post enc Tryd.prog Tryd.f10 false true false false) := by
  obtain ⟨places, hx⟩ := reads os enc
  refine returnsInHanded_of_row (C := Tryd.checked) (s := OpenSpec.ofChange Rows.bigTextsSpec) own started (by kernel_rfl) Tryd.func10
    (witness_row_at (enc := enc) (C := Tryd.checked) false (World.doorLaid Tryd.prog 24 os) #[Value.agg #[.bool false, .slice none 0 0], Value.string ByteArray.empty] rfl (by kernel_rfl) (by kernel_rfl) (by kernel_rfl)
      (OpenSpec.preRow_of_cond 8 hx (by kernel_rfl) (fun k hk => by cases hk) (by kernel_rfl) (laid_met os _))) ?_
  intro W base args ds gs before hval hW _ _ _ hL _ _
  exact contract H enc W base args ds gs before hval hW hL

theorem said : Rows.BigTextsSaid :=
  OpenClaim.holds_of_cond 10 Tryd.f10 rfl rfl rfl rfl rfl rfl rfl ⟨rfl, rfl, rfl, rfl, rfl⟩ rfl rfl rfl rfl rfl (by kernel_rfl) Tryd.func10 (by kernel_rfl)
    (of_decide_eq_true (by kernel_rfl)) (by unfold Func.isWrapper; first | (rw [if_pos (by decide +kernel)]; kernel_rfl) | (rw [if_neg (by decide +kernel)]; exact ⟨rfl, rfl⟩))
    (fun os started H enc _ F => by rw [OpenClaim.pre_eq_preRow]; exact lifted os started H enc F)

theorem plain (f : FuncId) (fn : Func) (hf : Tryd.pinned.checked.prog.funcNamed "liquidcheck/liquidchecklaw02.BigTexts" = some f) (hfn : Tryd.pinned.checked.prog.funcs[f]? = some fn) :
    false = Tryd.pinned.checked.prog.looks [] ∧ ∀ (j : Nat) t, fn.params[j]? = some t → Tryd.pinned.checked.prog.wantsStandIn t = false := by
  obtain rfl : f = 10 := Option.some.inj ((show Tryd.prog.funcNamed "liquidcheck/liquidchecklaw02.BigTexts" = some 10 by kernel_rfl).symm.trans hf) |>.symm
  obtain rfl : fn = Tryd.f10 := (Option.some.inj (Tryd.func10.symm.trans hfn)).symm
  refine ⟨by kernel_rfl, fun j t ht => ?_⟩
  rw [Tryd.params10] at ht
  have hm := Array.mem_of_getElem? ht
  simp only [List.mem_toArray, List.mem_cons, List.not_mem_nil, or_false] at hm
  rcases hm with rfl | rfl
  · exact (show Tryd.prog.wantsStandIn 35 = false by kernel_rfl)
  · exact (show Tryd.prog.wantsStandIn 9 = false by kernel_rfl)

theorem card : Rows.BigTextsCardSaid :=
  Claim7.holds_tied_plain_at .later [] _ _ _ _ said (fun _ h => by cases h) (by kernel_rfl) (fun _ h => by cases h) bigTexts_row_tie rfl ⟨rfl, rfl⟩ (by kernel_rfl) rfl plain (by kernel_rfl)
end Go.Proofs.YtfenmogbellhdaaDoor.bigTexts
