/-
  Contracts of rat's shapeOf and same, and of slices.Equal.
-/
import Derived.Test.YtfenmogbellhdaaGreatDoorRatA
namespace Go.Proofs.YtfenmogbellhdaaGreatDoor
open Go.RowKit

theorem shape_any (na : Bool) (A : Option Addr) (n c : Nat) (w : World) :
    Calls Tryz.prog 61 #[.agg #[.bool na, .slice A n c]] w fun e w' => e = .returned (.agg #[.bool na, .int .i64 (n : Int)]) ∧ Below w.heap.size w w' := by
  have BW := Lib.hid (Below.refl w.heap.size w)
  go_enter Tryz.func61, Tryz.ntmps61
  go_upto_region 1 with fail
  have BW := Lib.hid (BW.out.alloc BW.out.size (.cells #[.bool na, .slice A n c] 24))
  have X1 := Lib.hid (Bk.new 24 w #[.bool na, .slice A n c])
  have BW := Lib.hid (BW.out.alloc BW.out.size (.cells #[.bool false, .int .i64 0] 66))
  have X1 := Lib.hid (X1.out.alloc (.cells #[.bool false, .int .i64 0] 66))
  have X2 := Lib.hid (Bk.new 66 (w.alloc (.cells #[.bool na, .slice A n c] 24)) #[.bool false, .int .i64 0])
  rw [alloc_sz] at X2
  generalize ((w.alloc (.cells #[.bool na, .slice A n c] 24)).alloc (.cells #[.bool false, .int .i64 0] 66)) = W0 at *
  have e0 : W0.cell? ⟨w.heap.size, 0, none⟩ = some (.bool na) := X1.out.c 0 rfl
  have e1 : W0.cell? ⟨w.heap.size, 1, none⟩ = some (.slice A n c) := X1.out.c 1 rfl
  have e2 : W0.cell? ⟨w.heap.size + 1, 0, none⟩ = some (.bool false) := X2.out.c 0 rfl
  have e3 : W0.cell? ⟨w.heap.size + 1, 1, none⟩ = some (.int .i64 0) := X2.out.c 1 rfl
  have z4 := X2.out.fz 0
  have z5 := X2.out.fz 1
  go_wp2_with fail
  refine bodyPost_ret (v := .agg #[.bool na, .int .i64 (n : Int)]) (by simp [results, Tryz.results61, go_sem, *]) rfl ⟨rfl, below_set2 BW.out (by omega) _ _⟩

theorem equal_any (A B : Option Addr) (n c d : Nat) (xs ys : List Int) (w : World) (ha : Sl w A n c xs) (hb : Sl w B n d ys) :
    Calls Tryz.prog 62 #[.slice A n c, .slice B n d] w fun e w' => e = .returned (.bool (xs == ys)) ∧ Below w.heap.size w w' := by
  rcases Nat.eq_zero_or_pos n with h0 | h0
  · subst h0
    refine (Tryz.slices_Equal_int_empty A B c 0 d w (by omega)).mono ?_
    rintro e w' ⟨rfl, rfl⟩
    have h1 := List.eq_nil_of_length_eq_zero ha.len
    have h2 := List.eq_nil_of_length_eq_zero hb.len
    subst h1; subst h2
    exact ⟨rfl, Below.refl _ _⟩
  · obtain ⟨g, o, rfl, hg, hc⟩ := ha.cells h0
    obtain ⟨g', o', rfl, hg', hc'⟩ := hb.cells h0
    have l1 := ha.len
    have l2 := hb.len
    have t1 := ha.top
    have t2 := ha.cap
    refine (Tryz.slices_Equal_int g o n c g' o' n d xs ys w (by omega) (by omega) (by omega) (by omega) (fun j hj => hc j (by omega)) (fun j hj => hc' j (by omega))).mono ?_
    rintro e w' ⟨rfl, q, rfl⟩
    rw [List.take_of_length_le (by omega), List.take_of_length_le (by omega)]
    exact ⟨rfl, below_drewN (Below.refl _ _) q⟩

theorem ne_len {xs ys : List Int} (h : xs.length ≠ ys.length) : (xs == ys) = false := by
  simp only [beq_eq_false_iff_ne]; intro e; exact h (by rw [e])
set_option maxHeartbeats 1000000 in
theorem rat_same (na nb : Bool) (A B : Option Addr) (n c m d : Nat) (xs ys : List Int) (w : World) (ha : Sl w A n c xs) (hb : Sl w B m d ys) :
    Calls Tryz.prog 36 #[.agg #[.bool na, .slice A n c], .agg #[.bool nb, .slice B m d]] w fun e w' => e = .returned (.bool (na == nb && xs == ys)) ∧ Below w.heap.size w w' := by
  have S1 := Lib.hid ha
  have S2 := Lib.hid hb
  clear ha hb
  by_cases hs : na = nb
  · subst hs
    by_cases hn : n = m
    · subst hn
      have BW := Lib.hid (Below.refl w.heap.size w)
      go_enter Tryz.func36, Tryz.ntmps36
      go_upto_region 1 with fail
      have S1 := Lib.hid (S1.out.alloc (.cells #[.bool na, .slice A n c] 24))
      have S2 := Lib.hid (S2.out.alloc (.cells #[.bool na, .slice A n c] 24))
      have BW := Lib.hid (BW.out.alloc BW.out.size (.cells #[.bool na, .slice A n c] 24))
      have X1 := Lib.hid (Bk.new 24 w #[.bool na, .slice A n c])
      have S1 := Lib.hid (S1.out.alloc (.cells #[.bool na, .slice B n d] 24))
      have S2 := Lib.hid (S2.out.alloc (.cells #[.bool na, .slice B n d] 24))
      have BW := Lib.hid (BW.out.alloc BW.out.size (.cells #[.bool na, .slice B n d] 24))
      have X1 := Lib.hid (X1.out.alloc (.cells #[.bool na, .slice B n d] 24))
      have X2 := Lib.hid (Bk.new 24 (w.alloc (.cells #[.bool na, .slice A n c] 24)) #[.bool na, .slice B n d])
      rw [alloc_sz] at X2
      generalize ((w.alloc (.cells #[.bool na, .slice A n c] 24)).alloc (.cells #[.bool na, .slice B n d] 24)) = W0 at *
      have e0 : W0.cell? ⟨w.heap.size, 0, none⟩ = some (.bool na) := X1.out.c 0 rfl
      have e1 : W0.cell? ⟨w.heap.size, 1, none⟩ = some (.slice A n c) := X1.out.c 1 rfl
      have e2 : W0.cell? ⟨w.heap.size + 1, 0, none⟩ = some (.bool na) := X2.out.c 0 rfl
      have e3 : W0.cell? ⟨w.heap.size + 1, 1, none⟩ = some (.slice B n d) := X2.out.c 1 rfl
      go_region_held3 (fun w' => w'.cell? ⟨w.heap.size, 0, none⟩ = some (.bool na) ∧ w'.cell? ⟨w.heap.size, 1, none⟩ = some (.slice A n c) ∧ w'.cell? ⟨w.heap.size + 1, 0, none⟩ = some (.bool na) ∧ w'.cell? ⟨w.heap.size + 1, 1, none⟩ = some (.slice B n d)) (go_keep)
        (first | (go_at_call 61; (with_reducible refine (shape_any na A n c _).mono ?_); rintro e a1 ⟨rfl, hb⟩; have BB1 := Lib.hid (show Below W0.heap.size W0 a1 from (by first | exact hb | exact (Below.refl _ _).drew.trans (hb.mono (Nat.le_refl _)))); have f0 : a1.cell? ⟨w.heap.size, 0, none⟩ = some (.bool na) := (X1.out.below BB1.out).c 0 rfl; have f1 : a1.cell? ⟨w.heap.size, 1, none⟩ = some (.slice A n c) := (X1.out.below BB1.out).c 1 rfl; have f2 : a1.cell? ⟨w.heap.size + 1, 0, none⟩ = some (.bool na) := (X2.out.below BB1.out).c 0 rfl; have f3 : a1.cell? ⟨w.heap.size + 1, 1, none⟩ = some (.slice B n d) := (X2.out.below BB1.out).c 1 rfl; clear hb) | (go_at_call 61; (with_reducible refine (shape_any na B n d _).mono ?_); rintro e a2 ⟨rfl, hb⟩; have BB2 := Lib.hid (below_up BB1.out hb); have f0 : a2.cell? ⟨w.heap.size, 0, none⟩ = some (.bool na) := (X1.out.below BB2.out).c 0 rfl; have f1 : a2.cell? ⟨w.heap.size, 1, none⟩ = some (.slice A n c) := (X1.out.below BB2.out).c 1 rfl; have f2 : a2.cell? ⟨w.heap.size + 1, 0, none⟩ = some (.bool na) := (X2.out.below BB2.out).c 0 rfl; have f3 : a2.cell? ⟨w.heap.size + 1, 1, none⟩ = some (.slice B n d) := (X2.out.below BB2.out).c 1 rfl; clear hb) | (go_at_call 62; (with_reducible refine (equal_any A B n c d xs ys _ (S1.out.below BB2.out) (S2.out.below BB2.out)).mono ?_); rintro e a3 ⟨rfl, hb⟩; have BB3 := Lib.hid (below_up BB2.out hb); have f0 : a3.cell? ⟨w.heap.size, 0, none⟩ = some (.bool na) := (X1.out.below BB3.out).c 0 rfl; have f1 : a3.cell? ⟨w.heap.size, 1, none⟩ = some (.slice A n c) := (X1.out.below BB3.out).c 1 rfl; have f2 : a3.cell? ⟨w.heap.size + 1, 0, none⟩ = some (.bool na) := (X2.out.below BB3.out).c 0 rfl; have f3 : a3.cell? ⟨w.heap.size + 1, 1, none⟩ = some (.slice B n d) := (X2.out.below BB3.out).c 1 rfl; clear hb))
      clear e0 e1 e2 e3
      try clear f0 f1 f2 f3
      have S1 := Lib.hid (S1.out.below BB3.out)
      have S2 := Lib.hid (S2.out.below BB3.out)
      have BW := Lib.hid (below_on BW.out BB3.out)
      have X1 := Lib.hid (X1.out.below BB3.out)
      have X2 := Lib.hid (X2.out.below BB3.out)
      go_wp2_with fail
      go_ret
      exact ⟨ret_bool (by simp), BW.out⟩
    · have HN := Lib.hid (ne_len (xs := xs) (ys := ys) (by rw [S1.out.len, S2.out.len]; exact hn))
      have b1 : ((n : Int) == (m : Int)) = false := by simp only [beq_eq_false_iff_ne]; omega
      clear hn
      have BW := Lib.hid (Below.refl w.heap.size w)
      go_enter Tryz.func36, Tryz.ntmps36
      go_upto_region 1 with fail
      have S1 := Lib.hid (S1.out.alloc (.cells #[.bool na, .slice A n c] 24))
      have S2 := Lib.hid (S2.out.alloc (.cells #[.bool na, .slice A n c] 24))
      have BW := Lib.hid (BW.out.alloc BW.out.size (.cells #[.bool na, .slice A n c] 24))
      have X1 := Lib.hid (Bk.new 24 w #[.bool na, .slice A n c])
      have S1 := Lib.hid (S1.out.alloc (.cells #[.bool na, .slice B m d] 24))
      have S2 := Lib.hid (S2.out.alloc (.cells #[.bool na, .slice B m d] 24))
      have BW := Lib.hid (BW.out.alloc BW.out.size (.cells #[.bool na, .slice B m d] 24))
      have X1 := Lib.hid (X1.out.alloc (.cells #[.bool na, .slice B m d] 24))
      have X2 := Lib.hid (Bk.new 24 (w.alloc (.cells #[.bool na, .slice A n c] 24)) #[.bool na, .slice B m d])
      rw [alloc_sz] at X2
      generalize ((w.alloc (.cells #[.bool na, .slice A n c] 24)).alloc (.cells #[.bool na, .slice B m d] 24)) = W0 at *
      have e0 : W0.cell? ⟨w.heap.size, 0, none⟩ = some (.bool na) := X1.out.c 0 rfl
      have e1 : W0.cell? ⟨w.heap.size, 1, none⟩ = some (.slice A n c) := X1.out.c 1 rfl
      have e2 : W0.cell? ⟨w.heap.size + 1, 0, none⟩ = some (.bool na) := X2.out.c 0 rfl
      have e3 : W0.cell? ⟨w.heap.size + 1, 1, none⟩ = some (.slice B m d) := X2.out.c 1 rfl
      refine wp_region_held_drew (S := fun w' => w'.cell? ⟨w.heap.size, 0, none⟩ = some (.bool na) ∧ w'.cell? ⟨w.heap.size, 1, none⟩ = some (.slice A n c) ∧ w'.cell? ⟨w.heap.size + 1, 0, none⟩ = some (.bool na) ∧ w'.cell? ⟨w.heap.size + 1, 1, none⟩ = some (.slice B m d)) (by kernel_rfl) ?_ (fun hHeld => ?_)
      · (try dsimp only)
        go_keep
      refine wpAnyH_take (i := 0) (oi := { dst := some 5, op := Go.Op.load 24 (Go.Operand.tmp 2), type := 24, pos := "rat.go:129", after := #[], guard := none }) (v := .agg #[.bool na, .slice A n c]) rfl (by kernel_rfl) (by kernel_rfl) (by kernel_rfl) (fun _ _ _ h => h) (Or.inl ⟨by rfl, ?_⟩) (by assumption) ?_
      · intro w' hSw
        (try dsimp only at hSw)
        go_simp
        try (first | rfl | decide)
      simp only [Act.put, List.setIfInBounds_toArray, List.set_cons_zero, List.set_cons_succ]
      refine wpAnyH_take (i := 2) (oi := { dst := some 7, op := Go.Op.load 24 (Go.Operand.tmp 3), type := 24, pos := "rat.go:129", after := #[], guard := none }) (v := .agg #[.bool na, .slice B m d]) rfl (by kernel_rfl) (by kernel_rfl) (by kernel_rfl) (fun _ _ _ h => h) (Or.inl ⟨by rfl, ?_⟩) (by assumption) ?_
      · intro w' hSw
        (try dsimp only at hSw)
        go_simp
        try (first | rfl | decide)
      simp only [Act.put, List.setIfInBounds_toArray, List.set_cons_zero, List.set_cons_succ]
      refine wpAnyH_ready (rs := [1]) (by kernel_rfl) (by simp) ?_
      refine AllReadyH.cons (o := { dst := some 6, op := Go.Op.call { callee := Go.Callee.value (Go.Operand.func 61), args := #[Go.Operand.tmp 5], argTypes := #[24] }, type := 66, pos := "rat.go:129", after := #[{ on := 0, ground := Go.Ground.data }], guard := none }) rfl (fun K hK => ?_) AllReadyH.nil
      go_simp
      ((with_reducible refine (shape_any na A n c _).mono ?_); rintro e a1 ⟨rfl, hb⟩)
      have BB1 := Lib.hid (show Below W0.heap.size W0 a1 from (by first | exact hb | exact (Below.refl _ _).drew.trans (hb.mono (Nat.le_refl _))))
      have f0 : a1.cell? ⟨w.heap.size, 0, none⟩ = some (.bool na) := (X1.out.below BB1.out).c 0 rfl
      have f1 : a1.cell? ⟨w.heap.size, 1, none⟩ = some (.slice A n c) := (X1.out.below BB1.out).c 1 rfl
      have f2 : a1.cell? ⟨w.heap.size + 1, 0, none⟩ = some (.bool na) := (X2.out.below BB1.out).c 0 rfl
      have f3 : a1.cell? ⟨w.heap.size + 1, 1, none⟩ = some (.slice B m d) := (X2.out.below BB1.out).c 1 rfl
      clear hb
      go_wp2_with fail
      refine hK.out _ _ ?_ (fun hHeld => ?_)
      · (try dsimp only)
        go_keep
      clear hK K
      try simp only [Act.put, List.setIfInBounds_toArray, List.set_cons_zero, List.set_cons_succ]
      refine wpAnyH_ready (rs := [3]) (by kernel_rfl) (by simp) ?_
      refine AllReadyH.cons (o := { dst := some 8, op := Go.Op.call { callee := Go.Callee.value (Go.Operand.func 61), args := #[Go.Operand.tmp 7], argTypes := #[24] }, type := 66, pos := "rat.go:129", after := #[{ on := 2, ground := Go.Ground.data }, { on := 1, ground := Go.Ground.chain }], guard := none }) rfl (fun K hK => ?_) AllReadyH.nil
      go_simp
      ((with_reducible refine (shape_any na B m d _).mono ?_); rintro e a2 ⟨rfl, hb⟩)
      have BB2 := Lib.hid (below_up BB1.out hb)
      have f0 : a2.cell? ⟨w.heap.size, 0, none⟩ = some (.bool na) := (X1.out.below BB2.out).c 0 rfl
      have f1 : a2.cell? ⟨w.heap.size, 1, none⟩ = some (.slice A n c) := (X1.out.below BB2.out).c 1 rfl
      have f2 : a2.cell? ⟨w.heap.size + 1, 0, none⟩ = some (.bool na) := (X2.out.below BB2.out).c 0 rfl
      have f3 : a2.cell? ⟨w.heap.size + 1, 1, none⟩ = some (.slice B m d) := (X2.out.below BB2.out).c 1 rfl
      clear hb
      go_wp2_with fail
      refine hK.out _ _ ?_ (fun hHeld => ?_)
      · (try dsimp only)
        go_keep
      clear hK K
      try simp only [Act.put, List.setIfInBounds_toArray, List.set_cons_zero, List.set_cons_succ]
      refine wpAnyH_take (i := 4) (oi := { dst := some 9, op := Go.Op.binOp Go.BinOp.eql 66 (Go.Operand.tmp 6) (Go.Operand.tmp 8) 66, type := 4, pos := "rat.go:129", after := #[{ on := 1, ground := Go.Ground.data }, { on := 3, ground := Go.Ground.data }], guard := none }) (v := .bool false) rfl (by kernel_rfl) (by kernel_rfl) (by kernel_rfl) (fun _ _ _ h => h) (Or.inl ⟨by rfl, ?_⟩) (by assumption) ?_
      · intro w' hSw
        (try dsimp only at hSw)
        go_simp
        try (first | rfl | decide)
      simp only [Act.put, List.setIfInBounds_toArray, List.set_cons_zero, List.set_cons_succ]
      refine wpAnyH_take (i := 5) (oi := { dst := some 10, op := Go.Op.move (Go.Operand.tmp 9), type := 4, pos := "rat.go:129", after := #[{ on := 4, ground := Go.Ground.data }, { on := 3, ground := Go.Ground.chain }], guard := none }) (v := .bool false) rfl (by kernel_rfl) (by kernel_rfl) (by kernel_rfl) (fun _ _ _ h => h) (Or.inl ⟨by rfl, ?_⟩) (by assumption) ?_
      · intro w' hSw
        (try dsimp only at hSw)
        go_simp
        try (first | rfl | decide)
      simp only [Act.put, List.setIfInBounds_toArray, List.set_cons_zero, List.set_cons_succ]
      refine wpAnyH_take (i := 6) (oi := { dst := some 11, op := Go.Op.fieldAddr 24 (Go.Operand.tmp 2) 1, type := 0, pos := "rat.go:129", after := #[{ on := 5, ground := Go.Ground.guard }], guard := some (5, true) }) (v := undef) rfl (by kernel_rfl) (by kernel_rfl) (by kernel_rfl) (fun _ _ _ h => h) (Or.inr ⟨by rfl, rfl⟩) (by assumption) ?_
      simp only [Act.put, List.setIfInBounds_toArray, List.set_cons_zero, List.set_cons_succ]
      refine wpAnyH_take (i := 7) (oi := { dst := some 12, op := Go.Op.load 22 (Go.Operand.tmp 11), type := 22, pos := "rat.go:129", after := #[{ on := 6, ground := Go.Ground.data }, { on := 5, ground := Go.Ground.guard }], guard := some (5, true) }) (v := undef) rfl (by kernel_rfl) (by kernel_rfl) (by kernel_rfl) (fun _ _ _ h => h) (Or.inr ⟨by rfl, rfl⟩) (by assumption) ?_
      simp only [Act.put, List.setIfInBounds_toArray, List.set_cons_zero, List.set_cons_succ]
      refine wpAnyH_take (i := 8) (oi := { dst := some 13, op := Go.Op.fieldAddr 24 (Go.Operand.tmp 3) 1, type := 0, pos := "rat.go:129", after := #[{ on := 5, ground := Go.Ground.guard }], guard := some (5, true) }) (v := undef) rfl (by kernel_rfl) (by kernel_rfl) (by kernel_rfl) (fun _ _ _ h => h) (Or.inr ⟨by rfl, rfl⟩) (by assumption) ?_
      simp only [Act.put, List.setIfInBounds_toArray, List.set_cons_zero, List.set_cons_succ]
      refine wpAnyH_take (i := 9) (oi := { dst := some 14, op := Go.Op.load 22 (Go.Operand.tmp 13), type := 22, pos := "rat.go:129", after := #[{ on := 8, ground := Go.Ground.data }, { on := 5, ground := Go.Ground.guard }], guard := some (5, true) }) (v := undef) rfl (by kernel_rfl) (by kernel_rfl) (by kernel_rfl) (fun _ _ _ h => h) (Or.inr ⟨by rfl, rfl⟩) (by assumption) ?_
      simp only [Act.put, List.setIfInBounds_toArray, List.set_cons_zero, List.set_cons_succ]
      refine wpAnyH_take (i := 10) (oi := { dst := some 15, op := Go.Op.call { callee := Go.Callee.value (Go.Operand.func 62), args := #[Go.Operand.tmp 12, Go.Operand.tmp 14], argTypes := #[22, 22] }, type := 4, pos := "rat.go:129", after := #[{ on := 7, ground := Go.Ground.data }, { on := 9, ground := Go.Ground.data }, { on := 5, ground := Go.Ground.chain }, { on := 5, ground := Go.Ground.guard }], guard := some (5, true) }) (v := undef) rfl (by kernel_rfl) (by kernel_rfl) (by kernel_rfl) (fun _ _ _ h => h) (Or.inr ⟨by rfl, rfl⟩) (by assumption) ?_
      simp only [Act.put, List.setIfInBounds_toArray, List.set_cons_zero, List.set_cons_succ]
      refine wpAnyH_take (i := 11) (oi := { dst := some 16, op := Go.Op.pick (Go.Operand.tmp 10) (Go.Operand.tmp 15) (Go.Operand.const (Go.Value.bool false)), type := 4, pos := "rat.go:129", after := #[{ on := 5, ground := Go.Ground.data }, { on := 10, ground := Go.Ground.data }], guard := none }) (v := .bool false) rfl (by kernel_rfl) (by kernel_rfl) (by kernel_rfl) (fun _ _ _ h => h) (Or.inl ⟨by rfl, ?_⟩) (by assumption) ?_
      · intro w' hSw
        (try dsimp only at hSw)
        go_simp
        try (first | rfl | decide)
      simp only [Act.put, List.setIfInBounds_toArray, List.set_cons_zero, List.set_cons_succ]
      refine wpAnyH_take (i := 12) (oi := { dst := some 4, op := Go.Op.assign (Go.Operand.tmp 16), type := 4, pos := "rat.go:129", after := #[{ on := 11, ground := Go.Ground.data }, { on := 10, ground := Go.Ground.chain }, { on := 0, ground := Go.Ground.phase }, { on := 1, ground := Go.Ground.phase }, { on := 2, ground := Go.Ground.phase }, { on := 3, ground := Go.Ground.phase }, { on := 4, ground := Go.Ground.phase }, { on := 5, ground := Go.Ground.phase }, { on := 6, ground := Go.Ground.phase }, { on := 7, ground := Go.Ground.phase }, { on := 8, ground := Go.Ground.phase }, { on := 9, ground := Go.Ground.phase }, { on := 10, ground := Go.Ground.phase }, { on := 11, ground := Go.Ground.phase }], guard := none }) (v := .bool false) rfl (by kernel_rfl) (by kernel_rfl) (by kernel_rfl) (fun _ _ _ h => h) (Or.inl ⟨by rfl, ?_⟩) (by assumption) ?_
      · intro w' hSw
        (try dsimp only at hSw)
        go_simp
        try (first | rfl | decide)
      simp only [Act.put, List.setIfInBounds_toArray, List.set_cons_zero, List.set_cons_succ]
      refine wpAnyH_done (by kernel_rfl) ?_ _
      clear e0 e1 e2 e3
      try clear f0 f1 f2 f3
      have S1 := Lib.hid (S1.out.below BB2.out)
      have S2 := Lib.hid (S2.out.below BB2.out)
      have BW := Lib.hid (below_on BW.out BB2.out)
      have X1 := Lib.hid (X1.out.below BB2.out)
      have X2 := Lib.hid (X2.out.below BB2.out)
      go_wp2_with fail
      go_ret
      exact ⟨ret_bool (by rw [HN.out, Bool.and_false]), BW.out⟩
  · have b1 : (na == nb) = false := by simpa using hs
    clear hs
    have BW := Lib.hid (Below.refl w.heap.size w)
    go_enter Tryz.func36, Tryz.ntmps36
    go_upto_region 1 with fail
    have S1 := Lib.hid (S1.out.alloc (.cells #[.bool na, .slice A n c] 24))
    have S2 := Lib.hid (S2.out.alloc (.cells #[.bool na, .slice A n c] 24))
    have BW := Lib.hid (BW.out.alloc BW.out.size (.cells #[.bool na, .slice A n c] 24))
    have X1 := Lib.hid (Bk.new 24 w #[.bool na, .slice A n c])
    have S1 := Lib.hid (S1.out.alloc (.cells #[.bool nb, .slice B m d] 24))
    have S2 := Lib.hid (S2.out.alloc (.cells #[.bool nb, .slice B m d] 24))
    have BW := Lib.hid (BW.out.alloc BW.out.size (.cells #[.bool nb, .slice B m d] 24))
    have X1 := Lib.hid (X1.out.alloc (.cells #[.bool nb, .slice B m d] 24))
    have X2 := Lib.hid (Bk.new 24 (w.alloc (.cells #[.bool na, .slice A n c] 24)) #[.bool nb, .slice B m d])
    rw [alloc_sz] at X2
    generalize ((w.alloc (.cells #[.bool na, .slice A n c] 24)).alloc (.cells #[.bool nb, .slice B m d] 24)) = W0 at *
    have e0 : W0.cell? ⟨w.heap.size, 0, none⟩ = some (.bool na) := X1.out.c 0 rfl
    have e1 : W0.cell? ⟨w.heap.size, 1, none⟩ = some (.slice A n c) := X1.out.c 1 rfl
    have e2 : W0.cell? ⟨w.heap.size + 1, 0, none⟩ = some (.bool nb) := X2.out.c 0 rfl
    have e3 : W0.cell? ⟨w.heap.size + 1, 1, none⟩ = some (.slice B m d) := X2.out.c 1 rfl
    refine wp_region_held_drew (S := fun w' => w'.cell? ⟨w.heap.size, 0, none⟩ = some (.bool na) ∧ w'.cell? ⟨w.heap.size, 1, none⟩ = some (.slice A n c) ∧ w'.cell? ⟨w.heap.size + 1, 0, none⟩ = some (.bool nb) ∧ w'.cell? ⟨w.heap.size + 1, 1, none⟩ = some (.slice B m d)) (by kernel_rfl) ?_ (fun hHeld => ?_)
    · (try dsimp only)
      go_keep
    refine wpAnyH_take (i := 0) (oi := { dst := some 5, op := Go.Op.load 24 (Go.Operand.tmp 2), type := 24, pos := "rat.go:129", after := #[], guard := none }) (v := .agg #[.bool na, .slice A n c]) rfl (by kernel_rfl) (by kernel_rfl) (by kernel_rfl) (fun _ _ _ h => h) (Or.inl ⟨by rfl, ?_⟩) (by assumption) ?_
    · intro w' hSw
      (try dsimp only at hSw)
      go_simp
      try (first | rfl | decide)
    simp only [Act.put, List.setIfInBounds_toArray, List.set_cons_zero, List.set_cons_succ]
    refine wpAnyH_take (i := 2) (oi := { dst := some 7, op := Go.Op.load 24 (Go.Operand.tmp 3), type := 24, pos := "rat.go:129", after := #[], guard := none }) (v := .agg #[.bool nb, .slice B m d]) rfl (by kernel_rfl) (by kernel_rfl) (by kernel_rfl) (fun _ _ _ h => h) (Or.inl ⟨by rfl, ?_⟩) (by assumption) ?_
    · intro w' hSw
      (try dsimp only at hSw)
      go_simp
      try (first | rfl | decide)
    simp only [Act.put, List.setIfInBounds_toArray, List.set_cons_zero, List.set_cons_succ]
    refine wpAnyH_ready (rs := [1]) (by kernel_rfl) (by simp) ?_
    refine AllReadyH.cons (o := { dst := some 6, op := Go.Op.call { callee := Go.Callee.value (Go.Operand.func 61), args := #[Go.Operand.tmp 5], argTypes := #[24] }, type := 66, pos := "rat.go:129", after := #[{ on := 0, ground := Go.Ground.data }], guard := none }) rfl (fun K hK => ?_) AllReadyH.nil
    go_simp
    ((with_reducible refine (shape_any na A n c _).mono ?_); rintro e a1 ⟨rfl, hb⟩)
    have BB1 := Lib.hid (show Below W0.heap.size W0 a1 from (by first | exact hb | exact (Below.refl _ _).drew.trans (hb.mono (Nat.le_refl _))))
    have f0 : a1.cell? ⟨w.heap.size, 0, none⟩ = some (.bool na) := (X1.out.below BB1.out).c 0 rfl
    have f1 : a1.cell? ⟨w.heap.size, 1, none⟩ = some (.slice A n c) := (X1.out.below BB1.out).c 1 rfl
    have f2 : a1.cell? ⟨w.heap.size + 1, 0, none⟩ = some (.bool nb) := (X2.out.below BB1.out).c 0 rfl
    have f3 : a1.cell? ⟨w.heap.size + 1, 1, none⟩ = some (.slice B m d) := (X2.out.below BB1.out).c 1 rfl
    clear hb
    go_wp2_with fail
    refine hK.out _ _ ?_ (fun hHeld => ?_)
    · (try dsimp only)
      go_keep
    clear hK K
    try simp only [Act.put, List.setIfInBounds_toArray, List.set_cons_zero, List.set_cons_succ]
    refine wpAnyH_ready (rs := [3]) (by kernel_rfl) (by simp) ?_
    refine AllReadyH.cons (o := { dst := some 8, op := Go.Op.call { callee := Go.Callee.value (Go.Operand.func 61), args := #[Go.Operand.tmp 7], argTypes := #[24] }, type := 66, pos := "rat.go:129", after := #[{ on := 2, ground := Go.Ground.data }, { on := 1, ground := Go.Ground.chain }], guard := none }) rfl (fun K hK => ?_) AllReadyH.nil
    go_simp
    ((with_reducible refine (shape_any nb B m d _).mono ?_); rintro e a2 ⟨rfl, hb⟩)
    have BB2 := Lib.hid (below_up BB1.out hb)
    have f0 : a2.cell? ⟨w.heap.size, 0, none⟩ = some (.bool na) := (X1.out.below BB2.out).c 0 rfl
    have f1 : a2.cell? ⟨w.heap.size, 1, none⟩ = some (.slice A n c) := (X1.out.below BB2.out).c 1 rfl
    have f2 : a2.cell? ⟨w.heap.size + 1, 0, none⟩ = some (.bool nb) := (X2.out.below BB2.out).c 0 rfl
    have f3 : a2.cell? ⟨w.heap.size + 1, 1, none⟩ = some (.slice B m d) := (X2.out.below BB2.out).c 1 rfl
    clear hb
    go_wp2_with fail
    refine hK.out _ _ ?_ (fun hHeld => ?_)
    · (try dsimp only)
      go_keep
    clear hK K
    try simp only [Act.put, List.setIfInBounds_toArray, List.set_cons_zero, List.set_cons_succ]
    refine wpAnyH_take (i := 4) (oi := { dst := some 9, op := Go.Op.binOp Go.BinOp.eql 66 (Go.Operand.tmp 6) (Go.Operand.tmp 8) 66, type := 4, pos := "rat.go:129", after := #[{ on := 1, ground := Go.Ground.data }, { on := 3, ground := Go.Ground.data }], guard := none }) (v := .bool false) rfl (by kernel_rfl) (by kernel_rfl) (by kernel_rfl) (fun _ _ _ h => h) (Or.inl ⟨by rfl, ?_⟩) (by assumption) ?_
    · intro w' hSw
      (try dsimp only at hSw)
      go_simp
      try (first | rfl | decide)
    simp only [Act.put, List.setIfInBounds_toArray, List.set_cons_zero, List.set_cons_succ]
    refine wpAnyH_take (i := 5) (oi := { dst := some 10, op := Go.Op.move (Go.Operand.tmp 9), type := 4, pos := "rat.go:129", after := #[{ on := 4, ground := Go.Ground.data }, { on := 3, ground := Go.Ground.chain }], guard := none }) (v := .bool false) rfl (by kernel_rfl) (by kernel_rfl) (by kernel_rfl) (fun _ _ _ h => h) (Or.inl ⟨by rfl, ?_⟩) (by assumption) ?_
    · intro w' hSw
      (try dsimp only at hSw)
      go_simp
      try (first | rfl | decide)
    simp only [Act.put, List.setIfInBounds_toArray, List.set_cons_zero, List.set_cons_succ]
    refine wpAnyH_take (i := 6) (oi := { dst := some 11, op := Go.Op.fieldAddr 24 (Go.Operand.tmp 2) 1, type := 0, pos := "rat.go:129", after := #[{ on := 5, ground := Go.Ground.guard }], guard := some (5, true) }) (v := undef) rfl (by kernel_rfl) (by kernel_rfl) (by kernel_rfl) (fun _ _ _ h => h) (Or.inr ⟨by rfl, rfl⟩) (by assumption) ?_
    simp only [Act.put, List.setIfInBounds_toArray, List.set_cons_zero, List.set_cons_succ]
    refine wpAnyH_take (i := 7) (oi := { dst := some 12, op := Go.Op.load 22 (Go.Operand.tmp 11), type := 22, pos := "rat.go:129", after := #[{ on := 6, ground := Go.Ground.data }, { on := 5, ground := Go.Ground.guard }], guard := some (5, true) }) (v := undef) rfl (by kernel_rfl) (by kernel_rfl) (by kernel_rfl) (fun _ _ _ h => h) (Or.inr ⟨by rfl, rfl⟩) (by assumption) ?_
    simp only [Act.put, List.setIfInBounds_toArray, List.set_cons_zero, List.set_cons_succ]
    refine wpAnyH_take (i := 8) (oi := { dst := some 13, op := Go.Op.fieldAddr 24 (Go.Operand.tmp 3) 1, type := 0, pos := "rat.go:129", after := #[{ on := 5, ground := Go.Ground.guard }], guard := some (5, true) }) (v := undef) rfl (by kernel_rfl) (by kernel_rfl) (by kernel_rfl) (fun _ _ _ h => h) (Or.inr ⟨by rfl, rfl⟩) (by assumption) ?_
    simp only [Act.put, List.setIfInBounds_toArray, List.set_cons_zero, List.set_cons_succ]
    refine wpAnyH_take (i := 9) (oi := { dst := some 14, op := Go.Op.load 22 (Go.Operand.tmp 13), type := 22, pos := "rat.go:129", after := #[{ on := 8, ground := Go.Ground.data }, { on := 5, ground := Go.Ground.guard }], guard := some (5, true) }) (v := undef) rfl (by kernel_rfl) (by kernel_rfl) (by kernel_rfl) (fun _ _ _ h => h) (Or.inr ⟨by rfl, rfl⟩) (by assumption) ?_
    simp only [Act.put, List.setIfInBounds_toArray, List.set_cons_zero, List.set_cons_succ]
    refine wpAnyH_take (i := 10) (oi := { dst := some 15, op := Go.Op.call { callee := Go.Callee.value (Go.Operand.func 62), args := #[Go.Operand.tmp 12, Go.Operand.tmp 14], argTypes := #[22, 22] }, type := 4, pos := "rat.go:129", after := #[{ on := 7, ground := Go.Ground.data }, { on := 9, ground := Go.Ground.data }, { on := 5, ground := Go.Ground.chain }, { on := 5, ground := Go.Ground.guard }], guard := some (5, true) }) (v := undef) rfl (by kernel_rfl) (by kernel_rfl) (by kernel_rfl) (fun _ _ _ h => h) (Or.inr ⟨by rfl, rfl⟩) (by assumption) ?_
    simp only [Act.put, List.setIfInBounds_toArray, List.set_cons_zero, List.set_cons_succ]
    refine wpAnyH_take (i := 11) (oi := { dst := some 16, op := Go.Op.pick (Go.Operand.tmp 10) (Go.Operand.tmp 15) (Go.Operand.const (Go.Value.bool false)), type := 4, pos := "rat.go:129", after := #[{ on := 5, ground := Go.Ground.data }, { on := 10, ground := Go.Ground.data }], guard := none }) (v := .bool false) rfl (by kernel_rfl) (by kernel_rfl) (by kernel_rfl) (fun _ _ _ h => h) (Or.inl ⟨by rfl, ?_⟩) (by assumption) ?_
    · intro w' hSw
      (try dsimp only at hSw)
      go_simp
      try (first | rfl | decide)
    simp only [Act.put, List.setIfInBounds_toArray, List.set_cons_zero, List.set_cons_succ]
    refine wpAnyH_take (i := 12) (oi := { dst := some 4, op := Go.Op.assign (Go.Operand.tmp 16), type := 4, pos := "rat.go:129", after := #[{ on := 11, ground := Go.Ground.data }, { on := 10, ground := Go.Ground.chain }, { on := 0, ground := Go.Ground.phase }, { on := 1, ground := Go.Ground.phase }, { on := 2, ground := Go.Ground.phase }, { on := 3, ground := Go.Ground.phase }, { on := 4, ground := Go.Ground.phase }, { on := 5, ground := Go.Ground.phase }, { on := 6, ground := Go.Ground.phase }, { on := 7, ground := Go.Ground.phase }, { on := 8, ground := Go.Ground.phase }, { on := 9, ground := Go.Ground.phase }, { on := 10, ground := Go.Ground.phase }, { on := 11, ground := Go.Ground.phase }], guard := none }) (v := .bool false) rfl (by kernel_rfl) (by kernel_rfl) (by kernel_rfl) (fun _ _ _ h => h) (Or.inl ⟨by rfl, ?_⟩) (by assumption) ?_
    · intro w' hSw
      (try dsimp only at hSw)
      go_simp
      try (first | rfl | decide)
    simp only [Act.put, List.setIfInBounds_toArray, List.set_cons_zero, List.set_cons_succ]
    refine wpAnyH_done (by kernel_rfl) ?_ _
    clear e0 e1 e2 e3
    try clear f0 f1 f2 f3
    have S1 := Lib.hid (S1.out.below BB2.out)
    have S2 := Lib.hid (S2.out.below BB2.out)
    have BW := Lib.hid (below_on BW.out BB2.out)
    have X1 := Lib.hid (X1.out.below BB2.out)
    have X2 := Lib.hid (X2.out.below BB2.out)
    go_wp2_with fail
    go_ret
    exact ⟨ret_bool (by rw [b1, Bool.false_and]), BW.out⟩
end Go.Proofs.YtfenmogbellhdaaGreatDoor
