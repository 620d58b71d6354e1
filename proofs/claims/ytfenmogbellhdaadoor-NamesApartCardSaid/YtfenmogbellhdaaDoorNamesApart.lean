/-
  THE STATEMENT NamesApart IS PROVED: for every text (the listed tables holding what the program's text lays, tied by the card), the law returns true and its argument reads as before.
-/
import Derived.Test.YtfenmogbellhdaaDoorCards
import Derived.Test.YtfenmogbellhdaaDoorTie
import Derived.Test.YtfenmogbellhdaaDoorNmLaid
namespace Go.Proofs.YtfenmogbellhdaaDoor.namesApart
open Go.ChangeShapes Go.WideShapes Go.ChangeAt Go.RowKit
open Go.ChangeMaps (open_string shut_string)

theorem cut46_app (l r : Txt) : cut46 (l ++ 46 :: r) = cut46 l ++ cut46 r := by
  induction l with
  | nil => simp [cut46]
  | cons c l ih =>
    rw [List.cons_append, cut46, cut46]
    split
    · rw [ih]; rfl
    · rw [ih]
      cases h : cut46 l with
      | nil => exact absurd h (cut46_ne l)
      | cons p r' => rfl
theorem cut46_none {l : Txt} (h : 46 ∉ l) : cut46 l = [l] := by
  induction l with
  | nil => rfl
  | cons c l ih =>
    have h1 : c ≠ 46 := fun e => h (by simp [e])
    have h2 : 46 ∉ l := fun e => h (by simp [e])
    rw [cut46, if_neg h1, ih h2]
theorem word_no {l : Txt} (h : wordB l = true) : 46 ∉ l := by
  intro hm
  unfold wordB at h
  rw [Bool.and_eq_true, List.all_eq_true] at h
  exact absurd (h.2 46 hm) (by decide)
theorem alnum_no {l : Txt} (h : alnumB l = true) : 46 ∉ l := by
  intro hm
  unfold alnumB at h
  rw [List.all_eq_true] at h
  exact absurd (h 46 hm) (by decide)
theorem name_word {l : Txt} (h : nameB l = true) : wordB l = true ∧ kwB l = false := by
  unfold nameB at h
  rw [Bool.and_eq_true, Bool.not_eq_true'] at h
  exact h
theorem title_parts {l : Txt} (h : titleB l = true) : longB l = true ∧ headB cpB l = true ∧ alnumB l = true := by
  unfold titleB at h
  simp only [Bool.and_eq_true] at h
  exact ⟨h.1.1.1, h.1.1.2, h.1.2⟩
theorem word_parts {l : Txt} (h : wordB l = true) : longB l = true ∧ headB smB l = true := by
  unfold wordB at h
  simp only [Bool.and_eq_true] at h
  exact ⟨h.1.1, h.1.2⟩
theorem head_one {l : Txt} (h1 : headB smB l = true) (h2 : headB cpB l = true) : False := by
  cases l with
  | nil => cases h1
  | cons c l =>
    have a : smB c = true := h1
    have b : cpB c = true := h2
    unfold smB at a
    unfold cpB at b
    simp only [Bool.and_eq_true, decide_eq_true_iff] at a b
    omega
theorem kw_words : kws.all (fun l => wordB l) = true := by decide +kernel
theorem kw_word {l : Txt} (h : kwB l = true) : wordB l = true := by
  unfold kwB at h
  rw [List.contains_iff_mem] at h
  exact List.all_eq_true.1 kw_words l h
theorem long_le {l : Txt} (h : longB l = true) : l.length ≤ 24 := by
  unfold longB at h
  simp only [Bool.and_eq_true, decide_eq_true_iff] at h
  exact h.2
theorem apart_nt {l : Txt} (h : nameB l = true) : titleB l = false := by
  rw [← Bool.not_eq_true]
  exact fun t => head_one (word_parts (name_word h).1).2 (title_parts t).2.1
theorem name_core {l : Txt} (h : nameB l = true) : coreB l = true := by
  have hw := (name_word h).1
  rw [core_one (Nat.le_trans (long_le (word_parts hw).1) (by decide)) (cut46_none (word_no hw)), h]; rfl
theorem title_core {l : Txt} (h : titleB l = true) : coreB l = true := by
  have ht := title_parts h
  rw [core_one (Nat.le_trans (long_le ht.1) (by decide)) (cut46_none (alnum_no ht.2.2)), h, Bool.or_true]
theorem kw_apart {l : Txt} (h : kwB l = true) : nameB l = false ∧ titleB l = false ∧ coreB l = false := by
  have hw := kw_word h
  have hn : nameB l = false := by unfold nameB; rw [h, Bool.not_true, Bool.and_false]
  have ht : titleB l = false := by
    rw [← Bool.not_eq_true]
    exact fun t => head_one (word_parts hw).2 (title_parts t).2.1
  exact ⟨hn, ht, by rw [core_one (Nat.le_trans (long_le (word_parts hw).1) (by decide)) (cut46_none (word_no hw)), hn, ht]; rfl⟩
/-- A core name with one more piece. -/
theorem core_snoc {l x : Txt} (h : coreB l = true) (hl : l.length + 1 + x.length ≤ 120) (hx : cut46 x = [x]) : coreB (l ++ 46 :: x) = partB x := by
  have hlen : l.length ≤ 120 := by omega
  have hc := cut46_app l x
  rw [hx] at hc
  have hl2 : (l ++ 46 :: x).length ≤ 120 := by rw [List.length_append, List.length_cons]; omega
  cases hp : cut46 l with
  | nil => exact absurd hp (cut46_ne l)
  | cons p r =>
    rw [hp] at hc
    unfold coreB at h ⊢
    rw [decide_eq_true hlen, hp] at h
    rw [decide_eq_true hl2, hc]
    cases r with
    | nil =>
      have h2 : (nameB p || titleB p) = true := h
      show (true && ((p == [118] || nameB p || titleB p) && [x].all partB)) = partB x
      rw [Bool.or_assoc, h2]
      simp
    | cons q r =>
      have h2 : ((p == [118] || nameB p || titleB p) && (q :: r).all partB) = true := h
      rw [Bool.and_eq_true] at h2
      show (true && ((p == [118] || nameB p || titleB p) && (q :: r ++ [x]).all partB)) = partB x
      rw [h2.1, List.all_append, h2.2]
      simp

set_option maxRecDepth 100000 in
set_option maxHeartbeats 8000000 in
theorem walk (s : ByteArray) (w : World) (henv : Env w) (htab : Tabx w) : Calls Tryd.prog 7 #[.string s] w fun e w' => e = .returned (.bool true) ∧ Below w.heap.size w w' := by
  by_cases h4 : s.size ≤ 10000
  · have q4 : ¬ (10000 : Int) < (s.size : Int) := by omega
    cases hk : kwB s.data.toList with
    | true =>
      obtain ⟨hn, ht, hc⟩ := kw_apart hk
      have CK : Calls Tryd.prog 15 #[.string s] w fun e w' => e = .returned (.int .i64 3) ∧ w = w' := by
        have := check_any s w henv.nt
        rwa [hn] at this
      have CT : Calls Tryd.prog 17 #[.string s] w fun e w' => e = .returned (.int .i64 3) ∧ w = w' := by
        have := title_any s w henv.nt
        rwa [ht] at this
      have CC : Calls Tryd.prog 19 #[.string s] w fun e w' => e = .returned (.int .i64 3) ∧ Below w.heap.size w w' := by
        have := core_any s w henv
        rwa [hc] at this
      have KW : ∀ W, Env W → Calls Tryd.prog 13 #[.string s] W fun e w' => e = .returned (.bool true) ∧ W = w' := fun W h => by
        have := keyword_any s W h.nt
        rwa [hk] at this
      have HE := Lib.hid henv
      have HT := Lib.hid htab
      clear hn ht hc hk henv htab
      go_enter Tryd.func7, Tryd.ntmps7
      go_wp2_with fail
      ((with_reducible refine CK.mono ?_); rintro e wx ⟨rfl, rfl⟩)
      go_wp2_with fail
      ((with_reducible refine CT.mono ?_); rintro e wx ⟨rfl, rfl⟩)
      go_wp2_with fail
      (refine CC.mono ?_); rintro e w1 ⟨rfl, hb⟩
      have HE1 := Lib.hid (HE.out.below hb)
      have HB1 := Lib.hid hb
      clear hb
      go_wp2_with fail
      ((with_reducible refine (KW w1 HE1.out).mono ?_); rintro e wx ⟨rfl, rfl⟩)
      go_wp2_with fail
      (refine (alive_any w1 HE1.out (tabx_on HT.out HB1.out)).mono ?_); rintro e w9 ⟨rfl, hb⟩
      have HB9 := Lib.hid (nbelow_on HB1.out hb)
      clear hb
      go_wp2_with fail
      go_ret
      exact ⟨rfl, HB9.out⟩
    | false =>
      cases hn : nameB s.data.toList with
      | true =>
        have ht := apart_nt hn
        have hc := name_core hn
        by_cases h8 : s.size ≤ 118
        · have q8 : ¬ (118 : Int) < (s.size : Int) := by omega
          have CK : Calls Tryd.prog 15 #[.string s] w fun e w' => e = .returned (.int .i64 0) ∧ w = w' := by
            have := check_any s w henv.nt
            rwa [hn] at this
          have CT : Calls Tryd.prog 17 #[.string s] w fun e w' => e = .returned (.int .i64 3) ∧ w = w' := by
            have := title_any s w henv.nt
            rwa [ht] at this
          have CC : Calls Tryd.prog 19 #[.string s] w fun e w' => e = .returned (.int .i64 0) ∧ Below w.heap.size w w' := by
            have := core_any s w henv
            rwa [hc] at this
          have KW : ∀ W, Env W → Calls Tryd.prog 13 #[.string s] W fun e w' => e = .returned (.bool false) ∧ W = w' := fun W h => by
            have := keyword_any s W h.nt
            rwa [hk] at this
          have E0 : ∀ W, Env W → Calls Tryd.prog 19 #[.string (s ++ ⟨#[46, 97]⟩)] W fun e w' => e = .returned (.int .i64 0) ∧ Below W.heap.size W w' := fun W h => by
            have := core_any (s ++ ⟨#[46, 97]⟩) W h
            rwa [cat_list, core_snoc (x := [97]) hc (by rw [← size_list]; simp; omega) (by decide), show errI (partB [97]) = 0 from by decide] at this
          have E1 : ∀ W, Env W → Calls Tryd.prog 19 #[.string (s ++ ⟨#[46]⟩)] W fun e w' => e = .returned (.int .i64 3) ∧ Below W.heap.size W w' := fun W h => by
            have := core_any (s ++ ⟨#[46]⟩) W h
            rwa [cat_list, core_snoc (x := []) hc (by rw [← size_list]; simp; omega) (by decide), show errI (partB []) = 3 from by decide] at this
          have E2 : ∀ W, Env W → Calls Tryd.prog 19 #[.string (s ++ ⟨#[46, 95]⟩)] W fun e w' => e = .returned (.int .i64 3) ∧ Below W.heap.size W w' := fun W h => by
            have := core_any (s ++ ⟨#[46, 95]⟩) W h
            rwa [cat_list, core_snoc (x := [95]) hc (by rw [← size_list]; simp; omega) (by decide), show errI (partB [95]) = 3 from by decide] at this
          have HE := Lib.hid henv
          have HT := Lib.hid htab
          clear hn ht hc hk henv htab
          go_enter Tryd.func7, Tryd.ntmps7
          go_wp2_with fail
          ((with_reducible refine CK.mono ?_); rintro e wx ⟨rfl, rfl⟩)
          go_wp2_with fail
          ((with_reducible refine CT.mono ?_); rintro e wx ⟨rfl, rfl⟩)
          go_wp2_with fail
          (refine CC.mono ?_); rintro e w1 ⟨rfl, hb⟩
          have HE1 := Lib.hid (HE.out.below hb)
          have HB1 := Lib.hid hb
          clear hb
          go_wp2_with fail
          ((with_reducible refine (KW w1 HE1.out).mono ?_); rintro e wx ⟨rfl, rfl⟩)
          go_wp2_with fail
          (refine (E0 w1 HE1.out).mono ?_); rintro e w2 ⟨rfl, hb⟩
          have HE2 := Lib.hid (HE1.out.below hb)
          have HB2 := Lib.hid (nbelow_on HB1.out hb)
          clear hb
          go_wp2_with fail
          (refine (E1 w2 HE2.out).mono ?_); rintro e w3 ⟨rfl, hb⟩
          have HE3 := Lib.hid (HE2.out.below hb)
          have HB3 := Lib.hid (nbelow_on HB2.out hb)
          clear hb
          go_wp2_with fail
          (refine (E2 w3 HE3.out).mono ?_); rintro e w4 ⟨rfl, hb⟩
          have HE4 := Lib.hid (HE3.out.below hb)
          have HB4 := Lib.hid (nbelow_on HB3.out hb)
          clear hb
          go_wp2_with fail
          (refine (alive_any w4 HE4.out (tabx_on HT.out HB4.out)).mono ?_); rintro e w9 ⟨rfl, hb⟩
          have HB9 := Lib.hid (nbelow_on HB4.out hb)
          clear hb
          go_wp2_with fail
          go_ret
          exact ⟨rfl, HB9.out⟩
        · have q8 : (118 : Int) < (s.size : Int) := by omega
          have CK : Calls Tryd.prog 15 #[.string s] w fun e w' => e = .returned (.int .i64 0) ∧ w = w' := by
            have := check_any s w henv.nt
            rwa [hn] at this
          have CT : Calls Tryd.prog 17 #[.string s] w fun e w' => e = .returned (.int .i64 3) ∧ w = w' := by
            have := title_any s w henv.nt
            rwa [ht] at this
          have CC : Calls Tryd.prog 19 #[.string s] w fun e w' => e = .returned (.int .i64 0) ∧ Below w.heap.size w w' := by
            have := core_any s w henv
            rwa [hc] at this
          have KW : ∀ W, Env W → Calls Tryd.prog 13 #[.string s] W fun e w' => e = .returned (.bool false) ∧ W = w' := fun W h => by
            have := keyword_any s W h.nt
            rwa [hk] at this
          have HE := Lib.hid henv
          have HT := Lib.hid htab
          clear hn ht hc hk henv htab
          go_enter Tryd.func7, Tryd.ntmps7
          go_wp2_with fail
          ((with_reducible refine CK.mono ?_); rintro e wx ⟨rfl, rfl⟩)
          go_wp2_with fail
          ((with_reducible refine CT.mono ?_); rintro e wx ⟨rfl, rfl⟩)
          go_wp2_with fail
          (refine CC.mono ?_); rintro e w1 ⟨rfl, hb⟩
          have HE1 := Lib.hid (HE.out.below hb)
          have HB1 := Lib.hid hb
          clear hb
          go_wp2_with fail
          ((with_reducible refine (KW w1 HE1.out).mono ?_); rintro e wx ⟨rfl, rfl⟩)
          go_wp2_with fail
          (refine (alive_any w1 HE1.out (tabx_on HT.out HB1.out)).mono ?_); rintro e w9 ⟨rfl, hb⟩
          have HB9 := Lib.hid (nbelow_on HB1.out hb)
          clear hb
          go_wp2_with fail
          go_ret
          exact ⟨rfl, HB9.out⟩
      | false =>
        cases ht : titleB s.data.toList with
        | true =>
          have hc := title_core ht
          by_cases h8 : s.size ≤ 118
          · have q8 : ¬ (118 : Int) < (s.size : Int) := by omega
            have CK : Calls Tryd.prog 15 #[.string s] w fun e w' => e = .returned (.int .i64 3) ∧ w = w' := by
              have := check_any s w henv.nt
              rwa [hn] at this
            have CT : Calls Tryd.prog 17 #[.string s] w fun e w' => e = .returned (.int .i64 0) ∧ w = w' := by
              have := title_any s w henv.nt
              rwa [ht] at this
            have CC : Calls Tryd.prog 19 #[.string s] w fun e w' => e = .returned (.int .i64 0) ∧ Below w.heap.size w w' := by
              have := core_any s w henv
              rwa [hc] at this
            have KW : ∀ W, Env W → Calls Tryd.prog 13 #[.string s] W fun e w' => e = .returned (.bool false) ∧ W = w' := fun W h => by
              have := keyword_any s W h.nt
              rwa [hk] at this
            have E0 : ∀ W, Env W → Calls Tryd.prog 19 #[.string (s ++ ⟨#[46, 97]⟩)] W fun e w' => e = .returned (.int .i64 0) ∧ Below W.heap.size W w' := fun W h => by
              have := core_any (s ++ ⟨#[46, 97]⟩) W h
              rwa [cat_list, core_snoc (x := [97]) hc (by rw [← size_list]; simp; omega) (by decide), show errI (partB [97]) = 0 from by decide] at this
            have E1 : ∀ W, Env W → Calls Tryd.prog 19 #[.string (s ++ ⟨#[46]⟩)] W fun e w' => e = .returned (.int .i64 3) ∧ Below W.heap.size W w' := fun W h => by
              have := core_any (s ++ ⟨#[46]⟩) W h
              rwa [cat_list, core_snoc (x := []) hc (by rw [← size_list]; simp; omega) (by decide), show errI (partB []) = 3 from by decide] at this
            have E2 : ∀ W, Env W → Calls Tryd.prog 19 #[.string (s ++ ⟨#[46, 95]⟩)] W fun e w' => e = .returned (.int .i64 3) ∧ Below W.heap.size W w' := fun W h => by
              have := core_any (s ++ ⟨#[46, 95]⟩) W h
              rwa [cat_list, core_snoc (x := [95]) hc (by rw [← size_list]; simp; omega) (by decide), show errI (partB [95]) = 3 from by decide] at this
            have HE := Lib.hid henv
            have HT := Lib.hid htab
            clear hn ht hc hk henv htab
            go_enter Tryd.func7, Tryd.ntmps7
            go_wp2_with fail
            ((with_reducible refine CK.mono ?_); rintro e wx ⟨rfl, rfl⟩)
            go_wp2_with fail
            ((with_reducible refine CT.mono ?_); rintro e wx ⟨rfl, rfl⟩)
            go_wp2_with fail
            (refine CC.mono ?_); rintro e w1 ⟨rfl, hb⟩
            have HE1 := Lib.hid (HE.out.below hb)
            have HB1 := Lib.hid hb
            clear hb
            go_wp2_with fail
            ((with_reducible refine (KW w1 HE1.out).mono ?_); rintro e wx ⟨rfl, rfl⟩)
            go_wp2_with fail
            (refine (E0 w1 HE1.out).mono ?_); rintro e w2 ⟨rfl, hb⟩
            have HE2 := Lib.hid (HE1.out.below hb)
            have HB2 := Lib.hid (nbelow_on HB1.out hb)
            clear hb
            go_wp2_with fail
            (refine (E1 w2 HE2.out).mono ?_); rintro e w3 ⟨rfl, hb⟩
            have HE3 := Lib.hid (HE2.out.below hb)
            have HB3 := Lib.hid (nbelow_on HB2.out hb)
            clear hb
            go_wp2_with fail
            (refine (E2 w3 HE3.out).mono ?_); rintro e w4 ⟨rfl, hb⟩
            have HE4 := Lib.hid (HE3.out.below hb)
            have HB4 := Lib.hid (nbelow_on HB3.out hb)
            clear hb
            go_wp2_with fail
            (refine (alive_any w4 HE4.out (tabx_on HT.out HB4.out)).mono ?_); rintro e w9 ⟨rfl, hb⟩
            have HB9 := Lib.hid (nbelow_on HB4.out hb)
            clear hb
            go_wp2_with fail
            go_ret
            exact ⟨rfl, HB9.out⟩
          · have q8 : (118 : Int) < (s.size : Int) := by omega
            have CK : Calls Tryd.prog 15 #[.string s] w fun e w' => e = .returned (.int .i64 3) ∧ w = w' := by
              have := check_any s w henv.nt
              rwa [hn] at this
            have CT : Calls Tryd.prog 17 #[.string s] w fun e w' => e = .returned (.int .i64 0) ∧ w = w' := by
              have := title_any s w henv.nt
              rwa [ht] at this
            have CC : Calls Tryd.prog 19 #[.string s] w fun e w' => e = .returned (.int .i64 0) ∧ Below w.heap.size w w' := by
              have := core_any s w henv
              rwa [hc] at this
            have KW : ∀ W, Env W → Calls Tryd.prog 13 #[.string s] W fun e w' => e = .returned (.bool false) ∧ W = w' := fun W h => by
              have := keyword_any s W h.nt
              rwa [hk] at this
            have HE := Lib.hid henv
            have HT := Lib.hid htab
            clear hn ht hc hk henv htab
            go_enter Tryd.func7, Tryd.ntmps7
            go_wp2_with fail
            ((with_reducible refine CK.mono ?_); rintro e wx ⟨rfl, rfl⟩)
            go_wp2_with fail
            ((with_reducible refine CT.mono ?_); rintro e wx ⟨rfl, rfl⟩)
            go_wp2_with fail
            (refine CC.mono ?_); rintro e w1 ⟨rfl, hb⟩
            have HE1 := Lib.hid (HE.out.below hb)
            have HB1 := Lib.hid hb
            clear hb
            go_wp2_with fail
            ((with_reducible refine (KW w1 HE1.out).mono ?_); rintro e wx ⟨rfl, rfl⟩)
            go_wp2_with fail
            (refine (alive_any w1 HE1.out (tabx_on HT.out HB1.out)).mono ?_); rintro e w9 ⟨rfl, hb⟩
            have HB9 := Lib.hid (nbelow_on HB1.out hb)
            clear hb
            go_wp2_with fail
            go_ret
            exact ⟨rfl, HB9.out⟩
        | false =>
          cases hc : coreB s.data.toList with
          | true =>
            by_cases h8 : s.size ≤ 118
            · have q8 : ¬ (118 : Int) < (s.size : Int) := by omega
              have CK : Calls Tryd.prog 15 #[.string s] w fun e w' => e = .returned (.int .i64 3) ∧ w = w' := by
                have := check_any s w henv.nt
                rwa [hn] at this
              have CT : Calls Tryd.prog 17 #[.string s] w fun e w' => e = .returned (.int .i64 3) ∧ w = w' := by
                have := title_any s w henv.nt
                rwa [ht] at this
              have CC : Calls Tryd.prog 19 #[.string s] w fun e w' => e = .returned (.int .i64 0) ∧ Below w.heap.size w w' := by
                have := core_any s w henv
                rwa [hc] at this
              have KW : ∀ W, Env W → Calls Tryd.prog 13 #[.string s] W fun e w' => e = .returned (.bool false) ∧ W = w' := fun W h => by
                have := keyword_any s W h.nt
                rwa [hk] at this
              have E0 : ∀ W, Env W → Calls Tryd.prog 19 #[.string (s ++ ⟨#[46, 97]⟩)] W fun e w' => e = .returned (.int .i64 0) ∧ Below W.heap.size W w' := fun W h => by
                have := core_any (s ++ ⟨#[46, 97]⟩) W h
                rwa [cat_list, core_snoc (x := [97]) hc (by rw [← size_list]; simp; omega) (by decide), show errI (partB [97]) = 0 from by decide] at this
              have E1 : ∀ W, Env W → Calls Tryd.prog 19 #[.string (s ++ ⟨#[46]⟩)] W fun e w' => e = .returned (.int .i64 3) ∧ Below W.heap.size W w' := fun W h => by
                have := core_any (s ++ ⟨#[46]⟩) W h
                rwa [cat_list, core_snoc (x := []) hc (by rw [← size_list]; simp; omega) (by decide), show errI (partB []) = 3 from by decide] at this
              have E2 : ∀ W, Env W → Calls Tryd.prog 19 #[.string (s ++ ⟨#[46, 95]⟩)] W fun e w' => e = .returned (.int .i64 3) ∧ Below W.heap.size W w' := fun W h => by
                have := core_any (s ++ ⟨#[46, 95]⟩) W h
                rwa [cat_list, core_snoc (x := [95]) hc (by rw [← size_list]; simp; omega) (by decide), show errI (partB [95]) = 3 from by decide] at this
              have HE := Lib.hid henv
              have HT := Lib.hid htab
              clear hn ht hc hk henv htab
              go_enter Tryd.func7, Tryd.ntmps7
              go_wp2_with fail
              ((with_reducible refine CK.mono ?_); rintro e wx ⟨rfl, rfl⟩)
              go_wp2_with fail
              ((with_reducible refine CT.mono ?_); rintro e wx ⟨rfl, rfl⟩)
              go_wp2_with fail
              (refine CC.mono ?_); rintro e w1 ⟨rfl, hb⟩
              have HE1 := Lib.hid (HE.out.below hb)
              have HB1 := Lib.hid hb
              clear hb
              go_wp2_with fail
              ((with_reducible refine (KW w1 HE1.out).mono ?_); rintro e wx ⟨rfl, rfl⟩)
              go_wp2_with fail
              (refine (E0 w1 HE1.out).mono ?_); rintro e w2 ⟨rfl, hb⟩
              have HE2 := Lib.hid (HE1.out.below hb)
              have HB2 := Lib.hid (nbelow_on HB1.out hb)
              clear hb
              go_wp2_with fail
              (refine (E1 w2 HE2.out).mono ?_); rintro e w3 ⟨rfl, hb⟩
              have HE3 := Lib.hid (HE2.out.below hb)
              have HB3 := Lib.hid (nbelow_on HB2.out hb)
              clear hb
              go_wp2_with fail
              (refine (E2 w3 HE3.out).mono ?_); rintro e w4 ⟨rfl, hb⟩
              have HE4 := Lib.hid (HE3.out.below hb)
              have HB4 := Lib.hid (nbelow_on HB3.out hb)
              clear hb
              go_wp2_with fail
              (refine (alive_any w4 HE4.out (tabx_on HT.out HB4.out)).mono ?_); rintro e w9 ⟨rfl, hb⟩
              have HB9 := Lib.hid (nbelow_on HB4.out hb)
              clear hb
              go_wp2_with fail
              go_ret
              exact ⟨rfl, HB9.out⟩
            · have q8 : (118 : Int) < (s.size : Int) := by omega
              have CK : Calls Tryd.prog 15 #[.string s] w fun e w' => e = .returned (.int .i64 3) ∧ w = w' := by
                have := check_any s w henv.nt
                rwa [hn] at this
              have CT : Calls Tryd.prog 17 #[.string s] w fun e w' => e = .returned (.int .i64 3) ∧ w = w' := by
                have := title_any s w henv.nt
                rwa [ht] at this
              have CC : Calls Tryd.prog 19 #[.string s] w fun e w' => e = .returned (.int .i64 0) ∧ Below w.heap.size w w' := by
                have := core_any s w henv
                rwa [hc] at this
              have KW : ∀ W, Env W → Calls Tryd.prog 13 #[.string s] W fun e w' => e = .returned (.bool false) ∧ W = w' := fun W h => by
                have := keyword_any s W h.nt
                rwa [hk] at this
              have HE := Lib.hid henv
              have HT := Lib.hid htab
              clear hn ht hc hk henv htab
              go_enter Tryd.func7, Tryd.ntmps7
              go_wp2_with fail
              ((with_reducible refine CK.mono ?_); rintro e wx ⟨rfl, rfl⟩)
              go_wp2_with fail
              ((with_reducible refine CT.mono ?_); rintro e wx ⟨rfl, rfl⟩)
              go_wp2_with fail
              (refine CC.mono ?_); rintro e w1 ⟨rfl, hb⟩
              have HE1 := Lib.hid (HE.out.below hb)
              have HB1 := Lib.hid hb
              clear hb
              go_wp2_with fail
              ((with_reducible refine (KW w1 HE1.out).mono ?_); rintro e wx ⟨rfl, rfl⟩)
              go_wp2_with fail
              (refine (alive_any w1 HE1.out (tabx_on HT.out HB1.out)).mono ?_); rintro e w9 ⟨rfl, hb⟩
              have HB9 := Lib.hid (nbelow_on HB1.out hb)
              clear hb
              go_wp2_with fail
              go_ret
              exact ⟨rfl, HB9.out⟩
          | false =>
            have CK : Calls Tryd.prog 15 #[.string s] w fun e w' => e = .returned (.int .i64 3) ∧ w = w' := by
              have := check_any s w henv.nt
              rwa [hn] at this
            have CT : Calls Tryd.prog 17 #[.string s] w fun e w' => e = .returned (.int .i64 3) ∧ w = w' := by
              have := title_any s w henv.nt
              rwa [ht] at this
            have CC : Calls Tryd.prog 19 #[.string s] w fun e w' => e = .returned (.int .i64 3) ∧ Below w.heap.size w w' := by
              have := core_any s w henv
              rwa [hc] at this
            have KW : ∀ W, Env W → Calls Tryd.prog 13 #[.string s] W fun e w' => e = .returned (.bool false) ∧ W = w' := fun W h => by
              have := keyword_any s W h.nt
              rwa [hk] at this
            have HE := Lib.hid henv
            have HT := Lib.hid htab
            clear hn ht hc hk henv htab
            go_enter Tryd.func7, Tryd.ntmps7
            go_wp2_with fail
            ((with_reducible refine CK.mono ?_); rintro e wx ⟨rfl, rfl⟩)
            go_wp2_with fail
            ((with_reducible refine CT.mono ?_); rintro e wx ⟨rfl, rfl⟩)
            go_wp2_with fail
            (refine CC.mono ?_); rintro e w1 ⟨rfl, hb⟩
            have HE1 := Lib.hid (HE.out.below hb)
            have HB1 := Lib.hid hb
            clear hb
            go_wp2_with fail
            ((with_reducible refine (KW w1 HE1.out).mono ?_); rintro e wx ⟨rfl, rfl⟩)
            go_wp2_with fail
            (refine (alive_any w1 HE1.out (tabx_on HT.out HB1.out)).mono ?_); rintro e w9 ⟨rfl, hb⟩
            have HB9 := Lib.hid (nbelow_on HB1.out hb)
            clear hb
            go_wp2_with fail
            go_ret
            exact ⟨rfl, HB9.out⟩
  · have q4 : (10000 : Int) < (s.size : Int) := by omega
    have HB := Lib.hid (alive_any w henv htab)
    clear henv htab
    go_enter Tryd.func7, Tryd.ntmps7
    go_wp2_with fail
    (refine HB.out.mono ?_); rintro e w9 ⟨rfl, hb⟩
    have HB9 := Lib.hid hb
    clear hb
    go_wp2_with fail
    go_ret
    exact ⟨rfl, HB9.out⟩

set_option maxRecDepth 100000 in
theorem contract (H : Type) (enc : TypeId × Value → H) (W : World) (base : Nat) (args : Array Value) (ds gs : List (DataW H)) (before : List MemPlace)
    (hval : ∀ (j : Nat) t v, Tryd.f7.params[j]? = some t → args[j]? = some v → Value.okWide Tryd.prog W .any base t v)
    (hW : DataW.Whole enc Tryd.prog Tryd.f7.params.toList Rows.namesApartSpec.vars false W args.toList ds gs before) (hL : laidMetH Tryd.prog Rows.namesApartRow.laid W) (hSh : W.ShapedOpen Tryd.prog) :
    Calls Tryd.prog 7 args W fun e W' => ∃ v, e = .returned v ∧ Rows.namesApartSpec.post enc Tryd.prog Tryd.f7 false true false false W args v W' := by
  have hW' := hW
  obtain ⟨p, q, hA0, hV, rfl, hfz, hnd⟩ := hW
  have hA : DataW.TrodAll enc Tryd.prog W 0 (fun _ => true) true Tryd.f7.params.toList args.toList ds p := hA0
  have hlt : ∀ x ∈ p, x.block < W.heap.size := fun x hx => hW'.lt x (by simp [hx])
  have hAll := hA
  rw [Tryd.params7] at hA hval
  obtain ⟨v0, vs0, d0, ds0, p0, q0, hargs, rfl, rfl, h0, r0⟩ := trodAll_cons hA
  obtain ⟨rfl, rfl, rfl⟩ := trodAll_nil r0
  obtain rfl : args = #[v0] := by cases args; simp_all
  obtain ⟨rfl, rfl⟩ := trodVars_none hV
  obtain ⟨t1, rfl, _, _, g1⟩ := open_string Tryd.underlying9 (hval 0 9 v0 rfl rfl) h0
  refine (walk t1 W (env_of_laid hL hSh) (tabx_of_laid hL)).mono fun e W' ⟨he, hg⟩ => ?_
  subst he
  refine ⟨_, rfl, _, _, _, [], _, [], hW', trodAll_mk1 (shut_bool Tryd.underlying4 _), trodAll_below hg (fun t ht => ?_) hAll hlt, rfl, hg.frame _, fun h => by cases h⟩
  rw [Tryd.params7] at ht
  simp only [List.mem_cons, List.not_mem_nil, or_false] at ht
  rcases ht with rfl
  · exact read_string

set_option maxRecDepth 100000 in
theorem reads (os : Os) {H : Type} (enc : TypeId × Value → H) : ∃ places, DataW.whole enc Tryd.prog ((World.laidAll Tryd.prog os laidNames).forCall (fun _ _ => 0) ⟨#[], #[Value.string ByteArray.empty], []⟩).memory Tryd.f7.params.toList Rows.namesApartSpec.vars false #[Value.string ByteArray.empty].toList 8 = some ([.lit (.string [])], [], places) :=
  ⟨[], by kernel_rfl⟩

set_option maxRecDepth 100000 in
theorem lifted (os : Os) (started : os.Started) (H : Type) (enc : TypeId × Value → H) (F : Stop.Interp) :
    ReturnsInHanded {} Tryd.checked os 7 .any ((OpenSpec.ofChange Rows.namesApartSpec).preRow enc Tryd.prog Tryd.f7 Rows.namesApartRow.domain false Rows.namesApartRow.laid) (((OpenSpec.ofChange Rows.namesApartSpec).at F).post enc Tryd.prog Tryd.f7 false true false false) := by
  obtain ⟨places, hx⟩ := reads os enc
  refine returnsInHanded_of_row (C := Tryd.checked) (s := OpenSpec.ofChange Rows.namesApartSpec) own started (by kernel_rfl) Tryd.func7
    (witness_row_at (enc := enc) (C := Tryd.checked) false (World.laidAll Tryd.prog os laidNames) #[Value.string ByteArray.empty] rfl (by kernel_rfl) (by kernel_rfl) (by kernel_rfl)
      (OpenSpec.preRow_of_cond 8 hx (by kernel_rfl) (fun k hk => by cases hk) (by kernel_rfl) (laid_met os _))) ?_
  intro W base args ds gs before hval hW _ _ _ hL hSh _
  exact contract H enc W base args ds gs before hval hW hL hSh

theorem said : Rows.NamesApartSaid :=
  OpenClaim.holds_of_cond 7 Tryd.f7 rfl rfl rfl rfl rfl rfl rfl ⟨rfl, rfl, rfl, rfl, rfl⟩ rfl rfl rfl rfl rfl (by kernel_rfl) Tryd.func7 (by kernel_rfl)
    (of_decide_eq_true (by kernel_rfl)) (by unfold Func.isWrapper; first | (rw [if_pos (by decide +kernel)]; kernel_rfl) | (rw [if_neg (by decide +kernel)]; exact ⟨rfl, rfl⟩))
    (fun os started H enc _ F => by rw [OpenClaim.pre_eq_preRow]; exact lifted os started H enc F)

theorem plain (f : FuncId) (fn : Func) (hf : Tryd.pinned.checked.prog.funcNamed "liquidcheck/liquidchecklaw04.NamesApart" = some f) (hfn : Tryd.pinned.checked.prog.funcs[f]? = some fn) :
    false = Tryd.pinned.checked.prog.looks [] ∧ ∀ (j : Nat) t, fn.params[j]? = some t → Tryd.pinned.checked.prog.wantsStandIn t = false := by
  obtain rfl : f = 7 := Option.some.inj ((show Tryd.prog.funcNamed "liquidcheck/liquidchecklaw04.NamesApart" = some 7 by kernel_rfl).symm.trans hf) |>.symm
  obtain rfl : fn = Tryd.f7 := (Option.some.inj (Tryd.func7.symm.trans hfn)).symm
  refine ⟨by kernel_rfl, fun j t ht => ?_⟩
  rw [Tryd.params7] at ht
  have hm := Array.mem_of_getElem? ht
  simp only [List.mem_toArray, List.mem_cons, List.not_mem_nil, or_false] at hm
  rcases hm with rfl
  · exact (show Tryd.prog.wantsStandIn 9 = false by kernel_rfl)

theorem card : Rows.NamesApartCardSaid :=
  Claim7.holds_tied_plain_at .later [] _ _ _ _ said (fun _ h => by cases h) (by kernel_rfl) (fun _ h => by cases h) namesApart_row_tie rfl ⟨rfl, rfl⟩ (by kernel_rfl) rfl plain (by kernel_rfl)
end Go.Proofs.YtfenmogbellhdaaDoor.namesApart
