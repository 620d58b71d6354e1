/-
  The examples of the chapter hold: the statements' common function returns true.
-/
import Derived.Test.YtfenmogbellhdaaGreatDoorBigX
import Derived.Test.YtfenmogbellhdaaGreatDoorBigV
import Derived.Test.YtfenmogbellhdaaGreatDoorBigH
import Derived.Test.YtfenmogbellhdaaGreatDoorBigI
import Derived.Test.YtfenmogbellhdaaGreatDoorBigL
import Derived.Test.YtfenmogbellhdaaGreatDoorBigM
namespace Go.Proofs.YtfenmogbellhdaaGreatDoor
open Go.RowKit

theorem fit_small {z : Int} (h1 : -10000000000000000 < z) (h2 : z < 10000000000000000) : fitB z = true := by
  rw [fitB_iff]
  have := pw_mono (show 4 ≤ 200 by omega)
  have e : pw 4 = 10000000000000000 := rfl
  omega
theorem lOf_lit {z : Int} {l : List Int} (h : dOk l) (t : topOk l) (v : val l = z.natAbs) : lOf z = l := by
  unfold lOf
  rw [← digs_val h t, v]
  congr 1
theorem add_ok (na nb : Bool) (A B : Option Addr) (n c m d : Nat) (xs ys : List Int) (za zb z : Int) (w : World) (ha : Sl w A n c xs) (hb : Sl w B m d ys) (hza : zOf na xs = za) (hzb : zOf nb ys = zb) (hz : za + zb = z) (hf : fitB z = true) :
    Calls Tryz.prog 81 #[.agg #[.bool na, .slice A n c], .agg #[.bool nb, .slice B m d]] w fun e w' => ∃ T k r, e = .returned (.tuple #[.agg #[.bool (nOf z), .slice T k r], .bool true]) ∧ Sl w' T k r (lOf z) ∧ Below w.heap.size w w' := by
  have := add_big na nb A B n c m d xs ys w ha hb
  rw [hza, hzb, hz, fitZ_of hf, hf] at this
  exact this
theorem sub_ok (na nb : Bool) (A B : Option Addr) (n c m d : Nat) (xs ys : List Int) (za zb z : Int) (w : World) (ha : Sl w A n c xs) (hb : Sl w B m d ys) (hza : zOf na xs = za) (hzb : zOf nb ys = zb) (hz : za + -zb = z) (hf : fitB z = true) :
    Calls Tryz.prog 52 #[.agg #[.bool na, .slice A n c], .agg #[.bool nb, .slice B m d]] w fun e w' => ∃ T k r, e = .returned (.tuple #[.agg #[.bool (nOf z), .slice T k r], .bool true]) ∧ Sl w' T k r (lOf z) ∧ Below w.heap.size w w' := by
  have := sub_big na nb A B n c m d xs ys w ha hb
  rw [hza, hzb, hz, fitZ_of hf, hf] at this
  exact this
theorem mul_ok (na nb : Bool) (A B : Option Addr) (n c m d : Nat) (xs ys : List Int) (za zb z : Int) (w : World) (ha : Sl w A n c xs) (hb : Sl w B m d ys) (hza : zOf na xs = za) (hzb : zOf nb ys = zb) (hz : za * zb = z) (hf : fitB z = true) :
    Calls Tryz.prog 75 #[.agg #[.bool na, .slice A n c], .agg #[.bool nb, .slice B m d]] w fun e w' => ∃ T k r, e = .returned (.tuple #[.agg #[.bool (nOf z), .slice T k r], .bool true]) ∧ Sl w' T k r (lOf z) ∧ Below w.heap.size w w' := by
  have := mul_big na nb A B n c m d xs ys w ha hb
  rw [hza, hzb, hz, fitZ_of hf, hf] at this
  exact this
theorem div_ok (na nb : Bool) (A B : Option Addr) (n c m d : Nat) (xs ys : List Int) (za zb q r : Int) (w : World) (ha : Sl w A n c xs) (hb : Sl w B m d ys) (hza : zOf na xs = za) (hzb : zOf nb ys = zb) (hq : qZ za zb = q) (hr : rZ za zb = r) (h0 : (zb != 0) = true) :
    Calls Tryz.prog 51 #[.agg #[.bool na, .slice A n c], .agg #[.bool nb, .slice B m d]] w fun e w' => ∃ T k t U l s, e = .returned (.tuple #[.agg #[.bool (nOf q), .slice T k t], .agg #[.bool (nOf r), .slice U l s], .bool true]) ∧ Sl w' T k t (lOf q) ∧ Sl w' U l s (lOf r) ∧ Below w.heap.size w w' := by
  have := div_big na nb A B n c m d xs ys w ha hb
  rw [hza, hzb, hq, hr, h0] at this
  exact this
theorem gcd_ok (na nb : Bool) (A B : Option Addr) (n c m d : Nat) (xs ys : List Int) (za zb z : Int) (w : World) (ha : Sl w A n c xs) (hb : Sl w B m d ys) (hza : zOf na xs = za) (hzb : zOf nb ys = zb) (hz : gZ za zb = z) :
    Calls Tryz.prog 50 #[.agg #[.bool na, .slice A n c], .agg #[.bool nb, .slice B m d]] w fun e w' => ∃ T k r, e = .returned (.agg #[.bool (nOf z), .slice T k r]) ∧ Sl w' T k r (lOf z) ∧ Below w.heap.size w w' := by
  have := gcd_big na nb A B n c m d xs ys w ha hb
  rw [hza, hzb, hz] at this
  exact this
theorem text_lit (na : Bool) (A : Option Addr) (n c : Nat) (xs : List Int) (z : Int) (l : List UInt8) (w : World) (ha : Sl w A n c xs) (htab : Tab w) (hz : zOf na xs = z) (hl : Lib.itoa z = l) :
    Calls Tryz.prog 42 #[.agg #[.bool na, .slice A n c]] w fun e w' => e = .returned (.string ⟨l.toArray⟩) ∧ Below w.heap.size w w' := by
  have := text_big na A n c xs w ha htab
  rw [hz, hl] at this
  exact this
theorem itoa_ex : Lib.itoa (-10001) = [45, 49, 48, 48, 48, 49] := by
  rw [itoa_form, if_pos (by decide)]
  show 45 :: Lib.decDigits 10001 = _
  rw [dec_big (by decide), dec_big (u := 10001 / 10) (by decide), dec_big (u := 10001 / 10 / 10) (by decide), dec_big (u := 10001 / 10 / 10 / 10) (by decide), dec_small (u := 10001 / 10 / 10 / 10 / 10) (by decide)]
  rfl
theorem parse_00 {ok : Bool} {z : Int} (h : PSpec [48, 48] ok z) : ok = false := by
  rcases h with ⟨_, _, he⟩ | ⟨h, _⟩
  · exfalso
    have h2 := (itoa_cut z).2
    rw [he] at h2
    have h3 : digits [48, 48] = [48, 48] := by decide
    rw [h3] at h2
    have h4 := dg_dec z.natAbs
    rw [← h2] at h4
    have h5 : dg [48, 48] = 0 := by decide
    rw [h5] at h4
    rw [show z.natAbs = 0 by omega, dec_small (by decide)] at h2
    exact absurd h2 (by decide)
  · exact h

end Go.Proofs.YtfenmogbellhdaaGreatDoor
