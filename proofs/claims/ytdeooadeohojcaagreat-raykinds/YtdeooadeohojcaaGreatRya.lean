/-
  Plain facts on floats, more: rounding to the nearest rung, sums and products of finite floats, signs turned. No program is named here.
-/
import Derived.Test.YtdeooadeohojcaaGreatLsd
namespace Go.Proofs.YtdeooadeohojcaaGreat
open Ieee Go.RowKit
set_option linter.unusedSimpArgs false
set_option linter.unusedVariables false

theorem le_n (x y : Nat) : leK .f64 x y = leK .f64 (bitsK x) (bitsK y) := by
  cases hx : nanK .f64 x
  · cases hy : nanK .f64 y
    · rw [bits_num hx, bits_num hy]
    · rw [bits_nan hy]; unfold leK; rw [hy, none_nan]; simp
  · rw [bits_nan hx]; unfold leK; rw [hx, none_nan]; simp
theorem eq_n (x y : Nat) : eqK .f64 x y = eqK .f64 (bitsK x) (bitsK y) := by
  cases hx : nanK .f64 x
  · cases hy : nanK .f64 y
    · rw [bits_num hx, bits_num hy]
    · rw [bits_nan hy]; unfold eqK; rw [hy, none_nan]; simp
  · rw [bits_nan hx]; unfold eqK; rw [hx, none_nan]; simp
theorem wi_n (x y : Nat) (hy : nanK .f64 y = false) : withinK .f64 x y = withinK .f64 (bitsK x) y := by
  unfold withinK
  rw [le_n, le_n x y, le_n (Op.negFloat .f64 y) (bitsK x), le_n (bitsK x) y, bits_bits]
theorem le_is {s S t T : Nat} (h : isF s S) (g : isF t T) : leK .f64 s t = leK .f64 S T := by rw [le_n, h.2, g.2]
theorem eq_is {s S t T : Nat} (h : isF s S) (g : isF t T) : eqK .f64 s t = eqK .f64 S T := by rw [eq_n, h.2, g.2]
theorem ib_is {x y : Nat} {P : Vp} (h : isP x y P) : inB x y = inB P.1 P.2 := by
  unfold inB
  rw [wi_n x _ (by decide +kernel), wi_n y _ (by decide +kernel), ← h.2.2]
  rfl
theorem min_is : isF 4472074429978902528 4472074429978902528 := ⟨by rw [okK64]; decide, by decide +kernel⟩
theorem max_is : isF 4787326403894837248 4787326403894837248 := ⟨by rw [okK64]; decide, by decide +kernel⟩
theorem one_is : isF 4607182418800017408 4607182418800017408 := ⟨by rw [okK64]; decide, by decide +kernel⟩
theorem rd_is {r R : Nat} (h : isF r R) : rdB r = rdB R := by
  unfold rdB
  rw [le_is min_is h, le_is h max_is]
/-- a part of the way -/
def paB (t : Nat) : Bool := leK .f64 0 t && leK .f64 t 4607182418800017408
theorem pa_is {t T : Nat} (h : isF t T) : paB t = paB T := by
  unfold paB
  rw [le_is isF_zero h, le_is h one_is]
def ngF (x : Nat) : Nat := bitsK (Op.negFloat .f64 x)
theorem ng_is {x X : Nat} (h : isF x X) : isF (Op.negFloat .f64 x) (ngF X) := by
  refine ⟨neg_ok h.1, ?_⟩
  unfold ngF
  rw [← h.2]
  cases hx : nanK .f64 x
  · rw [bits_num hx]
  · have e : nanK .f64 (Op.negFloat .f64 x) = true := by
      obtain ⟨h1, _, _⟩ := neg_facts .f64 x h.1
      rw [nanK_eq] at hx ⊢
      rw [h1]; exact hx
    rw [bits_nan e, bits_nan hx]
    decide +kernel
def ngP (v : Vp) : Vp := (ngF v.1, ngF v.2)
def rtP (v : Vp) : Vp := (v.2, ngF v.1)
def lfP (v : Vp) : Vp := (ngF v.2, v.1)
theorem isP_parts {x y : Nat} {P : Vp} (h : isP x y P) : isF x P.1 ∧ isF y P.2 := by
  obtain ⟨h1, h2, h3⟩ := h
  rw [← h3]
  exact ⟨⟨h1, rfl⟩, ⟨h2, rfl⟩⟩
theorem isP_of {x y X Y : Nat} (h : isF x X) (g : isF y Y) : isP x y (X, Y) := ⟨h.1, g.1, by unfold nP; rw [h.2, g.2]⟩
theorem ngP_is {x y : Nat} {P : Vp} (h : isP x y P) : isP (Op.negFloat .f64 x) (Op.negFloat .f64 y) (ngP P) :=
  isP_of (ng_is (isP_parts h).1) (ng_is (isP_parts h).2)
theorem rtP_is {x y : Nat} {P : Vp} (h : isP x y P) : isP y (Op.negFloat .f64 x) (rtP P) := isP_of (isP_parts h).2 (ng_is (isP_parts h).1)
theorem lfP_is {x y : Nat} {P : Vp} (h : isP x y P) : isP (Op.negFloat .f64 y) x (lfP P) := isP_of (ng_is (isP_parts h).2) (isP_parts h).1
def adF (a b : Vp) : Vp := (oF .add a.1 b.1, oF .add a.2 b.2)
def scF (a : Vp) (s : Nat) : Vp := (oF .mul a.1 s, oF .mul a.2 s)
theorem AddR.is {ax ay bx b_y x y : Nat} {A B : Vp} (h : AddR ax ay bx b_y x y) (ha : isP ax ay A) (hb : isP bx b_y B) : isP x y (adF A B) :=
  isP_of ⟨h.1.1, by rw [res_n h.1, (isP_parts ha).1.2, (isP_parts hb).1.2]⟩ ⟨h.2.1, by rw [res_n h.2, (isP_parts ha).2.2, (isP_parts hb).2.2]⟩
theorem ScaleR.is {ax ay s x y S : Nat} {A : Vp} (h : ScaleR ax ay s x y) (ha : isP ax ay A) (hs : isF s S) : isP x y (scF A S) :=
  isP_of ⟨h.1.1, by rw [res_n h.1, (isP_parts ha).1.2, hs.2]⟩ ⟨h.2.1, by rw [res_n h.2, (isP_parts ha).2.2, hs.2]⟩
def uvO (v : Vp) : Bool := ltK .f64 0 (lnF v) && finK .f64 (lnF v)
def uvF (v : Vp) : Vp := pkF (uvO v) (oF .quo v.1 (lnF v), oF .quo v.2 (lnF v)) (0, 0)
theorem UnitR.uv {ax ay x y : Nat} {b : Bool} {W : Vp} (h : UnitR ax ay x y b) (hw : isP ax ay W) : isP x y (uvF W) ∧ b = uvO W := by
  obtain ⟨h1, h2⟩ := h.yes hw
  refine ⟨?_, h1⟩
  unfold uvF uvO
  rw [← h1]
  cases hb : b
  · rw [pkF_no rfl]
    obtain ⟨n, _, _, h4⟩ := h
    rw [hb] at h4
    simp at h4
    rw [h4.1, h4.2]
    exact isP_zero
  · rw [pkF_yes rfl]
    exact h2 hb
abbrev Ht := Vp × Vp × Nat
def isH (ax ay nx ny t : Nat) (h : Ht) : Prop := isP ax ay h.1 ∧ isP nx ny h.2.1 ∧ isF t h.2.2
theorem isH_of {ax ay nx ny t : Nat} {P N : Vp} {T : Nat} (h1 : isP ax ay P) (h2 : isP nx ny N) (h3 : isF t T) : isH ax ay nx ny t (P, N, T) := ⟨h1, h2, h3⟩
def zeH : Ht := ((0, 0), (0, 0), 0)
theorem zeH_is : isH 0 0 0 0 0 zeH := ⟨isP_zero, isP_zero, isF_zero⟩
def onH (f : Vp) : Ht := (f, (0, 0), 0)
theorem onH_is {x y : Nat} {P : Vp} (h : isP x y P) : isH x y 0 0 0 (onH P) := ⟨h, isP_zero, isF_zero⟩
/-- may the ray be? -/
def ryE (F W : Vp) : Int := if inB F.1 F.2 then (if inB W.1 W.2 && !ltK .f64 (lnF W) 4472074429978902528 then 0 else 120) else 5
def ciC (C : Vp) (R : Nat) (F : Vp) : Nat := oF .sub (dtF (suF F C) (suF F C)) (oF .mul R R)
def ciB (C F W : Vp) : Nat := dtF (suF F C) W
def ciD (C : Vp) (R : Nat) (F W : Vp) : Nat := oF .sub (oF .mul (ciB C F W) (ciB C F W)) (oF .mul (dtF W W) (ciC C R F))
def ciT (C : Vp) (R : Nat) (F W : Vp) : Nat := oF .quo (oF .sub (ngF (ciB C F W)) (qF (ciD C R F W))) (dtF W W)
def ciH (C : Vp) (R : Nat) (F W : Vp) : Ht := (moF F (ciT C R F W) W, uvF (suF (moF F (ciT C R F W) W) C), ciT C R F W)
def ciR (C : Vp) (R : Nat) (F W : Vp) : Bool × Ht :=
  pkF (ltK .f64 0 (ciC C R F)) (pkF (ltK .f64 (ciB C F W) 0 && !ltK .f64 (ciD C R F W) 0) (pkF (paB (ciT C R F W)) (true, ciH C R F W) (false, zeH)) (false, zeH)) (true, onH F)
def ciE (C : Vp) (R : Nat) (F W : Vp) : Int := if inB C.1 C.2 && rdB R then ryE F W else 5
def ciX (C : Vp) (R : Nat) (F W : Vp) : Bool × Ht := pkF (decide (ciE C R F W = 0)) (ciR C R F W) (false, zeH)
def sgD (A B W : Vp) : Nat := crF W (suF B A)
def sgT (A B F W : Vp) : Nat := oF .quo (crF (suF A F) (suF B A)) (sgD A B W)
def sgU (A B F W : Vp) : Nat := oF .quo (crF (suF A F) W) (sgD A B W)
def fcF (s w : Vp) : Vp := pkF (ltK .f64 0 (dtF (uvF (rtP s)) w)) (ngP (uvF (rtP s))) (uvF (rtP s))
def sgH (A B F W : Vp) : Ht := (moF F (sgT A B F W) W, fcF (suF B A) W, sgT A B F W)
def sgR (A B F W : Vp) : Bool × Ht := pkF (eqK .f64 (sgD A B W) 0) (false, zeH) (pkF (paB (sgT A B F W) && paB (sgU A B F W)) (true, sgH A B F W) (false, zeH))
def sgE (A B F W : Vp) : Int := if inB A.1 A.2 && inB B.1 B.2 && !ltK .f64 (lnF (suF B A)) 4472074429978902528 then ryE F W else 5
def sgX (A B F W : Vp) : Bool × Ht := pkF (decide (sgE A B F W = 0)) (sgR A B F W) (false, zeH)
end Go.Proofs.YtdeooadeohojcaaGreat
