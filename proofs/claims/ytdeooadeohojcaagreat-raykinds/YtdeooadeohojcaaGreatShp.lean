/-
  Plain facts on floats, more: rounding to the nearest rung, sums and products of finite floats, signs turned. No program is named here.
-/
import Derived.Test.YtdeooadeohojcaaGreatGeo
namespace Go.Proofs.YtdeooadeohojcaaGreat
open Ieee Go.RowKit

def inB (x y : Nat) : Bool := withinK .f64 x 4787326403894837248 && withinK .f64 y 4787326403894837248
def rdB (r : Nat) : Bool := leK .f64 4472074429978902528 r && leK .f64 r 4787326403894837248
def rdE (xs ys : Nat → Nat) (n r : Nat) : Int := if reaB xs ys n && rdB r then 0 else 5
def cpB (x0 y0 x1 y1 : Nat) : Bool := ltK .f64 (lnK (Dv .sub x1 x0) (Dv .sub y1 y0)) 4472074429978902528
def kdE (k : Int) (r n : Nat) : Int := if k = 1 then (if n = 1 then 0 else 6) else if k = 2 then (if n = 2 then 0 else 6) else if k = 3 then (if 3 ≤ n ∧ n ≤ 8 ∧ eqK .f64 r 0 = true then 0 else 6) else 70
def ckE (xs ys : Nat → Nat) (r : Nat) : Int := if rdE xs ys 2 r = 0 then (if cpB (xs 0) (ys 0) (xs 1) (ys 1) then 6 else 0) else 5
def shE (k : Int) (r : Nat) (xs ys : Nat → Nat) (n : Nat) : Int := if kdE k r n = 0 then (if k = 1 then rdE xs ys 1 r else if k = 2 then ckE xs ys r else chkE xs ys n) else kdE k r n
theorem in_bd {x y : Nat} (h1 : okK .f64 x) (h2 : okK .f64 y) (h : inB x y = true) : Bd 40 x ∧ Bd 40 y := by
  unfold inB at h; rw [Bool.and_eq_true] at h
  exact ⟨bd_within h1 h.1, bd_within h2 h.2⟩
theorem rdE_good {xs ys : Nat → Nat} {n r : Nat} (h : reaB xs ys n = true) (g : rdB r = true) : rdE xs ys n r = 0 := by unfold rdE; rw [h, g]; rfl
theorem rdE_bad1 {xs ys : Nat → Nat} {n r : Nat} (h : reaB xs ys n = false) : rdE xs ys n r = 5 := by unfold rdE; rw [h]; rfl
theorem rdE_bad2 {xs ys : Nat → Nat} {n r : Nat} (g : rdB r = false) : rdE xs ys n r = 5 := by unfold rdE; rw [g, Bool.and_false]; rfl
theorem rdE_ok {xs ys : Nat → Nat} {n r : Nat} (h : rdE xs ys n r = 0) : reaB xs ys n = true ∧ rdB r = true := by
  unfold rdE at h
  split at h
  · rename_i g; rw [Bool.and_eq_true] at g; exact g
  · cases h
theorem rdE_vals (xs ys : Nat → Nat) (n r : Nat) : rdE xs ys n r = 0 ∨ rdE xs ys n r = 5 := by unfold rdE; split <;> simp
theorem rd_parts {r : Nat} : rdB r = true → leK .f64 4472074429978902528 r = true ∧ leK .f64 r 4787326403894837248 = true := by
  intro h; unfold rdB at h; rw [Bool.and_eq_true] at h; exact h
theorem rd_bd {r : Nat} (o : okK .f64 r) (h : rdB r = true) : Bd 40 r := by
  obtain ⟨h1, h2⟩ := rd_parts h
  refine bd_within o ?_
  unfold withinK
  rw [h2, Bool.and_true]
  unfold leK at h1 ⊢
  rw [Bool.and_eq_true, Bool.and_eq_true] at h1 ⊢
  refine ⟨⟨by decide +kernel, h1.1.2⟩, ?_⟩
  have e : woK .f64 (Op.negFloat .f64 4787326403894837248) ≤ woK .f64 4472074429978902528 := by decide +kernel
  have h3 := of_decide_eq_true h1.2
  exact decide_eq_true (Int.le_trans e h3)
def moK (a s b : Nat) : Nat := Dv .add a (Dv .mul s b)
theorem moreR_d {n m k ax ay s bx b_y x y : Nat} (h1 : Bd n ax) (h2 : Bd n ay) (h3 : Bd m s) (h4 : Bd k bx) (h5 : Bd k b_y) (hn : m + k ≤ 800) (h : MoreR ax ay s bx b_y x y) : x = moK ax s bx ∧ y = moK ay s b_y := by
  obtain ⟨p, q, e1, e2, e3, e4⟩ := h
  rw [res_dv e1 (some_mul h3.2.1 h4.2.1)] at e3
  rw [res_dv e2 (some_mul h3.2.1 h5.2.1)] at e4
  exact ⟨res_dv e3 (some_add h1.2.1 (bd_mul h3 h4 (by omega)).2.1), res_dv e4 (some_add h2.2.1 (bd_mul h3 h5 (by omega)).2.1)⟩
/-- a circle has a place -/
def hcB (cx cy r p q : Nat) : Bool := leK .f64 (dtK (Dv .sub p cx) (Dv .sub q cy) (Dv .sub p cx) (Dv .sub q cy)) (Dv .mul r r)
/-- a capsule's way, the number t, the place next -/
def cwK (xs : Nat → Nat) : Nat := Dv .sub (xs 1) (xs 0)
def ctK (xs ys : Nat → Nat) (p q : Nat) : Nat := clK .f64 (Dv .quo (dtK (Dv .sub p (xs 0)) (Dv .sub q (ys 0)) (cwK xs) (cwK ys)) (dtK (cwK xs) (cwK ys) (cwK xs) (cwK ys))) 0 4607182418800017408
def nxX (xs ys : Nat → Nat) (p q : Nat) : Nat := moK (xs 0) (ctK xs ys p q) (cwK xs)
def nxY (xs ys : Nat → Nat) (p q : Nat) : Nat := moK (ys 0) (ctK xs ys p q) (cwK ys)
theorem cl_cases (k : FloatKind) (a lo hi : Nat) : clK k a lo hi = lo ∨ clK k a lo hi = hi ∨ clK k a lo hi = a := by unfold clK; split <;> (try split) <;> simp
theorem clamp_bd {n a : Nat} (h : Bd n a) : Bd n (clK .f64 a 0 4607182418800017408) := by
  rcases cl_cases .f64 a 0 4607182418800017408 with e | e | e <;> rw [e]
  · exact ⟨by rw [okK64]; decide, by decide +kernel, Rat.le_trans (by decide +kernel) (two_ge1 n)⟩
  · exact ⟨by rw [okK64]; decide, by decide +kernel, Rat.le_trans (by decide +kernel) (two_ge1 n)⟩
  · exact h
/-- of two points one apart enough: the square of the way is a float of a size -/
theorem cw_bd {xs ys : Nat → Nat} (g : Gd xs ys 2) : Bd 42 (cwK xs) ∧ Bd 42 (cwK ys) := ⟨bd_sub (g 1 (by decide)).1 (g 0 (by decide)).1 (by decide), bd_sub (g 1 (by decide)).2 (g 0 (by decide)).2 (by decide)⟩
theorem root_low {s n R : Rat} (hR : 0 < R) (h1 : R * R ≤ s + epR * s) (h2 : nearR R n) (h3 : 1 ≤ n * 2 ^ 30) : 1 ≤ s * 2 ^ 63 := by
  unfold nearR epR etR at h2
  unfold epR at h1
  have a1 : (1 : Rat) / 2 ^ 1075 ≤ 1 / 2 ^ 100 := by decide +kernel
  have a2 : n ≤ R + 1 / 2 ^ 53 * n + 1 / 2 ^ 100 := by
    have := h2.2
    grind
  have h4 : (1 : Rat) / 2 ^ 31 ≤ R := by grind
  have h5 : (1 : Rat) / 2 ^ 31 * (1 / 2 ^ 31) ≤ R * R := by
    have b1 := Rat.mul_le_mul_of_nonneg_left h4 (show (0 : Rat) ≤ 1 / 2 ^ 31 by decide +kernel)
    have b2 := Rat.mul_le_mul_of_nonneg_right h4 (Rat.le_of_lt hR)
    exact Rat.le_trans b1 b2
  have b3 : (1 : Rat) / 2 ^ 31 * (1 / 2 ^ 31) = 1 / 2 ^ 62 := by decide +kernel
  rw [b3] at h5
  grind
theorem sq_low {ax ay : Nat} (h1 : Bd 42 ax) (h2 : Bd 42 ay) (h : ltK .f64 (lnK ax ay) 4472074429978902528 = false) : 1 ≤ av (dtK ax ay ax ay) * 2 ^ 63 ∧ mg (dtK ax ay ax ay) ≠ 0 := by
  obtain ⟨f, g⟩ := sq_ng h1 h2 (by decide)
  have q := sq_res (sqr_some f g)
  by_cases hz : mg (dtK ax ay ax ay) = 0
  · have e := sqr_zero f g hz q
    unfold lnK at h
    rw [e] at h
    exact absurd h (by decide +kernel)
  · obtain ⟨_, _, _, R, hR, r1, _, r3⟩ := root_fin f g hz q
    obtain ⟨_, _, _, hb⟩ := ln_facts h1 h2 h
    unfold lnK at hb
    exact ⟨root_low hR r1 r3 hb, hz⟩
theorem ct_bd {xs ys : Nat → Nat} {p q : Nat} (g : Gd xs ys 2) (h1 : Bd 40 p) (h2 : Bd 40 q) (h : cpB (xs 0) (ys 0) (xs 1) (ys 1) = false) : Bd 153 (ctK xs ys p q) ∧ resK .quo .f64 (dtK (Dv .sub p (xs 0)) (Dv .sub q (ys 0)) (cwK xs) (cwK ys)) (dtK (cwK xs) (cwK ys) (cwK xs) (cwK ys)) (Dv .quo (dtK (Dv .sub p (xs 0)) (Dv .sub q (ys 0)) (cwK xs) (cwK ys)) (dtK (cwK xs) (cwK ys) (cwK xs) (cwK ys))) ∧ Bd 153 (Dv .quo (dtK (Dv .sub p (xs 0)) (Dv .sub q (ys 0)) (cwK xs) (cwK ys)) (dtK (cwK xs) (cwK ys) (cwK xs) (cwK ys))) := by
  obtain ⟨w1, w2⟩ := cw_bd g
  obtain ⟨l1, l2⟩ := sq_low w1 w2 h
  have a1 : Bd 42 (Dv .sub p (xs 0)) := bd_sub h1 (g 0 (by decide)).1 (by decide)
  have a2 : Bd 42 (Dv .sub q (ys 0)) := bd_sub h2 (g 0 (by decide)).2 (by decide)
  have d1 := bd_dt a1 a2 w1 w2 (by decide)
  have d2 := bd_dt w1 w2 w1 w2 (by decide)
  obtain ⟨e1, e2⟩ := bd_quo d1 d2 l1 (by decide)
  exact ⟨clamp_bd e1, e2, e1⟩
end Go.Proofs.YtdeooadeohojcaaGreat
namespace Go.Proofs.YtdeooadeohojcaaGreat
open Ieee Go.RowKit

def aE (k : Int) (r : Nat) (xs ys : Nat → Nat) (n p q : Nat) : Int := if shE k r xs ys n = 0 then (if inB p q then 0 else 5) else shE k r xs ys n
end Go.Proofs.YtdeooadeohojcaaGreat
