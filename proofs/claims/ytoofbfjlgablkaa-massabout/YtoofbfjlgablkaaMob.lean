/-
  Plain facts on floats, more: rounding to the nearest rung, sums and products of finite floats, signs turned. No program is named here.
-/
import Derived.Test.YtoofbfjlgablkaaMoa
namespace Go.Proofs.Ytoofbfjlgablkaa
open Ieee Go.RowKit
set_option linter.unusedSimpArgs false
set_option linter.unusedVariables false

/-! ### Several masses in either order, over rational numbers -/
theorem mass_rat {e h M A T : Rat} {k : Nat} (hk : k ≤ 63) (he : 0 ≤ e) (he1 : e * 1048576 ≤ 1) (h0 : 0 ≤ h) (hA : 0 ≤ A) (hM : ab (M - A) ≤ 4 * ((k : Rat) * (e * A + h))) (hT : T ≤ M) (hh : 1048576 * h ≤ e * T) (hT0 : 0 ≤ T) :
    ab (M - A) ≤ 253 * (e * A) ∧ M ≤ 2 * A ∧ A ≤ 2 * M ∧ 1048576 * h ≤ 2 * (e * A) := by
  have k0 : (0 : Rat) ≤ (k : Rat) := by exact_mod_cast Nat.zero_le k
  have k64 : (k : Rat) ≤ 63 := by exact_mod_cast hk
  have eA := Rat.mul_nonneg he hA
  have eA1 := Rat.mul_le_mul_of_nonneg_right he1 hA
  have eT1 := Rat.mul_le_mul_of_nonneg_right he1 hT0
  have a1 := Rat.mul_le_mul_of_nonneg_right k64 (show 0 ≤ e * A + h by grind)
  have m1 := ab_two hM
  have hMA : M ≤ 2 * A := by grind
  have eMA := Rat.mul_le_mul_of_nonneg_left (show T ≤ 2 * A by grind) he
  exact ⟨by grind, hMA, by grind, by grind⟩
theorem prod_ab {e h a x p X : Rat} (he : 0 ≤ e) (he1 : e * 1048576 ≤ 1) (ha : 0 ≤ a) (hx : ab x ≤ X) (n : ab (a * x - p) ≤ e * ab p + h) (h0 : 0 ≤ h) : ab p ≤ 2 * (a * X) + 2 * h := by
  have a1 := ab_add (a * x) (-(a * x - p))
  rw [show a * x + -(a * x - p) = p by grind, ab_neg, ab_mul, ab_pos ha] at a1
  have a2 := Rat.mul_le_mul_of_nonneg_left hx ha
  have a3 := Rat.mul_le_mul_of_nonneg_right he1 (ab_nn p)
  have a4 := ab_nn p
  have a5 : e * 1048576 * ab p = 1048576 * (e * ab p) := by grind
  rw [a5] at a3
  grind
theorem sums_rat {e h X s : Rat} {a x p : Nat → Rat} {k : Nat} (hk : k ≤ 63) (he : 0 ≤ e) (he1 : e * 1048576 ≤ 1) (h0 : 0 ≤ h) (ha : ∀ i, i ≤ k → 0 ≤ a i) (hx : ∀ i, i ≤ k → ab (x i) ≤ X)
    (hp : ∀ i, i ≤ k → ab (a i * x i - p i) ≤ e * ab (p i) + h) (hs : ab (s - sumQ p k) ≤ 4 * ((k : Rat) * (e * sumQ (fun i => ab (p i)) k + h))) (hh : 524288 * h ≤ e * (X * sumQ a k)) :
    ab (s - sumQ (fun i => a i * x i) k) ≤ 520 * (e * (X * sumQ a k)) ∧ ab (sumQ (fun i => a i * x i) k) ≤ X * sumQ a k := by
  have k0 : (0 : Rat) ≤ (k : Rat) := by exact_mod_cast Nat.zero_le k
  have k63 : (k : Rat) ≤ 63 := by exact_mod_cast hk
  have k64 : ((k + 1 : Nat) : Rat) ≤ 64 := by exact_mod_cast (show k + 1 ≤ 64 by omega)
  have k1 : (0 : Rat) ≤ ((k + 1 : Nat) : Rat) := by exact_mod_cast Nat.zero_le (k + 1)
  have P0 : 0 ≤ sumQ (fun i => ab (p i)) k := sumQ_nn k (fun i _ => ab_nn _)
  have eA : sumQ (fun i => a i * X) k = X * sumQ a k := by rw [sumQ_scale]; grind
  have hP : sumQ (fun i => ab (p i)) k ≤ 2 * (X * sumQ a k) + 128 * h := by
    have := sumQ_mono (u := fun i => 2 * (a i * X) + 2 * h) k (fun i hi => prod_ab he he1 (ha i hi) (hx i hi) (hp i hi) h0)
    rw [sumQ_parts 2 (2 * h) (fun i => a i * X) k, eA] at this
    have b := Rat.mul_le_mul_of_nonneg_right k64 (show 0 ≤ 2 * h by grind)
    grind
  have hD : ab (sumQ p k - sumQ (fun i => a i * x i) k) ≤ e * sumQ (fun i => ab (p i)) k + 64 * h := by
    have a1 := sumQ_sub p (fun i => a i * x i) k
    have a2 := sumQ_mono (t := fun i => ab (p i - a i * x i)) (u := fun i => e * ab (p i) + h) k (fun i hi => by
      have := hp i hi
      rw [show a i * x i - p i = -(p i - a i * x i) by grind, ab_neg] at this
      exact this)
    rw [sumQ_parts e h (fun i => ab (p i)) k] at a2
    have b := Rat.mul_le_mul_of_nonneg_right k64 h0
    grind
  have hS : ab (sumQ (fun i => a i * x i) k) ≤ X * sumQ a k := by
    have a1 := sumQ_ab (fun i => a i * x i) k
    have a2 := sumQ_mono (t := fun i => ab (a i * x i)) (u := fun i => a i * X) k (fun i hi => by
      rw [ab_mul, ab_pos (ha i hi)]
      exact Rat.mul_le_mul_of_nonneg_left (hx i hi) (ha i hi))
    rw [eA] at a2
    exact Rat.le_trans a1 a2
  refine ⟨?_, hS⟩
  have eP := Rat.mul_le_mul_of_nonneg_left hP he
  have eh : 1048576 * (e * h) ≤ h := by have := Rat.mul_le_mul_of_nonneg_right he1 h0; grind
  have z0 : 0 ≤ e * sumQ (fun i => ab (p i)) k + h := by have := Rat.mul_nonneg he P0; grind
  have b1 := Rat.mul_le_mul_of_nonneg_right k63 z0
  have b2 := ab_add (s - sumQ p k) (sumQ p k - sumQ (fun i => a i * x i) k)
  rw [show s - sumQ p k + (sumQ p k - sumQ (fun i => a i * x i) k) = s - sumQ (fun i => a i * x i) k by grind] at b2
  have e9 : e * (2 * (X * sumQ a k) + 128 * h) = 2 * (e * (X * sumQ a k)) + 128 * (e * h) := by grind
  rw [e9] at eP
  generalize e * (X * sumQ a k) = Z at *
  generalize e * h = Y at *
  generalize e * sumQ (fun i => ab (p i)) k = W at *
  grind
theorem centre_rat {e h A M X S s Q px : Rat} (he : 0 ≤ e) (he1 : e * 1048576 ≤ 1) (h0 : 0 ≤ h) (hA : 0 ≤ A) (hX : 0 ≤ X) (hM : ab (M - A) ≤ 253 * (e * A)) (hS : ab S ≤ X * A) (hs : ab (s - S) ≤ 520 * (e * (X * A)))
    (hQ : ab (Q * M - s) ≤ e * ab s) (hp : ab (Q - px) ≤ e * ab px + h) (hh : h ≤ e * X) (hA0 : 0 < A) : ab (px * A - S) ≤ 1046 * (e * (X * A)) := by
  have XA := Rat.mul_nonneg hX hA
  have eXA := Rat.mul_nonneg he XA
  have eXA1 := Rat.mul_le_mul_of_nonneg_right he1 XA
  have eA1 := Rat.mul_le_mul_of_nonneg_right he1 hA
  have s1 := ab_add (s - S) S
  rw [show s - S + S = s by grind] at s1
  have s2 : ab s ≤ X * A + 520 * (e * (X * A)) := by grind
  have s3 := Rat.mul_le_mul_of_nonneg_left s2 he
  have s4 : e * ab s ≤ 2 * (e * (X * A)) := by
    have z := Rat.mul_le_mul_of_nonneg_right he1 eXA
    have : e * (X * A + 520 * (e * (X * A))) = e * (X * A) + 520 * (e * (e * (X * A))) := by grind
    grind
  have m1 := ab_two hM
  have hMA : A ≤ 2 * M := by grind
  have hM0 : 0 ≤ M := by grind
  -- how great the quotient may be
  have q1 := ab_add (Q * M - s) s
  rw [show Q * M - s + s = Q * M by grind, ab_mul, ab_pos hM0] at q1
  have q2 : ab Q * A ≤ 2 * (X * A) := by
    have a := Rat.mul_le_mul_of_nonneg_left (show A ≤ M + 253 * (e * A) by grind) (ab_nn Q)
    have b := Rat.mul_le_mul_of_nonneg_left eA1 (ab_nn Q)
    have c : ab Q * (M + 253 * (e * A)) = ab Q * M + 253 * (ab Q * (e * A)) := by grind
    have d : ab Q * (e * 1048576 * A) = 1048576 * (ab Q * (e * A)) := by grind
    rw [d] at b
    have f : ab Q * (1 * A) = ab Q * A := by grind
    rw [f] at b
    grind
  have q3 : ab Q ≤ 2 * X := by
    refine Rat.le_of_mul_le_mul_right (c := A) ?_ hA0
    grind
  have p1 := ab_add Q (-(Q - px))
  rw [show Q + -(Q - px) = px by grind, ab_neg] at p1
  have p2 := Rat.mul_le_mul_of_nonneg_right he1 (ab_nn px)
  have eX1 := Rat.mul_le_mul_of_nonneg_right he1 hX
  have p3 : ab px ≤ 3 * X := by grind
  have p4 := Rat.mul_le_mul_of_nonneg_left p3 he
  have p5 : ab (Q - px) ≤ 4 * (e * X) := by grind
  have p6 := Rat.mul_le_mul_of_nonneg_right p5 hA
  -- all together
  have t1 : ab ((px - Q) * A) ≤ 4 * (e * (X * A)) := by
    rw [ab_mul, ab_pos hA, show px - Q = -(Q - px) by grind, ab_neg]
    grind
  have t2 : ab (Q * (A - M)) ≤ 506 * (e * (X * A)) := by
    rw [ab_mul, show A - M = -(M - A) by grind, ab_neg]
    have a := Rat.mul_le_mul_of_nonneg_left hM (ab_nn Q)
    have b := Rat.mul_le_mul_of_nonneg_right q3 (Rat.mul_nonneg he hA)
    grind
  have u1 := ab_add ((px - Q) * A) (Q * (A - M))
  have u2 := ab_add ((px - Q) * A + Q * (A - M)) (Q * M - s)
  have u3 := ab_add ((px - Q) * A + Q * (A - M) + (Q * M - s)) (s - S)
  rw [show (px - Q) * A + Q * (A - M) + (Q * M - s) + (s - S) = px * A - S by grind] at u3
  grind
theorem centre_two {e A X S p q : Rat} (hA : 0 < A) (h1 : ab (p * A - S) ≤ 1046 * (e * (X * A))) (h2 : ab (q * A - S) ≤ 1046 * (e * (X * A))) : ab (p - q) ≤ 2092 * (e * X) := by
  refine Rat.le_of_mul_le_mul_right (c := A) ?_ hA
  have a := ab_sub (p * A - S) (q * A - S)
  rw [show p * A - S - (q * A - S) = (p - q) * A by grind, ab_mul, ab_pos (Rat.le_of_lt hA)] at a
  grind
theorem mass_two {e A M N : Rat} (he : 0 ≤ e) (hA : A ≤ 2 * M) (h1 : ab (M - A) ≤ 253 * (e * A)) (h2 : ab (N - A) ≤ 253 * (e * A)) : ab (M - N) ≤ 1012 * (e * M) := by
  have a := ab_sub (M - A) (N - A)
  rw [show M - A - (N - A) = M - N by grind] at a
  have b := Rat.mul_le_mul_of_nonneg_left hA he
  grind
/-- what is compared: a difference, and a part of a number -/
theorem near_rat {e h a b d Y p : Rat} (he : 0 ≤ e) (he1 : e * 1048576 ≤ 1) (h0 : 0 ≤ h) (hY : 0 ≤ Y) (hd : ab (a - b) ≤ 2092 * (e * Y)) (hh : h ≤ e * Y) (n1 : ab (a - b - d) ≤ e * ab d + h) (n2 : ab (8192 * e * Y - p) ≤ e * ab p + h) : ab d ≤ p := by
  have eY := Rat.mul_nonneg he hY
  have d1 := ab_add (a - b) (-(a - b - d))
  rw [show a - b + -(a - b - d) = d by grind, ab_neg] at d1
  have d2 := Rat.mul_le_mul_of_nonneg_right he1 (ab_nn d)
  have d3 : ab d ≤ 3000 * (e * Y) := by grind
  have p1 := ab_two n2
  have p2 := ab_add (8192 * e * Y) (-(8192 * e * Y - p))
  rw [show 8192 * e * Y + -(8192 * e * Y - p) = p by grind, ab_neg, ab_pos (show 0 ≤ 8192 * e * Y by grind)] at p2
  have p3 := Rat.mul_le_mul_of_nonneg_right he1 (ab_nn p)
  have p4 : ab p ≤ 9000 * (e * Y) := by grind
  have p5 := Rat.mul_le_mul_of_nonneg_left p4 he
  have p6 := Rat.mul_le_mul_of_nonneg_right he1 eY
  grind
end Go.Proofs.Ytoofbfjlgablkaa
