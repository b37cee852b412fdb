/-
  Plain facts on floats, more: rounding to the nearest rung, sums and products of finite floats, signs turned. No program is named here.
-/
import Derived.Test.YtfohggiehbplkaaWnv
namespace Go.Proofs.Ytfohggiehbplkaa
open Ieee Go.RowKit
set_option linter.unusedSimpArgs false
set_option linter.unusedVariables false

theorem sq_ab9 (a : Rat) : ab a * ab a = a * a := by unfold ab; split <;> grind
theorem sq_nn9 (a : Rat) : 0 ≤ a * a := by rw [← sq_ab9]; exact Rat.mul_nonneg (ab_nn a) (ab_nn a)
theorem sq_le9 {x y : Rat} (hx : 0 ≤ x) (hy : 0 ≤ y) (h : x * x ≤ y * y) : x ≤ y := by
  rcases Rat.le_total (a := x) (b := y) with g | g
  · exact g
  · by_cases e : x = y
    · rw [e]; exact Rat.le_refl
    · have p : 0 < x - y := by grind
      have q : 0 < x + y := by grind
      have := Rat.mul_pos p q
      grind
theorem amgm9 {x y z : Rat} (hx : 0 ≤ x) (hy : 0 ≤ y) (hz : 0 ≤ z) (h : z * z ≤ x * y) : 2 * z ≤ x + y := by
  refine sq_le9 (by grind) (by grind) ?_
  have := sq_nn9 (x - y)
  grind
/-- Cauchy and Schwarz, one more -/
theorem cs9 {G W U g w u : Rat} (hG : 0 ≤ G) (hg : 0 ≤ g) (hW : 0 ≤ W) (hU : 0 ≤ U) (hw : 0 ≤ w) (hu : 0 ≤ u) (h1 : G * G ≤ W * U) (h2 : g * g ≤ w * u) : (G + g) * (G + g) ≤ (W + w) * (U + u) := by
  have a := amgm9 (x := W * u) (y := w * U) (z := G * g) (Rat.mul_nonneg hW hu) (Rat.mul_nonneg hw hU) (Rat.mul_nonneg hG hg) (by
    have k1 := Rat.mul_le_mul_of_nonneg_right h1 (Rat.mul_nonneg hg hg)
    have k2 := rmul h2 (Rat.mul_nonneg hW hU)
    grind)
  grind
/-- how far off the push is from what it should be -/
theorem off_rat {e h M W wt s0 S0 lk Q D P x : Rat} (he : 0 ≤ e) (he1 : e * 1048576 ≤ 1) (h0 : 0 ≤ h) (hh : h ≤ e * M) (hM : 0 ≤ M) (hW : 0 ≤ W)
    (bS : ab S0 ≤ M) (es : ab (s0 - S0) ≤ 500 * (e * M)) (nl : ns e h (0 - s0) lk) (ew : ab (wt - W) ≤ 48 * (e * W))
    (nq : ab (Q * wt - lk) ≤ e * ab lk) (nD : ns e h Q D) (n1 : ns e h (P + D) x) (hWh : W * h ≤ e * M) : ab (W * (x - P) + S0) ≤ 2200 * (e * M) + 4 * (e * (W * ab P)) := by
  have eM := Rat.mul_nonneg he hM
  have eM1 := Rat.mul_le_mul_of_nonneg_right he1 hM
  have hs : ab (0 - s0) ≤ 2 * M := by
    rw [show (0 : Rat) - s0 = -s0 by grind, ab_neg]
    have b := ab_add S0 (s0 - S0)
    rw [show S0 + (s0 - S0) = s0 by grind] at b
    grind
  obtain ⟨l1, l2⟩ := rnd9 (K := 2) he (by grind) h0 hh (by grind) hM hs nl
  have eW := Rat.mul_nonneg he hW
  have eW1 := Rat.mul_le_mul_of_nonneg_right he1 hW
  have w1 := ab_two ew
  have q1 : ab (Q * wt) ≤ 7 * M := by
    have a := ab_add lk (Q * wt - lk)
    rw [show lk + (Q * wt - lk) = Q * wt by grind] at a
    have b := rmul l2 he
    have c : e * (2 * 2 * M) = 4 * (e * M) := by grind
    grind
  have hwt : W ≤ 2 * wt := by grind
  have hwt2 : wt ≤ 2 * W := by grind
  have wt0 : 0 ≤ wt := by grind
  have q2 : W * ab Q ≤ 14 * M := by
    have a := Rat.mul_le_mul_of_nonneg_right hwt (ab_nn Q)
    rw [ab_mul, ab_pos wt0] at q1
    have : 2 * wt * ab Q = 2 * (ab Q * wt) := by grind
    grind
  have D1 : ab D ≤ 2 * ab Q + 2 * h := by
    unfold ns at nD
    have a := ab_add Q (D - Q)
    rw [show Q + (D - Q) = D by grind, show D - Q = -(Q - D) by grind, ab_neg] at a
    have b := Rat.mul_le_mul_of_nonneg_right he1 (ab_nn D)
    have c := ab_nn Q
    grind
  have D2 : W * ab D ≤ 29 * M := by
    have a := rmul D1 hW
    have b : W * (2 * ab Q + 2 * h) = 2 * (W * ab Q) + 2 * (W * h) := by grind
    grind
  have r1 : ab (wt * D - lk) ≤ 80 * (e * M) := by
    unfold ns at nD
    have a := rmul nD wt0
    have a2 : ab (wt * (Q - D)) = wt * ab (Q - D) := by rw [ab_mul, ab_pos wt0]
    have b := Rat.mul_le_mul_of_nonneg_right hwt2 (show (0 : Rat) ≤ e * ab D + h from by have := Rat.mul_nonneg he (ab_nn D); grind)
    have c : 2 * W * (e * ab D + h) = 2 * (e * (W * ab D)) + 2 * (W * h) := by grind
    have d := rmul D2 he
    have d2 : e * (29 * M) = 29 * (e * M) := by grind
    have f := rmul l2 he
    have f2 : e * (2 * 2 * M) = 4 * (e * M) := by grind
    have g : ab (wt * (Q - D)) ≤ 2 * (29 * (e * M)) + 2 * (e * M) := by grind
    have g1 := ab_two g
    have g2 := ab_two nq
    have g3 : wt * D - lk = Q * wt - lk - wt * (Q - D) := by grind
    rw [g3]
    refine ab_of ?_ ?_ <;> grind
  have r2 : ab ((W - wt) * D) ≤ 1400 * (e * M) := by
    rw [ab_mul, show W - wt = -(wt - W) by grind, ab_neg]
    have a := Rat.mul_le_mul_of_nonneg_right ew (ab_nn D)
    have b : 48 * (e * W) * ab D = 48 * (e * (W * ab D)) := by grind
    have d := rmul D2 he
    have d2 : e * (29 * M) = 29 * (e * M) := by grind
    grind
  have d1 : ab x ≤ 2 * (ab P + ab D) + 2 * h := by
    unfold ns at n1
    have a := ab_add (P + D) (x - (P + D))
    rw [show P + D + (x - (P + D)) = x by grind, show x - (P + D) = -(P + D - x) by grind, ab_neg] at a
    have c := ab_add P D
    have b := Rat.mul_le_mul_of_nonneg_right he1 (ab_nn x)
    have c1 := ab_nn P
    have c2 := ab_nn D
    grind
  have d2 : W * ab x ≤ 2 * (W * ab P) + 60 * M := by
    have a := rmul d1 hW
    have b : W * (2 * (ab P + ab D) + 2 * h) = 2 * (W * ab P) + 2 * (W * ab D) + 2 * (W * h) := by grind
    grind
  have d3 : ab (W * (x - P - D)) ≤ 2 * (e * (W * ab P)) + 62 * (e * M) := by
    rw [ab_mul, ab_pos hW]
    unfold ns at n1
    rw [show x - P - D = -(P + D - x) by grind, ab_neg]
    have b := rmul n1 hW
    have c : W * (e * ab x + h) = e * (W * ab x) + W * h := by grind
    have f := rmul d2 he
    have f2 : e * (2 * (W * ab P) + 60 * M) = 2 * (e * (W * ab P)) + 60 * (e * M) := by grind
    grind
  have p0 := Rat.mul_nonneg he (Rat.mul_nonneg hW (ab_nn P))
  have t1 := ab_two es
  have t2 := ab_two l1
  have t3 := ab_two r1
  have t4 := ab_two r2
  have t5 := ab_two d3
  have z4 : (W - wt) * D = W * D - wt * D := by grind
  have z5 : W * (x - P - D) = W * x - W * P - W * D := by grind
  have z6 : W * (x - P) = W * x - W * P := by grind
  rw [z4] at t4
  rw [z5] at t5
  rw [z6]
  clear es l1 r1 r2 d3 ew q1 q2 D1 D2 d1 d2 hs l2 nl eW nq nD n1 bS
  generalize W * x = X1 at *
  generalize W * D = X2 at *
  generalize wt * D = X3 at *
  generalize W * P = X4 at *
  generalize W * ab P = X5 at *
  refine ab_of ?_ ?_ <;> grind
/-- a push on the way to what it should be brings nothing -/
theorem fall_rat {W S0 E y r : Rat} (hW : 0 ≤ W) (hr : ab (W * E + S0) ≤ r) (hy : (0 ≤ y ∧ y ≤ E) ∨ (E ≤ y ∧ y ≤ 0)) : y * S0 + y * y * W / 2 ≤ ab y * r := by
  have t := ab_two hr
  have q := Rat.mul_nonneg (sq_nn9 y) hW
  rcases hy with ⟨h1, h2⟩ | ⟨h1, h2⟩
  · rw [ab_pos h1]
    have a := rmul t.1 h1
    have b := Rat.mul_nonneg (Rat.mul_nonneg h1 hW) (show 0 ≤ E - y by grind)
    grind
  · rw [← ab_neg, ab_pos (a := -y) (by grind)]
    have a := rmul t.2 (show 0 ≤ -y by grind)
    have b := Rat.mul_nonneg (Rat.mul_nonneg (show 0 ≤ -y by grind) hW) (show 0 ≤ y - E by grind)
    grind
theorem step_rat {e h W S0 M y0 y G N P : Rat} (he : 0 ≤ e) (he1 : e * 1048576 ≤ 1) (h0 : 0 ≤ h) (hW : 0 ≤ W) (hM : 0 ≤ M) (hG : 0 ≤ G) (hN : 0 ≤ N) (bS : ab S0 ≤ M)
    (hf : y0 * S0 + y0 * y0 * W / 2 ≤ ab y0 * (2200 * (e * M) + 4 * (e * (W * ab P)))) (g0 : ab y0 ≤ G) (gP : ab P ≤ G) (n : ns e h y0 y) (GM : G * M ≤ 2 * N) (WG : W * (G * G) ≤ 2 * N)
    (t1 : h * M ≤ e * N) (t2 : h * (W * G) ≤ e * N) (t3 : h * (W * h) ≤ e * N) : y * S0 + y * y * W / 2 ≤ 5000 * (e * N) ∧ y * y * W ≤ 20 * N := by
  have eN := Rat.mul_nonneg he hN
  have eN1 := Rat.mul_le_mul_of_nonneg_right he1 hN
  have eM := Rat.mul_nonneg he hM
  have eG := Rat.mul_nonneg he hG
  have WG0 := Rat.mul_nonneg hW hG
  -- the push as it should be
  have f1 : ab y0 * (2200 * (e * M) + 4 * (e * (W * ab P))) ≤ 4408 * (e * N) := by
    have c : 0 ≤ 2200 * (e * M) + 4 * (e * (W * ab P)) := by have := Rat.mul_nonneg he (Rat.mul_nonneg hW (ab_nn P)); grind
    have a := Rat.mul_le_mul_of_nonneg_right g0 c
    have b := rmul gP (Rat.mul_nonneg eG hW)
    have d := rmul GM he
    have f := rmul WG he
    grind
  have hy : ab y ≤ 2 * G + 2 * h := by
    unfold ns at n
    have a := ab_add y0 (y - y0)
    rw [show y0 + (y - y0) = y by grind, show y - y0 = -(y0 - y) by grind, ab_neg] at a
    have b := Rat.mul_le_mul_of_nonneg_right he1 (ab_nn y)
    grind
  have hd : ab (y - y0) ≤ 2 * (e * G) + 2 * h := by
    unfold ns at n
    rw [show y - y0 = -(y0 - y) by grind, ab_neg]
    have a := rmul hy he
    have b := Rat.mul_le_mul_of_nonneg_right he1 h0
    grind
  have hs : ab (y + y0) ≤ 3 * G + 2 * h := by
    have := ab_add y y0
    grind
  have k1 : ab ((y - y0) * S0) ≤ 6 * (e * N) := by
    have a := ab_mul_le hd bS
    have b := rmul GM he
    have c : (2 * (e * G) + 2 * h) * M = 2 * (e * (G * M)) + 2 * (h * M) := by grind
    grind
  have k2 : ab ((y - y0) * (y + y0) * W) ≤ 30 * (e * N) := by
    have a := ab_mul_le hd hs
    have b := Rat.mul_le_mul_of_nonneg_right a hW
    rw [ab_mul, ab_pos hW]
    have c : (2 * (e * G) + 2 * h) * (3 * G + 2 * h) * W = 6 * (e * (W * (G * G))) + 4 * (e * (h * (W * G))) + 6 * (h * (W * G)) + 4 * (h * (W * h)) := by grind
    have d := rmul WG he
    have f := rmul t2 he
    have g := Rat.mul_le_mul_of_nonneg_right he1 eN
    grind
  constructor
  · have a := ab_two k1
    have b := ab_two k2
    have c : y * S0 + y * y * W / 2 = (y0 * S0 + y0 * y0 * W / 2) + (y - y0) * S0 + (y - y0) * (y + y0) * W / 2 := by grind
    grind
  · have a := ab_mul_le hy hy
    rw [ab_mul, sq_ab9] at a
    have b := Rat.mul_le_mul_of_nonneg_right a hW
    have c : (2 * G + 2 * h) * (2 * G + 2 * h) * W = 4 * (W * (G * G)) + 8 * (h * (W * G)) + 4 * (h * (W * h)) := by grind
    grind
/-- one word of a speed, squared -/
theorem comp_rat {e t h X Z v' : Rat} (he : 0 ≤ e) (he1 : e * 4096 ≤ 1) (h0 : 0 ≤ h) (ht : 0 ≤ t) (hh : h ≤ e * t) (hZ : 0 ≤ Z) (hd : ab (v' - X) ≤ e * ab v' + 8 * (e * (Z + t)) + h) : v' * v' ≤ X * X + 100 * (e * (X * X + Z * Z + t * t)) := by
  have a0 := ab_nn v'
  have x0 := ab_nn X
  have ex := Rat.mul_nonneg he x0
  have eZ := Rat.mul_nonneg he hZ
  have et := Rat.mul_nonneg he ht
  have e1 := Rat.mul_le_mul_of_nonneg_right he1 a0
  have e2 := Rat.mul_le_mul_of_nonneg_right he1 hZ
  have e3 := Rat.mul_le_mul_of_nonneg_right he1 ht
  have e4 := Rat.mul_le_mul_of_nonneg_right he1 x0
  have tr := ab_add X (v' - X)
  rw [show X + (v' - X) = v' by grind] at tr
  have d0 := ab_nn (v' - X)
  have ha : ab v' ≤ 2 * ab X + Z + t := by grind
  have hea := rmul ha he
  have hδ : ab (v' - X) ≤ 2 * (e * ab X) + 10 * (e * Z) + 10 * (e * t) := by
    have k1 := Rat.mul_le_mul_of_nonneg_right he1 eZ
    grind
  have hδ2 : ab (v' - X) ≤ ab X + Z + t := by grind
  have v2 : v' * v' ≤ X * X + ab (v' - X) * (2 * ab X + ab (v' - X)) := by
    rw [← sq_ab9 v', ← sq_ab9 X]
    have m1 := Rat.mul_le_mul_of_nonneg_right tr a0
    have m2 := rmul tr (show 0 ≤ ab X + ab (v' - X) by grind)
    grind
  have m := rmul (show 2 * ab X + ab (v' - X) ≤ 3 * ab X + Z + t by grind) d0
  have m2 := Rat.mul_le_mul_of_nonneg_right hδ (show 0 ≤ 3 * ab X + Z + t by grind)
  have s1 := sq_nn9 (ab X - Z)
  have s2 := sq_nn9 (ab X - t)
  have s3 := sq_nn9 (Z - t)
  have s4 := sq_nn9 (ab X)
  have s5 := sq_nn9 Z
  have s6 := sq_nn9 t
  have xx := sq_ab9 X
  have fin : (2 * ab X + 10 * Z + 10 * t) * (3 * ab X + Z + t) ≤ 100 * (ab X * ab X + Z * Z + t * t) := by grind
  have f := rmul fin he
  rw [← xx]
  have g : (2 * (e * ab X) + 10 * (e * Z) + 10 * (e * t)) * (3 * ab X + Z + t) = e * ((2 * ab X + 10 * Z + 10 * t) * (3 * ab X + Z + t)) := by grind
  rw [g] at m2
  rw [← xx] at v2
  generalize e * ((2 * ab X + 10 * Z + 10 * t) * (3 * ab X + Z + t)) = F at *
  generalize ab (v' - X) * (2 * ab X + ab (v' - X)) = F2 at *
  have h9 : e * (100 * (ab X * ab X + Z * Z + t * t)) = 100 * (e * (ab X * ab X + Z * Z + t * t)) := by grind
  rw [h9] at f
  exact Rat.le_trans v2 (by have := Rat.le_trans m m2; grind)
/-- what one word of a speed counts behind a push -/
def ter (m a v y : Rat) : Rat := v * v / (2 * m) + y * (a * v) + m * a * a * (y * y) / 2
theorem term_rat {e t h m a v y v' : Rat} (he : 0 ≤ e) (he1 : e * 4096 ≤ 1) (h0 : 0 ≤ h) (ht : 0 ≤ t) (hh : h ≤ e * t) (m0 : 0 ≤ m) (mz : m = 0 → v' = 0 ∧ v = 0) (ml : m = 0 ∨ 1 ≤ m * 2 ^ 40) (hd : m ≠ 0 → ab (v' - (v + m * y * a)) ≤ e * ab v' + 8 * (e * (ab (m * y * a) + t)) + h) :
    v' * v' / (2 * m) ≤ ter m a v y + 100 * (e * (ter m a v y + m * a * a * (y * y) / 2 + t * t * 2 ^ 40)) := by
  unfold ter
  have tt := sq_nn9 t
  by_cases hm : m = 0
  · obtain ⟨z1, z2⟩ := mz hm
    have := Rat.mul_nonneg he tt
    rw [hm, z1, z2]
    simp only [Rat.mul_zero, Rat.zero_mul, Rat.div_def, Rat.add_zero, Rat.zero_add]
    grind
  · have l := ml.resolve_left hm
    obtain ⟨i, hi⟩ : ∃ i, i = 1 / (2 * m) := ⟨_, rfl⟩
    have im : i * m = 1 / 2 := by rw [hi]; grind
    have i0 : 0 ≤ i := by
      rcases Rat.le_total (a := 0) (b := i) with g | g
      · exact g
      · have := Rat.mul_nonneg (show 0 ≤ -i by grind) m0
        grind
    have i1 : i ≤ 2 ^ 40 := by
      have := rmul l i0
      grind
    have d : ∀ z : Rat, z / (2 * m) = z * i := fun z => by rw [hi]; grind
    rw [d, d]
    have c := comp_rat he he1 h0 ht hh (ab_nn (m * y * a)) (hd hm)
    rw [sq_ab9] at c
    have c2 := Rat.mul_le_mul_of_nonneg_right c i0
    have c3 : (v + m * y * a) * (v + m * y * a) * i = v * v * i + y * (a * v) + m * a * a * (y * y) / 2 := by grind
    have c4 : (m * y * a) * (m * y * a) * i = m * a * a * (y * y) / 2 := by grind
    have c5 := rmul i1 (Rat.mul_nonneg he tt)
    have c6 : ((v + m * y * a) * (v + m * y * a) + 100 * (e * ((v + m * y * a) * (v + m * y * a) + (m * y * a) * (m * y * a) + t * t))) * i = (v + m * y * a) * (v + m * y * a) * i + 100 * (e * ((v + m * y * a) * (v + m * y * a) * i + (m * y * a) * (m * y * a) * i)) + 100 * (e * (t * t) * i) := by grind
    rw [c6, c3, c4] at c2
    grind
/-- the last comparison -/
theorem final_rat {e h E K K' N W wt P q kb ka pp qq ss ws b2 c r : Rat} (he : 0 ≤ e) (he1 : e * 1048576 ≤ 1) (h0 : 0 ≤ h) (hW : 0 ≤ W) (hK : 0 ≤ K) (hN : K + W * (P * P + q * q) = N) (hE : e * 8388608 ≤ E) (hE1 : E * 1073741824 ≤ 1)
    (k1 : ab (kb - K) ≤ 1000 * (e * N)) (k2 : ab (ka - K') ≤ 3000 * (e * N)) (k3 : K' ≤ K + 7000 * (e * N)) (hh : h ≤ e * N) (hWh : W * h ≤ e * N) (ew : ab (wt - W) ≤ 48 * (e * W))
    (n1 : ns e h (P * P) pp) (n2 : ns e h (q * q) qq) (n3 : ns e h (pp + qq) ss) (n4 : ns e h (wt * ss) ws) (n5 : ns e h (kb + ws) b2) (n6 : ns e h (E * b2) c) (n7 : ns e h (kb + c) r) : ka ≤ r := by
  have P2 := sq_nn9 P
  have q2 := sq_nn9 q
  have wpq := Rat.mul_nonneg hW (show 0 ≤ P * P + q * q by grind)
  have hN0 : 0 ≤ N := by grind
  have eN := Rat.mul_nonneg he hN0
  have eN1 := Rat.mul_le_mul_of_nonneg_right he1 hN0
  have e4 : e * 4 ≤ 1 := by grind
  -- the pushes' squares
  obtain ⟨S, hS⟩ : ∃ S, P * P + q * q = S := ⟨_, rfl⟩
  rw [hS] at wpq hN
  have S0 : 0 ≤ S := by grind
  have eS := Rat.mul_nonneg he S0
  have eS1 := Rat.mul_le_mul_of_nonneg_right he1 S0
  have eh := Rat.mul_le_mul_of_nonneg_right he1 h0
  have nq9 : ∀ x y : Rat, ns e h x y → ab (y - x) ≤ 2 * (e * ab x) + 2 * h := fun x y n => by
    rw [show y - x = -(x - y) by grind, ab_neg]
    exact ns_q he e4 h0 n
  have a1 : ab (pp - P * P) ≤ 2 * (e * (P * P)) + 2 * h := by
    have := nq9 _ _ n1
    rwa [ab_pos P2] at this
  have a2 : ab (qq - q * q) ≤ 2 * (e * (q * q)) + 2 * h := by
    have := nq9 _ _ n2
    rwa [ab_pos q2] at this
  have t1 := ab_two a1
  have t2 := ab_two a2
  have pq : ab (pp + qq - S) ≤ 2 * (e * S) + 4 * h := by
    rw [← hS]
    refine ab_of ?_ ?_ <;> grind
  have pq3 := ab_two pq
  have pq2 : ab (pp + qq) ≤ 2 * S + 4 * h := by
    refine ab_of ?_ ?_ <;> grind
  have a3 := nq9 _ _ n3
  have a4 : ab (ss - S) ≤ 10 * (e * S) + 10 * h := by
    have u := rmul pq2 he
    have u1 := ab_two a3
    have u2 := ab_two pq
    refine ab_of ?_ ?_ <;> grind
  have ss1 : ab ss ≤ 2 * S + 10 * h := by
    have := ab_two a4
    refine ab_of ?_ ?_ <;> grind
  -- by the weight
  have w1 := ab_two ew
  have wS : W * S ≤ N := by grind
  have eWS := rmul wS he
  have b1 : ab (wt * ss - W * S) ≤ 200 * (e * N) := by
    have u := Rat.mul_le_mul_of_nonneg_right ew (ab_nn ss)
    rw [← ab_mul] at u
    have u2 := rmul ss1 (Rat.mul_nonneg he hW)
    have u3 := rmul a4 hW
    have u4 : ab (W * (ss - S)) = W * ab (ss - S) := by rw [ab_mul, ab_pos hW]
    have u5 := rmul hWh he
    have f1 : ab ((wt - W) * ss) ≤ 150 * (e * N) := by
      have : 48 * (e * W) * ab ss = 48 * (e * W * ab ss) := by grind
      have : e * W * (2 * S + 10 * h) = 2 * (e * (W * S)) + 10 * (e * (W * h)) := by grind
      have := Rat.mul_le_mul_of_nonneg_right he1 eN
      grind
    have f2 : ab (W * (ss - S)) ≤ 20 * (e * N) := by
      have : W * (10 * (e * S) + 10 * h) = 10 * (e * (W * S)) + 10 * (W * h) := by grind
      grind
    have g1 := ab_two f1
    have g2 := ab_two f2
    have z : wt * ss - W * S = (wt - W) * ss + W * (ss - S) := by grind
    rw [z]
    refine ab_of ?_ ?_ <;> grind
  have v1 := ab_two b1
  have v2 := ab_two k1
  obtain ⟨c1, c2⟩ := rnd9 (K := 2) he e4 h0 hh (by grind) hN0 (by refine ab_of ?_ ?_ <;> grind) n4
  have v3 := ab_two c1
  obtain ⟨c3, c4⟩ := rnd9 (K := 3) he e4 h0 hh (by grind) hN0 (by refine ab_of ?_ ?_ <;> grind) n5
  have v4 := ab_two c3
  have E0 : 0 ≤ E := by have := he; grind
  have EN := Rat.mul_nonneg E0 hN0
  have b2l : N / 2 ≤ b2 := by grind
  have f1 := rmul b2l E0
  have f2 : ab (E * b2) ≤ N := by
    rw [ab_mul, ab_pos E0]
    have := rmul c4 E0
    have := Rat.mul_le_mul_of_nonneg_right hE1 hN0
    grind
  obtain ⟨c5, c6⟩ := rnd9 (K := 1) he e4 h0 hh (by grind) hN0 (by grind) n6
  have v5 := ab_two c5
  have c7 := ab_two c6
  obtain ⟨c8, c9⟩ := rnd9 (K := 5) he e4 h0 hh (by grind) hN0 (by refine ab_of ?_ ?_ <;> grind) n7
  have v6 := ab_two c8
  have v7 := ab_two k2
  have g := Rat.mul_le_mul_of_nonneg_right hE hN0
  grind
end Go.Proofs.Ytfohggiehbplkaa
namespace Go.Proofs.Ytfohggiehbplkaa
open Ieee Go.RowKit
set_option linter.unusedSimpArgs false
set_option linter.unusedVariables false

def c2w : Nat := 4611686018427387904
theorem c2_bd : Bd 1 c2w := ⟨by rw [okK64]; decide, by decide +kernel, by decide +kernel⟩
theorem c2_rv : rv c2w = 2 := by decide +kernel
theorem ep_8m : epR * 8388608 ≤ 1 / 2 ^ 30 := by decide +kernel
theorem le_mul9 {a b d : Rat} (hd : 0 < d) (h : a * d ≤ b * d) : a ≤ b := by
  rcases Rat.le_total (a := a) (b := b) with g | g
  · exact g
  · by_cases e : a = b
    · rw [e]; exact Rat.le_refl
    · have := Rat.mul_pos (show 0 < a - b by grind) hd
      grind
theorem us_low {m : Nat} (h : Us m) (m0 : 0 ≤ rv m) : rv m = 0 ∨ 1 ≤ rv m * 2 ^ 40 := by
  rcases h.low with g | g
  · exact .inl g
  · right
    rwa [← ab_rv, ab_pos m0] at g
theorem us_high {m : Nat} (h : Us m) : ab (rv m) ≤ 2 ^ 40 := by rw [ab_rv]; exact h.bd.2.2
/-- twice a mass -/
theorem two_m {m : Nat} (hm : Us m) (m1 : 1 ≤ rv m * 2 ^ 40) : Bd 42 (oF .mul c2w m) ∧ ab (rv (oF .mul c2w m) - 2 * rv m) ≤ 6 * (epR * rv m) ∧ rv m ≤ rv (oF .mul c2w m) := by
  obtain ⟨b, n⟩ := mul_o c2_bd hm.bd (by omega)
  rw [c2_rv] at n
  have m0 : 0 ≤ rv m := by grind
  have hh : etR ≤ epR * rv m := hmin (P := 2 ^ 40) (by decide +kernel) m1 m0
  have k := (rnd9 (K := 2) ep_pos ep_4 et_pos hh (by grind) m0 (by rw [ab_pos (by grind)]; exact Rat.le_refl) n).1
  have e1 := Rat.mul_le_mul_of_nonneg_right ep_20 m0
  have t := ab_two k
  exact ⟨bd_mono b (by omega), by grind, by grind⟩
def kq (m x : Nat) : Nat := oF .quo x (oF .mul c2w m)
theorem kq_num {n x m : Nat} {Y T M : Rat} (hm : Us m) (m1 : 1 ≤ rv m * 2 ^ 40) (bx : Bd n x) (hn : n ≤ 700) (hx : ab (rv x - Y) ≤ 8 * (epR * Y) + 8 * etR) (hY : Y = T * (2 * rv m)) (T0 : 0 ≤ T) (hT : T ≤ M) (hM : etR * 2 ^ 60 ≤ epR * M) : Bd (n + 43) (kq m x) ∧ ab (rv (kq m x) - T) ≤ 60 * (epR * M) := by
  obtain ⟨bt, et, lt⟩ := two_m hm m1
  have m0 : 0 < rv m := by grind
  have M0 : 0 ≤ M := by grind
  have tp : 0 ≤ rv (oF .mul c2w m) := by grind
  have hav : av (oF .mul c2w m) = rv (oF .mul c2w m) := by rw [← ab_rv, ab_pos tp]
  have k1 : 1 ≤ av (oF .mul c2w m) * 2 ^ 40 := by
    rw [hav]
    have := Rat.mul_le_mul_of_nonneg_right lt (show (0 : Rat) ≤ 2 ^ 40 by decide +kernel)
    grind
  have y0 : mg (oF .mul c2w m) ≠ 0 := by
    intro e
    have : av (oF .mul c2w m) = 0 := by unfold av; rw [e]; decide +kernel
    rw [hav] at this
    grind
  obtain ⟨bq, rq⟩ := bd_quo bx bt k1 (by omega)
  have eq : kq m x = Dv .quo x (oF .mul c2w m) := oF_dv (some_quo bx.2.1 bt.2.1 y0) bq
  obtain ⟨Q, nq, nD⟩ := quo_rv bx.2.1 bt.2.1 y0 bq.2.1 rq
  rw [eq]
  refine ⟨bq, ?_⟩
  clear eq rq bq y0 k1 hav bt
  generalize rv (Dv .quo x (oF .mul c2w m)) = z at *
  generalize rv (oF .mul c2w m) = t at *
  generalize rv x = X at *
  generalize rv m = μ at *
  have Y0 : 0 ≤ Y := by rw [hY]; exact Rat.mul_nonneg T0 (by grind)
  have eY := Rat.mul_nonneg ep_pos Y0
  have eM := Rat.mul_nonneg ep_pos M0
  have eT := Rat.mul_le_mul_of_nonneg_left hT ep_pos
  have e1 := Rat.mul_le_mul_of_nonneg_right ep_20 Y0
  have e2 := Rat.mul_le_mul_of_nonneg_right ep_20 M0
  have e3 := Rat.mul_le_mul_of_nonneg_right ep_20 (ab_nn Q)
  have e4 := Rat.mul_le_mul_of_nonneg_right ep_20 et_pos
  have h00 := et_pos
  have hX : ab X ≤ 2 * Y + 8 * etR := by
    have := ab_add Y (X - Y)
    rw [show Y + (X - Y) = X by grind, ab_pos Y0] at this
    grind
  have d0 : 0 < 2 * μ := by grind
  have a1 : ab (Q * (2 * μ - t)) ≤ 3 * (epR * ab Q) * (2 * μ) := by
    rw [ab_mul, show 2 * μ - t = -(t - 2 * μ) by grind, ab_neg]
    have := rmul et (ab_nn Q)
    grind
  have a2 : ab (Q * t - X) ≤ 2 * (epR * Y) + etR := by
    have k := rmul hX ep_pos
    have c : epR * (2 * Y + 8 * etR) = 2 * (epR * Y) + 8 * (epR * etR) := by clear hY; grind
    rw [c] at k
    refine Rat.le_trans nq (Rat.le_trans k ?_)
    have eh := Rat.mul_nonneg ep_pos et_pos
    clear hY hx nq k
    grind
  have a3 : 9 * etR ≤ epR * M * (2 * μ) := by
    have b1 := rmul m1 et_pos
    have b2 := Rat.mul_le_mul_of_nonneg_right hM (show 0 ≤ μ by grind)
    have b3 : etR * 2 ^ 60 * μ = etR * (μ * 2 ^ 40) * 2 ^ 20 := by
      rw [show (2 : Rat) ^ 60 = 2 ^ 40 * 2 ^ 20 by decide +kernel]; grind
    grind
  have a4 : ab (Q - T) * (2 * μ) ≤ (3 * (epR * ab Q) + 11 * (epR * M)) * (2 * μ) := by
    have e5 : ab (Q - T) * (2 * μ) = ab ((Q - T) * (2 * μ)) := by rw [ab_mul, ab_pos (a := 2 * μ) (by grind)]
    rw [e5, show (Q - T) * (2 * μ) = Q * (2 * μ - t) + ((Q * t - X) + (X - Y)) by grind]
    have b1 := ab_add (Q * (2 * μ - t)) ((Q * t - X) + (X - Y))
    have b2 := ab_add (Q * t - X) (X - Y)
    have b3 : epR * Y ≤ epR * M * (2 * μ) := by
      rw [hY]
      have := Rat.mul_le_mul_of_nonneg_right eT (show 0 ≤ 2 * μ by grind)
      grind
    grind
  have a5 := le_mul9 d0 a4
  have hQ : ab Q ≤ 2 * M := by
    have := ab_add T (Q - T)
    rw [show T + (Q - T) = Q by grind, ab_pos T0] at this
    grind
  have a6 := rmul hQ ep_pos
  have r := (rnd9 (K := 2) ep_pos ep_4 et_pos (show etR ≤ epR * M by grind) (by grind) M0 hQ nD).1
  have t1 := ab_two a5
  have t2 := ab_two r
  refine ab_of ?_ ?_ <;> grind
theorem kq_zero {n x m : Nat} (hm : Us m) (m1 : 1 ≤ rv m * 2 ^ 40) (bx : Bd n x) (hn : n ≤ 700) (hx : rv x = 0) : rv (kq m x) = 0 := by
  obtain ⟨bt, et, lt⟩ := two_m hm m1
  have m0 : 0 < rv m := by grind
  have tp : 0 ≤ rv (oF .mul c2w m) := by grind
  have hav : av (oF .mul c2w m) = rv (oF .mul c2w m) := by rw [← ab_rv, ab_pos tp]
  have k1 : 1 ≤ av (oF .mul c2w m) * 2 ^ 40 := by
    rw [hav]
    have := Rat.mul_le_mul_of_nonneg_right lt (show (0 : Rat) ≤ 2 ^ 40 by decide +kernel)
    grind
  have y0 : mg (oF .mul c2w m) ≠ 0 := by
    intro e
    have : av (oF .mul c2w m) = 0 := by unfold av; rw [e]; decide +kernel
    rw [hav] at this
    grind
  obtain ⟨bq, rq⟩ := bd_quo bx bt k1 (by omega)
  have eq : kq m x = Dv .quo x (oF .mul c2w m) := oF_dv (some_quo bx.2.1 bt.2.1 y0) bq
  obtain ⟨Q, nq, nD⟩ := quo_rv bx.2.1 bt.2.1 y0 bq.2.1 rq
  rw [hx, show ab (0 : Rat) = 0 by decide +kernel] at nq
  have a := ab_le (Q * rv (oF .mul c2w m) - 0)
  have e : Q * rv (oF .mul c2w m) = 0 := by grind
  rw [eq]
  rcases Rat.mul_eq_zero.1 e with e1 | e1
  · rw [e1] at nD; exact tiny_zero nD
  · grind
/-- a square, two squares -/
theorem sq1_num {n x : Nat} (bx : Bd n x) (hn : n ≤ 340) : Bd 681 (oF .mul x x) ∧ ab (rv (oF .mul x x) - rv x * rv x) ≤ 2 * (epR * (rv x * rv x)) + 2 * etR := by
  obtain ⟨b, nr⟩ := mul_o bx bx (by omega)
  refine ⟨bd_mono b (by omega), ?_⟩
  have := ns_q ep_pos ep_4 et_pos nr
  rw [ab_pos (sq_nn9 _)] at this
  rw [show rv (oF .mul x x) - rv x * rv x = -(rv x * rv x - rv (oF .mul x x)) by grind, ab_neg]
  exact this
theorem sq2_num {n x y : Nat} (bx : Bd n x) (by_ : Bd n y) (hn : n ≤ 340) : Bd 683 (oF .add (oF .mul x x) (oF .mul y y)) ∧ ab (rv (oF .add (oF .mul x x) (oF .mul y y)) - (rv x * rv x + rv y * rv y)) ≤ 8 * (epR * (rv x * rv x + rv y * rv y)) + 8 * etR := by
  obtain ⟨b1, n1⟩ := sq1_num bx hn
  obtain ⟨b2, n2⟩ := sq1_num by_ hn
  obtain ⟨b3, n3⟩ := add_oB b1 b2 (by omega)
  refine ⟨b3, ?_⟩
  have q := ns_q ep_pos ep_4 et_pos n3
  rw [show rv (oF .mul x x) + rv (oF .mul y y) - rv (oF .add (oF .mul x x) (oF .mul y y)) = -(rv (oF .add (oF .mul x x) (oF .mul y y)) - (rv (oF .mul x x) + rv (oF .mul y y))) by grind, ab_neg] at q
  have x2 := sq_nn9 (rv x)
  have y2 := sq_nn9 (rv y)
  generalize rv (oF .add (oF .mul x x) (oF .mul y y)) = z at *
  generalize rv (oF .mul x x) = p at *
  generalize rv (oF .mul y y) = r at *
  generalize rv x * rv x = X at *
  generalize rv y * rv y = Y at *
  have t1 := ab_two n1
  have t2 := ab_two n2
  have e1 := Rat.mul_le_mul_of_nonneg_right ep_20 x2
  have e2 := Rat.mul_le_mul_of_nonneg_right ep_20 y2
  have e3 := Rat.mul_le_mul_of_nonneg_right ep_20 et_pos
  have s : ab (p + r) ≤ 2 * (X + Y) + 4 * etR := by refine ab_of ?_ ?_ <;> grind
  have k1 : ab (p + r - (X + Y)) ≤ 2 * (epR * (X + Y)) + 4 * etR := by refine ab_of ?_ ?_ <;> grind
  have s2 := rmul s ep_pos
  have t3 := ab_two q
  have t4 := ab_two k1
  refine ab_of ?_ ?_ <;> grind
/-- the energy of a still, word by word -/
def kiW (m i x y s : Nat) : Nat :=
  let k := if ltK .f64 0 m then oF .add 0 (kq m (oF .add (oF .mul x x) (oF .mul y y))) else 0
  if ltK .f64 0 i then oF .add k (kq i (oF .mul s s)) else k
def TE (m v : Nat) : Rat := rv v * rv v / (2 * rv m)
theorem te_z {m v : Nat} (m0 : rv m = 0) : TE m v = 0 := by
  unfold TE
  rw [m0]
  simp [Rat.div_def]
theorem te_mul {m v : Nat} (m1 : rv m ≠ 0) : rv v * rv v = TE m v * (2 * rv m) := by
  unfold TE
  grind
theorem te_nn {m v : Nat} (m0 : 0 ≤ rv m) : 0 ≤ TE m v := by
  by_cases h : rv m = 0
  · rw [te_z h]; exact Rat.le_refl
  · refine le_mul9 (d := 2 * rv m) (by grind) ?_
    rw [← te_mul h, Rat.zero_mul]
    exact sq_nn9 _
theorem lt_pos9 {m : Nat} (h : Us m) (m0 : 0 ≤ rv m) (g : ltK .f64 0 m = true) : 1 ≤ rv m * 2 ^ 40 ∧ rv m ≠ 0 := by
  have h2 : rv 0 = 0 := by decide +kernel
  have p := (lt_rv (x := 0) (by decide +kernel) (fin_nan h.bd.2.1)).1 g
  rw [h2] at p
  have n : rv m ≠ 0 := by grind
  exact ⟨(us_low h m0).resolve_left n, n⟩
theorem zero_bd9 (n : Nat) : Bd n 0 := eq_zero_bd ok_zero (by decide +kernel) n
theorem rv0_9 : rv 0 = 0 := by decide +kernel
theorem ki_num {m i x y s : Nat} {M : Rat} (hm : Us m) (hi : Us i) (m0 : 0 ≤ rv m) (i0 : 0 ≤ rv i) (bx : Bd 340 x) (by_ : Bd 340 y) (bs : Bd 340 s) (hT : TE m x + TE m y + TE i s ≤ M) (hM : etR * 2 ^ 60 ≤ epR * M) : Bd 730 (kiW m i x y s) ∧ ab (rv (kiW m i x y s) - (TE m x + TE m y + TE i s)) ≤ 400 * (epR * M) := by
  have a0 := te_nn (v := x) m0
  have b0 := te_nn (v := y) m0
  have c0 := te_nn (v := s) i0
  have M0 : 0 ≤ M := by grind
  have eM := Rat.mul_nonneg ep_pos M0
  have eM1 := Rat.mul_le_mul_of_nonneg_right ep_20 M0
  have hh : etR ≤ epR * M := by have := et_pos; grind
  have k : ∃ k, k = (if ltK .f64 0 m then oF .add 0 (kq m (oF .add (oF .mul x x) (oF .mul y y))) else 0) ∧ Bd 728 k ∧ ab (rv k - (TE m x + TE m y)) ≤ 70 * (epR * M) := by
    refine ⟨_, rfl, ?_⟩
    cases h : ltK .f64 0 m
    · simp only [Bool.false_eq_true, if_false]
      have z := m_zero hm m0 h
      refine ⟨zero_bd9 _, ?_⟩
      rw [te_z z, te_z z, rv0_9, show (0 : Rat) - (0 + 0) = 0 by decide +kernel, show ab (0 : Rat) = 0 by decide +kernel]
      grind
    · simp only [if_true]
      obtain ⟨m1, mn⟩ := lt_pos9 hm m0 h
      obtain ⟨b2, n2⟩ := sq2_num bx by_ (by omega)
      obtain ⟨b3, n3⟩ := kq_num (T := TE m x + TE m y) (M := M) hm m1 b2 (by omega) n2 (by rw [te_mul (v := x) mn, te_mul (v := y) mn]; grind) (by grind) (by grind) hM
      obtain ⟨b4, n4⟩ := add_oB (zero_bd9 726) b3 (by omega)
      refine ⟨b4, ?_⟩
      rw [rv0_9, Rat.zero_add] at n4
      have t3 := ab_two n3
      have r := (rnd9 (K := 2) ep_pos ep_4 et_pos hh (by grind) M0 (by refine ab_of ?_ ?_ <;> grind) n4).1
      have t4 := ab_two r
      refine ab_of ?_ ?_ <;> grind
  obtain ⟨k, ek, bk, nk⟩ := k
  have t1 := ab_two nk
  have e : kiW m i x y s = if ltK .f64 0 i then oF .add k (kq i (oF .mul s s)) else k := by unfold kiW; rw [← ek]
  rw [e]
  cases h : ltK .f64 0 i
  · simp only [Bool.false_eq_true, if_false]
    have z := m_zero hi i0 h
    refine ⟨bd_mono bk (by omega), ?_⟩
    rw [te_z z]
    refine ab_of ?_ ?_ <;> grind
  · simp only [if_true]
    obtain ⟨m1, mn⟩ := lt_pos9 hi i0 h
    obtain ⟨b2, n2⟩ := sq1_num bs (by omega)
    have s2 := sq_nn9 (rv s)
    have es2 := Rat.mul_nonneg ep_pos s2
    obtain ⟨b3, n3⟩ := kq_num (T := TE i s) (M := M) hi m1 b2 (by omega) (Rat.le_trans n2 (by have := et_pos; grind)) (te_mul mn) c0 (by grind) hM
    obtain ⟨b4, n4⟩ := add_oB bk (bd_mono b3 (show _ ≤ 728 by omega)) (by omega)
    refine ⟨bd_mono b4 (by omega), ?_⟩
    have t3 := ab_two n3
    have r := (rnd9 (K := 2) ep_pos ep_4 et_pos hh (by grind) M0 (by refine ab_of ?_ ?_ <;> grind) n4).1
    have t4 := ab_two r
    refine ab_of ?_ ?_ <;> grind
theorem ki_zero {m i x y s : Nat} (hm : Us m) (hi : Us i) (m0 : 0 ≤ rv m) (i0 : 0 ≤ rv i) (bx : Bd 340 x) (by_ : Bd 340 y) (bs : Bd 340 s) (zx : rv x = 0) (zy : rv y = 0) (zs : rv s = 0) : rv (kiW m i x y s) = 0 ∧ Bd 730 (kiW m i x y s) := by
  have b := (ki_num (M := 1) hm hi m0 i0 bx by_ bs (by unfold TE; rw [zx, zy, zs]; simp [Rat.div_def]; decide +kernel) (by decide +kernel)).1
  refine ⟨?_, b⟩
  have k : ∃ k, k = (if ltK .f64 0 m then oF .add 0 (kq m (oF .add (oF .mul x x) (oF .mul y y))) else 0) ∧ Bd 728 k ∧ rv k = 0 := by
    refine ⟨_, rfl, ?_⟩
    cases h : ltK .f64 0 m
    · simp only [Bool.false_eq_true, if_false]
      exact ⟨zero_bd9 _, rv0_9⟩
    · simp only [if_true]
      obtain ⟨m1, mn⟩ := lt_pos9 hm m0 h
      obtain ⟨b1, _⟩ := sq1_num bx (by omega)
      obtain ⟨b2, _⟩ := sq1_num by_ (by omega)
      obtain ⟨b3, _⟩ := sq2_num bx by_ (by omega)
      have z3 := add_z b1 b2 (by omega) (by rw [mul_z bx bx (by omega) (by rw [zx]; decide +kernel), mul_z by_ by_ (by omega) (by rw [zy]; decide +kernel)]; decide +kernel)
      have z4 := kq_zero hm m1 b3 (by omega) z3
      have b4 := (kq_num (Y := 0) (T := 0) (M := 1) hm m1 b3 (by omega) (by rw [z3]; decide +kernel) (by grind) (by decide +kernel) (by decide +kernel) (by decide +kernel)).1
      exact ⟨(add_oB (zero_bd9 726) b4 (by omega)).1, add_z (zero_bd9 726) b4 (by omega) (by rw [z4, rv0_9]; decide +kernel)⟩
  obtain ⟨k, ek, bk, nk⟩ := k
  have e : kiW m i x y s = if ltK .f64 0 i then oF .add k (kq i (oF .mul s s)) else k := by unfold kiW; rw [← ek]
  rw [e]
  cases h : ltK .f64 0 i
  · simp only [Bool.false_eq_true, if_false]; exact nk
  · simp only [if_true]
    obtain ⟨m1, mn⟩ := lt_pos9 hi i0 h
    obtain ⟨b1, _⟩ := sq1_num bs (by omega)
    have z1 := mul_z bs bs (by omega) (show rv s * rv s = 0 by rw [zs]; decide +kernel)
    have z4 := kq_zero hi m1 b1 (by omega) z1
    have b4 := (kq_num (Y := 0) (T := 0) (M := 1) hi m1 b1 (by omega) (by rw [z1]; decide +kernel) (by grind) (by decide +kernel) (by decide +kernel) (by decide +kernel)).1
    exact add_z bk (bd_mono b4 (show _ ≤ 728 by omega)) (by omega) (by rw [z4, nk]; decide +kernel)
def keW (Ms V : Nat → Nat) : Nat := oF .add (kiW (Ms 0) (Ms 2) (V 0) (V 1) (V 2)) (kiW (Ms 3) (Ms 5) (V 3) (V 4) (V 5))
def KE (Ms V : Nat → Nat) : Rat := (TE (Ms 0) (V 0) + TE (Ms 0) (V 1) + TE (Ms 2) (V 2)) + (TE (Ms 3) (V 3) + TE (Ms 3) (V 4) + TE (Ms 5) (V 5))
theorem ke_num {Ms V : Nat → Nat} {M : Rat} (hm : ∀ i, i < 6 → Us (Ms i)) (m0 : ∀ i, i < 6 → 0 ≤ rv (Ms i)) (hV : ∀ i, i < 6 → Bd 340 (V i)) (hT : KE Ms V ≤ M) (hM : etR * 2 ^ 60 ≤ epR * M) : Bd 732 (keW Ms V) ∧ ab (rv (keW Ms V) - KE Ms V) ≤ 1000 * (epR * M) := by
  have q := fun i j (h : i < 6) => te_nn (v := V j) (m0 i h)
  have q0 := q 0 0 (by omega); have q1 := q 0 1 (by omega); have q2 := q 2 2 (by omega); have q3 := q 3 3 (by omega); have q4 := q 3 4 (by omega); have q5 := q 5 5 (by omega)
  unfold KE at hT ⊢
  obtain ⟨b1, n1⟩ := ki_num (M := M) (hm 0 (by omega)) (hm 2 (by omega)) (m0 0 (by omega)) (m0 2 (by omega)) (hV 0 (by omega)) (hV 1 (by omega)) (hV 2 (by omega)) (by grind) hM
  obtain ⟨b2, n2⟩ := ki_num (M := M) (hm 3 (by omega)) (hm 5 (by omega)) (m0 3 (by omega)) (m0 5 (by omega)) (hV 3 (by omega)) (hV 4 (by omega)) (hV 5 (by omega)) (by grind) hM
  obtain ⟨b3, n3⟩ := add_oB b1 b2 (by omega)
  refine ⟨b3, ?_⟩
  unfold keW
  have M0 : 0 ≤ M := by grind
  have eM := Rat.mul_nonneg ep_pos M0
  have eM1 := Rat.mul_le_mul_of_nonneg_right ep_20 M0
  have hh : etR ≤ epR * M := by have := et_pos; grind
  have t1 := ab_two n1
  have t2 := ab_two n2
  have r := (rnd9 (K := 2) ep_pos ep_4 et_pos hh (by grind) M0 (by refine ab_of ?_ ?_ <;> grind) n3).1
  have t4 := ab_two r
  refine ab_of ?_ ?_ <;> grind
theorem ke_zero {Ms V : Nat → Nat} (hm : ∀ i, i < 6 → Us (Ms i)) (m0 : ∀ i, i < 6 → 0 ≤ rv (Ms i)) (hV : ∀ i, i < 6 → Bd 340 (V i)) (z : ∀ i, i < 6 → rv (V i) = 0) : rv (keW Ms V) = 0 ∧ Bd 732 (keW Ms V) := by
  obtain ⟨z1, b1⟩ := ki_zero (hm 0 (by omega)) (hm 2 (by omega)) (m0 0 (by omega)) (m0 2 (by omega)) (hV 0 (by omega)) (hV 1 (by omega)) (hV 2 (by omega)) (z 0 (by omega)) (z 1 (by omega)) (z 2 (by omega))
  obtain ⟨z2, b2⟩ := ki_zero (hm 3 (by omega)) (hm 5 (by omega)) (m0 3 (by omega)) (m0 5 (by omega)) (hV 3 (by omega)) (hV 4 (by omega)) (hV 5 (by omega)) (z 3 (by omega)) (z 4 (by omega)) (z 5 (by omega))
  exact ⟨add_z b1 b2 (by omega) (by rw [z1, z2]; decide +kernel), (add_oB b1 b2 (by omega)).1⟩
end Go.Proofs.Ytfohggiehbplkaa
namespace Go.Proofs.Ytfohggiehbplkaa
open Ieee Go.RowKit
set_option linter.unusedSimpArgs false
set_option linter.unusedVariables false

theorem vv_340 {Ms A V : Nat → Nat} {d i : Nat} (hm : Us (Ms i)) (ha : Us (A i)) (hv : Us (V i)) (hd : Bd 221 d) : Bd 340 (vvW Ms A V d i) := by
  have kk : Bd 310 (kkW Ms A d i) := by
    unfold kkW
    split
    · exact bd_mono (mul_o hm.bd (mul_o hd ha.bd (by omega)).1 (by omega)).1 (by omega)
    · exact bd_mono (mul_o (mul_o hm.bd hd (by omega)).1 ha.bd (by omega)).1 (by omega)
  unfold vvW
  split
  · exact bd_mono (add_oB (bd_mono hv.bd (show 40 ≤ 310 by omega)) kk (by omega)).1 (by omega)
  · exact bd_mono hv.bd (by omega)
/-- the products of a speed against the weight and the energy -/
theorem go_ke {A Ms V : Nat → Nat} (m0 : ∀ i, i < 6 → 0 ≤ rv (Ms i)) (e1 : Ms 1 = Ms 0) (e4 : Ms 4 = Ms 3) (hz : ∀ i, i < 6 → rv (Ms i) = 0 → rv (V i) = 0) : GO A V * GO A V ≤ WT A Ms * (2 * KE Ms V) ∧ 0 ≤ KE Ms V := by
  have g : ∀ i, i < 6 → ab (PR A V i) * ab (PR A V i) ≤ (rv (Ms i) * SQ A i) * (2 * TE (Ms i) (V i)) := fun i hi => by
    rw [sq_ab9]
    unfold PR SQ
    by_cases h : rv (Ms i) = 0
    · rw [hz i hi h, h]
      simp only [Rat.mul_zero, Rat.zero_mul]
      exact Rat.le_refl
    · have := te_mul (v := V i) h
      have e : rv (A i) * rv (V i) * (rv (A i) * rv (V i)) = rv (A i) * rv (A i) * (rv (V i) * rv (V i)) := by grind
      rw [e, this]
      have : rv (A i) * rv (A i) * (TE (Ms i) (V i) * (2 * rv (Ms i))) = rv (Ms i) * (rv (A i) * rv (A i)) * (2 * TE (Ms i) (V i)) := by grind
      rw [this]
      exact Rat.le_refl
  have a := fun i => ab_nn (PR A V i)
  have w : ∀ i, i < 6 → 0 ≤ rv (Ms i) * SQ A i := fun i hi => Rat.mul_nonneg (m0 i hi) (sq_nn9 _)
  have u : ∀ i, i < 6 → 0 ≤ 2 * TE (Ms i) (V i) := fun i hi => by have := te_nn (v := V i) (m0 i hi); grind
  have w0 := w 0 (by omega); have w1 := w 1 (by omega); have w2 := w 2 (by omega); have w3 := w 3 (by omega); have w4 := w 4 (by omega); have w5 := w 5 (by omega)
  have u0 := u 0 (by omega); have u1 := u 1 (by omega); have u2 := u 2 (by omega); have u3 := u 3 (by omega); have u4 := u 4 (by omega); have u5 := u 5 (by omega)
  have a0 := a 0; have a1 := a 1; have a2 := a 2; have a3 := a 3; have a4 := a 4; have a5 := a 5
  have c1 := cs9 a0 a1 w0 u0 w1 u1 (g 0 (by omega)) (g 1 (by omega))
  have c2 := cs9 (by grind) a2 (by grind) (by grind) w2 u2 c1 (g 2 (by omega))
  have c3 := cs9 (by grind) a3 (by grind) (by grind) w3 u3 c2 (g 3 (by omega))
  have c4 := cs9 (by grind) a4 (by grind) (by grind) w4 u4 c3 (g 4 (by omega))
  have c5 := cs9 (by grind) a5 (by grind) (by grind) w5 u5 c4 (g 5 (by omega))
  rw [e1, e4] at c5
  rw [e1] at u1
  rw [e4] at u4
  unfold GO WT KE
  constructor
  · refine Rat.le_trans c5 ?_
    generalize TE (Ms 0) (V 0) = T0 at *
    generalize TE (Ms 0) (V 1) = T1 at *
    generalize TE (Ms 2) (V 2) = T2 at *
    generalize TE (Ms 3) (V 3) = T3 at *
    generalize TE (Ms 3) (V 4) = T4 at *
    generalize TE (Ms 5) (V 5) = T5 at *
    rw [show rv (Ms 0) * SQ A 0 + rv (Ms 0) * SQ A 1 + rv (Ms 2) * SQ A 2 + rv (Ms 3) * SQ A 3 + rv (Ms 3) * SQ A 4 + rv (Ms 5) * SQ A 5 = rv (Ms 0) * (SQ A 0 + SQ A 1) + rv (Ms 2) * SQ A 2 + rv (Ms 3) * (SQ A 3 + SQ A 4) + rv (Ms 5) * SQ A 5 by grind]
    rw [show 2 * T0 + 2 * T1 + 2 * T2 + 2 * T3 + 2 * T4 + 2 * T5 = 2 * (T0 + T1 + T2 + (T3 + T4 + T5)) by grind]
    exact Rat.le_refl
  · clear c1 c2 c3 c4 c5 g
    grind
/-- the energy behind a push -/
theorem ke_push {A Ms V : Nat → Nat} {d : Nat} (hm : ∀ i, i < 6 → Us (Ms i)) (m0 : ∀ i, i < 6 → 0 ≤ rv (Ms i)) (ha : ∀ i, i < 6 → Us (A i)) (hv : ∀ i, i < 6 → Us (V i)) (e1 : Ms 1 = Ms 0) (e4 : Ms 4 = Ms 3) (hz : ∀ i, i < 6 → rv (Ms i) = 0 → rv (V i) = 0) (hd : Bd 221 d) :
    KE Ms (vvW Ms A V d) ≤ (KE Ms V + rv d * SU A V + WT A Ms * (rv d * rv d) / 2) + 100 * (epR * ((KE Ms V + rv d * SU A V + WT A Ms * (rv d * rv d) / 2) + WT A Ms * (rv d * rv d) / 2 + 6 * (TI * TI * 2 ^ 40))) := by
  have bd9 := bd_mono hd (show 221 ≤ 491 by omega)
  have t : ∀ i, i < 6 → TE (Ms i) (vvW Ms A V d i) ≤ ter (rv (Ms i)) (rv (A i)) (rv (V i)) (rv d) + 100 * (epR * (ter (rv (Ms i)) (rv (A i)) (rv (V i)) (rv d) + rv (Ms i) * rv (A i) * rv (A i) * (rv d * rv d) / 2 + TI * TI * 2 ^ 40)) := fun i hi => by
    unfold TE
    refine term_rat (h := etR) ep_pos ep_4096 et_pos ti_nn (by decide +kernel) (m0 i hi) (fun h0 => ?_) (us_low (hm i hi) (m0 i hi)) (fun h0 => ?_)
    · have g : ltK .f64 0 (Ms i) = false := by
        cases g : ltK .f64 0 (Ms i)
        · rfl
        · exact absurd h0 (lt_pos9 (hm i hi) (m0 i hi) g).2
      have e : vvW Ms A V d i = V i := by unfold vvW; rw [g]; rfl
      rw [e]
      exact ⟨hz i hi h0, hz i hi h0⟩
    · have g : ltK .f64 0 (Ms i) = true := by
        cases g : ltK .f64 0 (Ms i)
        · exact absurd (m_zero (hm i hi) (m0 i hi) g) h0
        · rfl
      have e : vvW Ms A V d i = oF .add (V i) (kkW Ms A d i) := by unfold vvW; rw [g]; rfl
      obtain ⟨b, k⟩ := kk_num (Ms := Ms) (A := A) (i := i) (hm i hi) (ha i hi) bd9
      obtain ⟨b2, n⟩ := add_oB (bd_mono (hv i hi).bd (show 40 ≤ 575 by omega)) b (by omega)
      rw [e]
      have n1 : ab (rv (oF .add (V i) (kkW Ms A d i)) - (rv (V i) + rv (kkW Ms A d i))) ≤ epR * ab (rv (oF .add (V i) (kkW Ms A d i))) + etR := by
        rw [show rv (oF .add (V i) (kkW Ms A d i)) - (rv (V i) + rv (kkW Ms A d i)) = -(rv (V i) + rv (kkW Ms A d i) - rv (oF .add (V i) (kkW Ms A d i))) by grind, ab_neg]
        exact n
      have t1 := ab_two n1
      have t2 := ab_two k
      refine ab_of ?_ ?_ <;> grind
  have t0 := t 0 (by omega); have t1 := t 1 (by omega); have t2 := t 2 (by omega); have t3 := t 3 (by omega); have t4 := t 4 (by omega); have t5 := t 5 (by omega)
  clear t
  rw [e1] at t1
  rw [e4] at t4
  unfold ter at t0 t1 t2 t3 t4 t5
  unfold KE SU WT PR SQ
  generalize vvW Ms A V d = V' at *
  have te : ∀ m v, TE m v = rv v * rv v / (2 * rv m) := fun _ _ => rfl
  rw [te (Ms 0) (V 0), te (Ms 0) (V 1), te (Ms 2) (V 2), te (Ms 3) (V 3), te (Ms 3) (V 4), te (Ms 5) (V 5)]
  generalize rv (V 0) * rv (V 0) / (2 * rv (Ms 0)) = K0 at *
  generalize rv (V 1) * rv (V 1) / (2 * rv (Ms 0)) = K1 at *
  generalize rv (V 2) * rv (V 2) / (2 * rv (Ms 2)) = K2 at *
  generalize rv (V 3) * rv (V 3) / (2 * rv (Ms 3)) = K3 at *
  generalize rv (V 4) * rv (V 4) / (2 * rv (Ms 3)) = K4 at *
  generalize rv (V 5) * rv (V 5) / (2 * rv (Ms 5)) = K5 at *
  generalize TE (Ms 0) (V' 0) = L0 at *
  generalize TE (Ms 0) (V' 1) = L1 at *
  generalize TE (Ms 2) (V' 2) = L2 at *
  generalize TE (Ms 3) (V' 3) = L3 at *
  generalize TE (Ms 3) (V' 4) = L4 at *
  generalize TE (Ms 5) (V' 5) = L5 at *
  generalize rv d = D at *
  generalize TI = T at *
  grind
/-- nothing is below what counts -/
theorem n_low {Ms V : Nat → Nat} {P : Nat} {W Q : Rat} (hm : ∀ i, i < 6 → Us (Ms i)) (m0 : ∀ i, i < 6 → 0 ≤ rv (Ms i)) (hv : ∀ i, i < 6 → Us (V i)) (e1 : Ms 1 = Ms 0) (e4 : Ms 4 = Ms 3) (hz : ∀ i, i < 6 → rv (Ms i) = 0 → rv (V i) = 0) (hP : Us P) (hW : 1 ≤ W * 2 ^ 120) (hQ : 0 ≤ Q) :
    ((∀ i, i < 6 → rv (V i) = 0) ∧ rv P = 0) ∨ 1 ≤ (KE Ms V + W * (rv P * rv P + Q)) * 2 ^ 200 := by
  have W0 : 0 ≤ W := by grind
  have K0 : 0 ≤ KE Ms V := (go_ke (A := V) m0 e1 e4 hz).2
  have p2 := sq_nn9 (rv P)
  have w1 := Rat.mul_nonneg W0 p2
  have w2 := Rat.mul_nonneg W0 hQ
  by_cases hp : rv P = 0
  · by_cases hg : ∀ i, i < 6 → rv (V i) = 0
    · exact .inl ⟨hg, hp⟩
    · right
      obtain ⟨i, hi⟩ := Classical.not_forall.1 hg
      obtain ⟨hi, hn⟩ := Classical.not_imp.1 hi
      have mn : rv (Ms i) ≠ 0 := fun h => hn (hz i hi h)
      have vv : rv (V i) * rv (V i) ≠ 0 := fun h => by rcases Rat.mul_eq_zero.1 h with g | g <;> exact hn g
      have l := prod_low (hv i hi) (hv i hi) vv
      rw [ab_pos (sq_nn9 _), te_mul (v := V i) mn] at l
      have hb := (ab_two (us_high (hm i hi))).1
      have t0 := te_nn (v := V i) (m0 i hi)
      have k := rmul hb t0
      have l2 : 1 ≤ TE (Ms i) (V i) * 2 ^ 121 := by
        rw [show (2 : Rat) ^ 121 = 2 ^ 40 * 2 * 2 ^ 80 by decide +kernel]
        have := Rat.mul_le_mul_of_nonneg_right k (show (0 : Rat) ≤ 2 * 2 ^ 80 by decide +kernel)
        grind
      have q := fun i j (h : i < 6) => te_nn (v := V j) (m0 i h)
      have q0 := q 0 0 (by omega); have q1 := q 0 1 (by omega); have q2 := q 2 2 (by omega); have q3 := q 3 3 (by omega); have q4 := q 3 4 (by omega); have q5 := q 5 5 (by omega)
      have le : TE (Ms i) (V i) ≤ KE Ms V := by
        unfold KE
        rcases (show i = 0 ∨ i = 1 ∨ i = 2 ∨ i = 3 ∨ i = 4 ∨ i = 5 by omega) with rfl | rfl | rfl | rfl | rfl | rfl
        · grind
        · rw [e1]; grind
        · grind
        · grind
        · rw [e4]; grind
        · grind
      have k2 := Rat.mul_le_mul_of_nonneg_right le (show (0 : Rat) ≤ 2 ^ 121 by decide +kernel)
      have k3 : (2 : Rat) ^ 200 = 2 ^ 121 * 2 ^ 79 := by decide +kernel
      rw [k3]
      have k4 : (1 : Rat) ≤ 2 ^ 79 := by decide +kernel
      grind
  · right
    have pp : rv P * rv P ≠ 0 := fun h => by rcases Rat.mul_eq_zero.1 h with g | g <;> exact hp g
    have l := prod_low hP hP pp
    rw [ab_pos p2] at l
    have k1 := Rat.mul_le_mul_of_nonneg_right l (show (0 : Rat) ≤ W * 2 ^ 120 by grind)
    have k3 : (2 : Rat) ^ 200 = 2 ^ 80 * 2 ^ 120 := by decide +kernel
    rw [k3]
    grind
/-- what the law holds the energy against -/
def rhW (A Ms V : Nat → Nat) (P q : Nat) : Nat := oF .add (keW Ms V) (oF .mul c30 (oF .add (keW Ms V) (oF .mul (wtW A Ms) (oF .add (oF .mul P P) (oF .mul q q)))))
theorem rh_num {A Ms V : Nat → Nat} {P q : Nat} (bk : Bd 732 (keW Ms V)) (bw : Bd 130 (wtW A Ms)) (bP : Bd 219 P) (bq : Bd 219 q) :
    Bd 782 (rhW A Ms V P q) ∧ ∃ pp qq ss ws b2 c, nrS (rv P * rv P) pp ∧ nrS (rv q * rv q) qq ∧ nrS (pp + qq) ss ∧ nrS (rv (wtW A Ms) * ss) ws ∧ nrS (rv (keW Ms V) + ws) b2 ∧ nrS (1 / 2 ^ 30 * b2) c ∧ nrS (rv (keW Ms V) + c) (rv (rhW A Ms V P q)) ∧ (0 ≤ rv (keW Ms V) → 0 ≤ rv (wtW A Ms) → 0 ≤ rv (rhW A Ms V P q)) := by
  obtain ⟨b1, n1⟩ := mul_o bP bP (by omega)
  obtain ⟨b2, n2⟩ := mul_o bq bq (by omega)
  obtain ⟨b3, n3⟩ := add_oB b1 b2 (by omega)
  obtain ⟨b4, n4⟩ := mul_o bw b3 (by omega)
  obtain ⟨b5, n5⟩ := add_oB bk (bd_mono b4 (show _ ≤ 732 by omega)) (by omega)
  obtain ⟨b6, n6⟩ := mul_o c30_bd b5 (by omega)
  rw [c30_rv] at n6
  obtain ⟨b7, n7⟩ := add_oB (bd_mono bk (show 732 ≤ 780 by omega)) (bd_mono b6 (show _ ≤ 780 by omega)) (by omega)
  refine ⟨b7, _, _, _, _, _, _, n1, n2, n3, n4, n5, n6, n7, fun k0 w0 => ?_⟩
  have m1 := nn_round (sq_nn9 _) n1
  have m2 := nn_round (sq_nn9 _) n2
  have m3 := nn_round (by grind) n3
  have m4 := nn_round (Rat.mul_nonneg w0 m3) n4
  have m5 := nn_round (by grind) n5
  have m6 := nn_round (Rat.mul_nonneg (show (0 : Rat) ≤ 1 / 2 ^ 30 by decide +kernel) m5) n6
  exact nn_round (by grind) n7
/-- the row pushed: its energy is at most what the law says -/
theorem energy_word {A V Ms : Nat → Nat} {B P q : Nat} (h : UsW A V Ms B P) (hB : rv B = 0) (hz : ∀ i, i < 6 → rv (Ms i) = 0 → rv (V i) = 0) (bq : Bd 219 q)
    (bt : (rv P ≤ rv q ∧ rv q ≤ rv (puW A V Ms B P)) ∨ (rv (puW A V Ms B P) ≤ rv q ∧ rv q ≤ rv P)) :
    (∀ i, i < 6 → Bd 340 (vvW Ms A V (oF .sub q P) i)) ∧ leK .f64 (keW Ms (vvW Ms A V (oF .sub q P))) (rhW A Ms V P q) = true := by
  obtain ⟨w0, w1, w2, w3, w4, w5⟩ := wt_low h
  obtain ⟨bl, nl, bQ, ⟨Q, nq, nD⟩, bp, np, _, _⟩ := qu_bd h
  obtain ⟨bd, nd⟩ := sub_oB bq (bd_mono h.p.bd (show 40 ≤ 219 by omega)) (by omega)
  have hV : ∀ i, i < 6 → Bd 340 (vvW Ms A V (oF .sub q P) i) := fun i hi => vv_340 (h.m i hi) (h.a i hi) (h.v i hi) bd
  refine ⟨hV, ?_⟩
  have hA := fun i hi => (h.a i hi).bd
  have hv := fun i hi => bd_mono (h.v i hi).bd (show 40 ≤ 600 by omega)
  have hv3 := fun i hi => bd_mono (h.v i hi).bd (show 40 ≤ 340 by omega)
  have bw := (wt_num h.a h.m h.m0).1
  have bk0 : Bd 732 (keW Ms V) := (ke_num (M := KE Ms V + 1) h.m h.m0 hv3 (by grind) (by
    have k := (go_ke (A := V) h.m0 h.e1 h.e4 hz).2
    have c : etR * 2 ^ 60 ≤ epR := by decide +kernel
    have := Rat.mul_nonneg ep_pos k
    grind)).1
  obtain ⟨br, pp, qq, ss, ws, b2, c, n1, n2, n3, n4, n5, n6, n7, rn⟩ := rh_num bk0 bw (bd_mono h.p.bd (show 40 ≤ 219 by omega)) bq
  have q2 := sq_nn9 (rv q)
  have p2 := sq_nn9 (rv P)
  have K0 : 0 ≤ KE Ms V := (go_ke (A := V) h.m0 h.e1 h.e4 hz).2
  rcases n_low (W := WT A Ms) h.m h.m0 h.v h.e1 h.e4 hz h.p w1 q2 with ⟨zv, zp⟩ | lo
  · -- nothing moves
    have z1 : GO A V = 0 := by
      unfold GO PR
      rw [zv 0 (by omega), zv 1 (by omega), zv 2 (by omega), zv 3 (by omega), zv 4 (by omega), zv 5 (by omega)]
      simp only [Rat.mul_zero]
      decide +kernel
    have s0 := sp_zero hA hv z1
    have l0 : rv (lkW A V B) = 0 := sub_z (bd_mono h.b.bd (show 40 ≤ 91 by omega)) (sp_bd40 h.a h.v) (by omega) (by rw [hB, s0]; decide +kernel)
    have D0 : rv (quW A V Ms B) = 0 := by
      rw [l0, show ab (0 : Rat) = 0 by decide +kernel] at nq
      have a := ab_le (Q * rv (wtW A Ms) - 0)
      have e : Q * rv (wtW A Ms) = 0 := by grind
      rcases Rat.mul_eq_zero.1 e with e1 | e1
      · rw [e1] at nD; exact tiny_zero nD
      · grind
    have q0 : rv (puW A V Ms B P) = rv P := rv_same (bd_mono h.p.bd (show 40 ≤ 217 by omega)) bQ (by omega) (Nat.le_refl _) D0
    have d0 : rv (oF .sub q P) = 0 := sub_z bq (bd_mono h.p.bd (show 40 ≤ 219 by omega)) (by omega) (by rw [q0] at bt; grind)
    have k0 : ∀ i, i < 6 → rv (vvW Ms A V (oF .sub q P) i) = 0 := fun i hi => by
      have hm := h.m i hi
      have ha := h.a i hi
      have hx := h.v i hi
      rw [← zv i hi]
      unfold vvW
      split
      · refine rv_same (bd_mono hx.bd (show 40 ≤ 575 by omega)) (kk_num hm ha (bd_mono bd (show 221 ≤ 491 by omega))).1 (by omega) (Nat.le_refl _) ?_
        unfold kkW
        split
        · exact mul_z hm.bd (mul_o bd ha.bd (by omega)).1 (by omega) (by rw [mul_z bd ha.bd (by omega) (by rw [d0]; exact Rat.zero_mul _)]; exact Rat.mul_zero _)
        · exact mul_z (mul_o hm.bd bd (by omega)).1 ha.bd (by omega) (by rw [mul_z hm.bd bd (by omega) (by rw [d0]; exact Rat.mul_zero _)]; exact Rat.zero_mul _)
      · rfl
    obtain ⟨ka0, bka⟩ := ke_zero h.m h.m0 hV k0
    obtain ⟨kb0, _⟩ := ke_zero h.m h.m0 hv3 zv
    refine (le_rv (fin_nan bka.2.1) (fin_nan br.2.1)).2 ?_
    rw [ka0]
    exact rn (by rw [kb0]; exact Rat.le_refl) (by grind)
  · obtain ⟨N, hN⟩ : ∃ N, KE Ms V + WT A Ms * (rv P * rv P + rv q * rv q) = N := ⟨_, rfl⟩
    rw [hN] at lo
    have wpq := Rat.mul_nonneg w0 (show 0 ≤ rv P * rv P + rv q * rv q by grind)
    have N0 : 0 ≤ N := by grind
    have eN := Rat.mul_nonneg ep_pos N0
    have eN1 := Rat.mul_le_mul_of_nonneg_right ep_20 N0
    have small : ∀ x : Rat, 0 ≤ x → x * 2 ^ 200 ≤ epR → x ≤ epR * N := fun x x0 hx => by
      have a := rmul lo x0
      have b := Rat.mul_le_mul_of_nonneg_right hx N0
      grind
    have hW131 : WT A Ms ≤ 2 ^ 131 := by
      have c : (2 : Rat) ^ 131 = 2 * 2 ^ 130 := by decide +kernel
      rw [c]; grind
    -- the size of what goes in
    obtain ⟨τ, hτ⟩ : ∃ τ : Rat, 1 / 2 ^ 500 = τ := ⟨_, rfl⟩
    have τ0 : 0 ≤ τ := by rw [← hτ]; decide +kernel
    obtain ⟨M, hM⟩ : ∃ M, GO A V + τ = M := ⟨_, rfl⟩
    have g0 := go_nn A V
    have M0 : 0 ≤ M := by grind
    have eτ : etR ≤ epR * M ∧ WT A Ms * etR ≤ epR * M := by
      have a := rmul (show τ ≤ M by grind) ep_pos
      have b := Rat.mul_le_mul_of_nonneg_right hW131 et_pos
      have c : etR ≤ epR * τ := by rw [← hτ]; decide +kernel
      have d : 2 ^ 131 * etR ≤ epR * τ := by rw [← hτ]; decide +kernel
      exact ⟨Rat.le_trans c a, Rat.le_trans b (Rat.le_trans d a)⟩
    have es := (sp_num hA hv (show GO A V ≤ M by grind) eτ.1).1
    have bS : ab (SU A V) ≤ M := Rat.le_trans (su_go A V) (by grind)
    have nl0 : ns epR etR (0 - rv (spW A V)) (rv (lkW A V B)) := by rw [← hB]; exact nl
    have off := off_rat ep_pos ep_20 et_pos eτ.1 M0 w0 bS es nl0 w2 nq nD np eτ.2
    have fall := fall_rat (y := rv q - rv P) w0 off (by rcases bt with ⟨x1, x2⟩ | ⟨x1, x2⟩ <;> grind)
    -- the pushes together
    obtain ⟨G, hG⟩ : ∃ G, ab (rv P) + ab (rv q) = G := ⟨_, rfl⟩
    have aP := ab_nn (rv P)
    have aq := ab_nn (rv q)
    have G0 : 0 ≤ G := by grind
    have GG : G * G ≤ 2 * (rv P * rv P + rv q * rv q) := by
      have := sq_nn9 (ab (rv P) - ab (rv q))
      have s1 := sq_ab9 (rv P)
      have s2 := sq_ab9 (rv q)
      rw [← hG]
      grind
    have WG : WT A Ms * (G * G) ≤ 2 * N := by
      have := rmul GG w0
      grind
    have cs := (go_ke (A := A) (V := V) h.m0 h.e1 h.e4 hz).1
    have GGO : G * GO A V ≤ N := by
      have a := amgm9 (x := WT A Ms * (G * G)) (y := 2 * KE Ms V) (z := G * GO A V) (by have := Rat.mul_nonneg w0 (Rat.mul_nonneg G0 G0); exact this) (by grind) (Rat.mul_nonneg G0 g0) (by
        have := Rat.mul_le_mul_of_nonneg_right cs (Rat.mul_nonneg G0 G0)
        grind)
      have b := rmul GG w0
      grind
    have G220 : G ≤ 2 ^ 220 := by
      have x1 : ab (rv P) ≤ 2 ^ 40 := us_high h.p
      have x2 : ab (rv q) ≤ 2 ^ 219 := by rw [ab_rv]; exact bq.2.2
      have c : (2 : Rat) ^ 220 = 2 * 2 ^ 219 := by decide +kernel
      have c2 : (2 : Rat) ^ 40 ≤ 2 ^ 219 := by decide +kernel
      rw [c, ← hG]
      grind
    have small3 : ∀ x y : Rat, 0 ≤ x → 0 ≤ y → x ≤ y → y * 2 ^ 200 ≤ epR → x ≤ epR * N := fun x y x0 y0 hxy hy => Rat.le_trans hxy (small y y0 hy)
    have Gτ : G * τ ≤ N := by
      have a := Rat.mul_le_mul_of_nonneg_right G220 τ0
      have b := small (2 ^ 220 * τ) (by rw [← hτ]; decide +kernel) (by rw [← hτ]; decide +kernel)
      grind
    have GM : G * M ≤ 2 * N := by rw [← hM]; grind
    have go81 : GO A V ≤ 2 ^ 90 := by
      have p : ∀ i, i < 6 → ab (PR A V i) ≤ 2 ^ 80 := fun i hi => by
        unfold PR
        have := ab_mul_le (us_high (h.a i hi)) (us_high (h.v i hi))
        rwa [show (2 : Rat) ^ 40 * 2 ^ 40 = 2 ^ 80 by decide +kernel] at this
      have p0 := p 0 (by omega); have p1 := p 1 (by omega); have p2 := p 2 (by omega); have p3 := p 3 (by omega); have p4 := p 4 (by omega); have p5 := p 5 (by omega)
      unfold GO
      have c : (2 : Rat) ^ 90 = 1024 * 2 ^ 80 := by decide +kernel
      have c0 : (0 : Rat) ≤ 2 ^ 80 := by decide +kernel
      rw [c]
      grind
    have t1 : etR * M ≤ epR * N := by
      refine small3 _ (etR * 2 ^ 91) (Rat.mul_nonneg et_pos M0) (by decide +kernel) (rmul ?_ et_pos) (by decide +kernel)
      have c : τ ≤ 1 := by rw [← hτ]; decide +kernel
      have c2 : (2 : Rat) ^ 91 = 2 * 2 ^ 90 := by decide +kernel
      have c3 : (1 : Rat) ≤ 2 ^ 90 := by decide +kernel
      rw [c2]
      grind
    have t2 : etR * (WT A Ms * G) ≤ epR * N := by
      have a := Rat.mul_le_mul_of_nonneg_right hW131 G0
      have b := rmul G220 (show (0 : Rat) ≤ 2 ^ 131 by decide +kernel)
      exact small3 _ (etR * (2 ^ 131 * 2 ^ 220)) (Rat.mul_nonneg et_pos (Rat.mul_nonneg w0 G0)) (by decide +kernel) (rmul (Rat.le_trans a b) et_pos) (by decide +kernel)
    have t3 : etR * (WT A Ms * etR) ≤ epR * N := by
      have a := Rat.mul_le_mul_of_nonneg_right hW131 et_pos
      exact small3 _ (etR * (2 ^ 131 * etR)) (Rat.mul_nonneg et_pos (Rat.mul_nonneg w0 et_pos)) (by decide +kernel) (rmul a et_pos) (by decide +kernel)
    obtain ⟨s1, s2⟩ := step_rat (y := rv (oF .sub q P)) ep_pos ep_20 et_pos w0 M0 G0 N0 bS fall (by
      have := ab_sub (rv q) (rv P)
      grind) (show ab (rv P) ≤ G by grind) nd GM WG t1 t2 t3
    have kp := ke_push (A := A) h.m h.m0 h.a h.v h.e1 h.e4 hz bd
    have ti : 6 * (TI * TI * 2 ^ 40) ≤ N := by
      have := small (6 * (TI * TI * 2 ^ 40)) (by decide +kernel) (by decide +kernel)
      grind
    have KN : KE Ms V ≤ N := by grind
    have hK' : KE Ms (vvW Ms A V (oF .sub q P)) ≤ KE Ms V + 7000 * (epR * N) := by
      generalize KE Ms (vvW Ms A V (oF .sub q P)) = L at *
      generalize rv (oF .sub q P) = y at *
      generalize SU A V = S at *
      have k1 : y * S + WT A Ms * (y * y) / 2 ≤ 5000 * (epR * N) := by
        have : y * y * WT A Ms / 2 = WT A Ms * (y * y) / 2 := by grind
        grind
      have k2 : WT A Ms * (y * y) ≤ 20 * N := by
        have : y * y * WT A Ms = WT A Ms * (y * y) := by grind
        grind
      have k3 : (KE Ms V + y * S + WT A Ms * (y * y) / 2) + WT A Ms * (y * y) / 2 + 6 * (TI * TI * 2 ^ 40) ≤ 13 * N := by
        clear kp
        grind
      have k4 := rmul k3 ep_pos
      have k5 : epR * (13 * N) = 13 * (epR * N) := by grind
      rw [k5] at k4
      clear k5 k3 k2
      generalize epR * (KE Ms V + y * S + WT A Ms * (y * y) / 2 + WT A Ms * (y * y) / 2 + 6 * (TI * TI * 2 ^ 40)) = Z at *
      grind
    have h60 : etR * 2 ^ 60 ≤ epR * N := small _ (by decide +kernel) (by decide +kernel)
    have kb := (ke_num (M := N) h.m h.m0 hv3 KN h60).2
    obtain ⟨bka, ka⟩ := ke_num (M := 2 * N) h.m h.m0 hV (by grind) (by grind)
    refine (le_rv (fin_nan bka.2.1) (fin_nan br.2.1)).2 ?_
    exact final_rat (K' := KE Ms (vvW Ms A V (oF .sub q P))) ep_pos ep_20 et_pos w0 K0 hN ep_8m (by decide +kernel) kb (by
      have e : 1000 * (epR * (2 * N)) = 2000 * (epR * N) := by grind
      rw [e] at ka
      grind) hK' (small _ et_pos (by decide +kernel)) (by
      have a := Rat.mul_le_mul_of_nonneg_right hW131 et_pos
      exact small3 _ (2 ^ 131 * etR) (Rat.mul_nonneg w0 et_pos) (by decide +kernel) a (by decide +kernel)) w2 n1 n2 n3 n4 n5 n6 n7
end Go.Proofs.Ytfohggiehbplkaa
namespace Go.Proofs.Ytfohggiehbplkaa
open Ieee Go.RowKit
set_option linter.unusedSimpArgs false
set_option linter.unusedVariables false

theorem us_zero9 : Us 0 := ⟨ok_zero, zero_bd9 40, .inl rv0_9⟩
/-- a row that weighs nothing -/
theorem energy_same {A V Ms : Nat → Nat} {P : Nat} (hm : ∀ i, i < 6 → Us (Ms i)) (m0 : ∀ i, i < 6 → 0 ≤ rv (Ms i)) (ha : ∀ i, i < 6 → Us (A i)) (hv : ∀ i, i < 6 → Us (V i)) (e1 : Ms 1 = Ms 0) (e4 : Ms 4 = Ms 3) (hz : ∀ i, i < 6 → rv (Ms i) = 0 → rv (V i) = 0) (hP : Us P) (hw : ltK .f64 0 (wtW A Ms) = false) :
    leK .f64 (keW Ms V) (rhW A Ms V P P) = true := by
  have hv3 := fun i hi => bd_mono (hv i hi).bd (show 40 ≤ 340 by omega)
  obtain ⟨bw, w0, w1, w2⟩ := wt_num ha hm m0
  have K0 : 0 ≤ KE Ms V := (go_ke (A := V) m0 e1 e4 hz).2
  have bP := bd_mono hP.bd (show 40 ≤ 219 by omega)
  have W0 : WT A Ms = 0 := by
    rcases w1 with g | g
    · exact g
    · have k : ¬ rv 0 < rv (wtW A Ms) := fun h3 => by
        rw [(lt_rv (x := 0) (by decide +kernel) (fin_nan bw.2.1)).2 h3] at hw
        cases hw
      rw [rv0_9] at k
      have t := ab_two w2
      have := Rat.mul_le_mul_of_nonneg_right ep_20 w0
      grind
  have wz : rv (wtW A Ms) = 0 := by
    rw [W0] at w2
    have t := ab_le (rv (wtW A Ms) - 0)
    grind
  have bk0 : Bd 732 (keW Ms V) := (ke_num (M := KE Ms V + 1) hm m0 hv3 (by grind) (by
    have c : etR * 2 ^ 60 ≤ epR := by decide +kernel
    have := Rat.mul_nonneg ep_pos K0
    grind)).1
  obtain ⟨br, pp, qq, ss, ws, b2, c, n1, n2, n3, n4, n5, n6, n7, rn⟩ := rh_num (V := V) bk0 bw bP bP
  refine (le_rv (fin_nan bk0.2.1) (fin_nan br.2.1)).2 ?_
  rcases n_low (W := 1) (P := 0) (Q := 0) hm m0 hv e1 e4 hz us_zero9 (by decide +kernel) Rat.le_refl with ⟨zv, zp⟩ | lo
  · obtain ⟨kb0, _⟩ := ke_zero hm m0 hv3 zv
    rw [kb0]
    exact rn (by rw [kb0]; exact Rat.le_refl) (by rw [wz]; exact Rat.le_refl)
  · rw [rv0_9] at lo
    have lo2 : 1 ≤ KE Ms V * 2 ^ 200 := by grind
    have small : ∀ x : Rat, 0 ≤ x → x * 2 ^ 200 ≤ epR → x ≤ epR * KE Ms V := fun x x0 hx => by
      have a := rmul lo2 x0
      have b := Rat.mul_le_mul_of_nonneg_right hx K0
      grind
    have eN := Rat.mul_nonneg ep_pos K0
    have kb := (ke_num (M := KE Ms V) hm m0 hv3 Rat.le_refl (small _ (by decide +kernel) (by decide +kernel))).2
    exact final_rat (W := WT A Ms) (N := KE Ms V) (K' := KE Ms V) ep_pos ep_20 et_pos w0 K0 (by rw [W0]; grind) ep_8m (by decide +kernel) kb (by grind) (by grind) (small _ et_pos (by decide +kernel)) (by rw [W0]; grind) w2 n1 n2 n3 n4 n5 n6 n7
end Go.Proofs.Ytfohggiehbplkaa
