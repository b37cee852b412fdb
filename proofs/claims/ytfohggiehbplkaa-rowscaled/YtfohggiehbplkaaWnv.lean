/-
  Plain facts on floats, more: rounding to the nearest rung, sums and products of finite floats, signs turned. No program is named here.
-/
import Derived.Test.YtfohggiehbplkaaWnu
namespace Go.Proofs.Ytfohggiehbplkaa
open Ieee Go.RowKit
set_option linter.unusedSimpArgs false
set_option linter.unusedVariables false

/-! ### A row solved comes to what it asks: over rational numbers -/
theorem rnd9 {e h M K A q : Rat} (he : 0 ≤ e) (he1 : e * 4 ≤ 1) (h0 : 0 ≤ h) (hh : h ≤ e * M) (hK : 1 ≤ K) (hM : 0 ≤ M) (hA : ab A ≤ K * M) (n : ns e h A q) : ab (q - A) ≤ 3 * K * (e * M) ∧ ab q ≤ 2 * K * M := by
  have k1 : h ≤ e * (K * M) := by
    have a := Rat.mul_le_mul_of_nonneg_right hK (Rat.mul_nonneg he hM)
    have : e * (K * M) = K * (e * M) := by grind
    grind
  obtain ⟨a, b⟩ := ns_err (M := K * M) he he1 h0 hA k1 n
  constructor
  · rw [show q - A = -(A - q) by grind, ab_neg]
    have : 3 * (e * (K * M)) = 3 * K * (e * M) := by grind
    grind
  · have : 2 * (K * M) = 2 * K * M := by grind
    grind
/-- six products and their sum, as Speed makes it -/
theorem sum_err {e h M x0 x1 x2 x3 x4 x5 p0 p1 p2 p3 p4 p5 d1 s1 d2 s2 s : Rat} (he : 0 ≤ e) (he1 : e * 4 ≤ 1) (h0 : 0 ≤ h) (hh : h ≤ e * M) (hM : 0 ≤ M)
    (b0 : ab x0 ≤ M) (b1 : ab x1 ≤ M) (b2 : ab x2 ≤ M) (b3 : ab x3 ≤ M) (b4 : ab x4 ≤ M) (b5 : ab x5 ≤ M)
    (n0 : ns e h x0 p0) (n1 : ns e h x1 p1) (n2 : ns e h x2 p2) (n3 : ns e h x3 p3) (n4 : ns e h x4 p4) (n5 : ns e h x5 p5)
    (m1 : ns e h (p0 + p1) d1) (m2 : ns e h (d1 + p2) s1) (m3 : ns e h (p3 + p4) d2) (m4 : ns e h (s1 + d2) s2) (m5 : ns e h (s2 + p5) s) :
    ab (s - (x0 + x1 + x2 + x3 + x4 + x5)) ≤ 500 * (e * M) := by
  obtain ⟨a0, c0⟩ := rnd9 (K := 1) he he1 h0 hh (by grind) hM (by grind) n0
  obtain ⟨a1, c1⟩ := rnd9 (K := 1) he he1 h0 hh (by grind) hM (by grind) n1
  obtain ⟨a2, c2⟩ := rnd9 (K := 1) he he1 h0 hh (by grind) hM (by grind) n2
  obtain ⟨a3, c3⟩ := rnd9 (K := 1) he he1 h0 hh (by grind) hM (by grind) n3
  obtain ⟨a4, c4⟩ := rnd9 (K := 1) he he1 h0 hh (by grind) hM (by grind) n4
  obtain ⟨a5, c5⟩ := rnd9 (K := 1) he he1 h0 hh (by grind) hM (by grind) n5
  obtain ⟨g1, f1⟩ := rnd9 (K := 4) he he1 h0 hh (by grind) hM (by have := ab_add p0 p1; grind) m1
  obtain ⟨g2, f2⟩ := rnd9 (K := 10) he he1 h0 hh (by grind) hM (by have := ab_add d1 p2; grind) m2
  obtain ⟨g3, f3⟩ := rnd9 (K := 4) he he1 h0 hh (by grind) hM (by have := ab_add p3 p4; grind) m3
  obtain ⟨g4, f4⟩ := rnd9 (K := 28) he he1 h0 hh (by grind) hM (by have := ab_add s1 d2; grind) m4
  obtain ⟨g5, f5⟩ := rnd9 (K := 58) he he1 h0 hh (by grind) hM (by have := ab_add s2 p5; grind) m5
  have e0 := ab_two a0; have e1 := ab_two a1; have e2 := ab_two a2; have e3 := ab_two a3; have e4 := ab_two a4; have e5 := ab_two a5
  have k1 := ab_two g1; have k2 := ab_two g2; have k3 := ab_two g3; have k4 := ab_two g4; have k5 := ab_two g5
  clear a0 a1 a2 a3 a4 a5 c0 c1 c2 c3 c4 c5 f1 f2 f3 f4 f5 g1 g2 g3 g4 g5 n0 n1 n2 n3 n4 n5 m1 m2 m3 m4 m5 b0 b1 b2 b3 b4 b5
  refine ab_of ?_ ?_ <;> grind
theorem ab_dist (x y : Rat) : ab (ab x - ab y) ≤ ab (x - y) := by
  have a := ab_add y (x - y)
  have b := ab_add x (y - x)
  rw [show y + (x - y) = x by grind] at a
  rw [show x + (y - x) = y by grind, show y - x = -(x - y) by grind, ab_neg] at b
  exact ab_of (by grind) (by grind)
/-- the same products without their signs, as the law sums them -/
theorem goes_err {e h M x0 x1 x2 x3 x4 x5 p0 p1 p2 p3 p4 p5 d1 s1 d2 s2 s : Rat} (he : 0 ≤ e) (he1 : e * 4 ≤ 1) (h0 : 0 ≤ h) (hh : h ≤ e * M) (hM : 0 ≤ M)
    (b0 : ab x0 ≤ M) (b1 : ab x1 ≤ M) (b2 : ab x2 ≤ M) (b3 : ab x3 ≤ M) (b4 : ab x4 ≤ M) (b5 : ab x5 ≤ M)
    (n0 : ns e h x0 p0) (n1 : ns e h x1 p1) (n2 : ns e h x2 p2) (n3 : ns e h x3 p3) (n4 : ns e h x4 p4) (n5 : ns e h x5 p5)
    (m1 : ns e h (ab p0 + ab p1) d1) (m2 : ns e h (d1 + ab p2) s1) (m3 : ns e h (ab p3 + ab p4) d2) (m4 : ns e h (d2 + ab p5) s2) (m5 : ns e h (s1 + s2) s) :
    ab (s - (ab x0 + ab x1 + ab x2 + ab x3 + ab x4 + ab x5)) ≤ 500 * (e * M) := by
  obtain ⟨a0, c0⟩ := rnd9 (K := 1) he he1 h0 hh (by grind) hM (by grind) n0
  obtain ⟨a1, c1⟩ := rnd9 (K := 1) he he1 h0 hh (by grind) hM (by grind) n1
  obtain ⟨a2, c2⟩ := rnd9 (K := 1) he he1 h0 hh (by grind) hM (by grind) n2
  obtain ⟨a3, c3⟩ := rnd9 (K := 1) he he1 h0 hh (by grind) hM (by grind) n3
  obtain ⟨a4, c4⟩ := rnd9 (K := 1) he he1 h0 hh (by grind) hM (by grind) n4
  obtain ⟨a5, c5⟩ := rnd9 (K := 1) he he1 h0 hh (by grind) hM (by grind) n5
  have q0 := ab_nn p0; have q1 := ab_nn p1; have q2 := ab_nn p2; have q3 := ab_nn p3; have q4 := ab_nn p4; have q5 := ab_nn p5
  obtain ⟨g1, f1⟩ := rnd9 (K := 4) he he1 h0 hh (by grind) hM (by rw [ab_pos (by grind)]; grind) m1
  obtain ⟨g2, f2⟩ := rnd9 (K := 10) he he1 h0 hh (by grind) hM (by have := ab_add d1 (ab p2); rw [ab_pos q2] at this; grind) m2
  obtain ⟨g3, f3⟩ := rnd9 (K := 4) he he1 h0 hh (by grind) hM (by rw [ab_pos (by grind)]; grind) m3
  obtain ⟨g4, f4⟩ := rnd9 (K := 10) he he1 h0 hh (by grind) hM (by have := ab_add d2 (ab p5); rw [ab_pos q5] at this; grind) m4
  obtain ⟨g5, f5⟩ := rnd9 (K := 40) he he1 h0 hh (by grind) hM (by have := ab_add s1 s2; grind) m5
  have e0 := ab_two (Rat.le_trans (ab_dist p0 x0) a0); have e1 := ab_two (Rat.le_trans (ab_dist p1 x1) a1); have e2 := ab_two (Rat.le_trans (ab_dist p2 x2) a2); have e3 := ab_two (Rat.le_trans (ab_dist p3 x3) a3); have e4 := ab_two (Rat.le_trans (ab_dist p4 x4) a4); have e5 := ab_two (Rat.le_trans (ab_dist p5 x5) a5)
  have k1 := ab_two g1; have k2 := ab_two g2; have k3 := ab_two g3; have k4 := ab_two g4; have k5 := ab_two g5
  generalize ab x0 = X0 at *; generalize ab x1 = X1 at *; generalize ab x2 = X2 at *; generalize ab x3 = X3 at *; generalize ab x4 = X4 at *; generalize ab x5 = X5 at *
  generalize ab p0 = P0 at *; generalize ab p1 = P1 at *; generalize ab p2 = P2 at *; generalize ab p3 = P3 at *; generalize ab p4 = P4 at *; generalize ab p5 = P5 at *
  clear a0 a1 a2 a3 a4 a5 c0 c1 c2 c3 c4 c5 f1 f2 f3 f4 f5 g1 g2 g3 g4 g5 n0 n1 n2 n3 n4 n5 m1 m2 m3 m4 m5 b0 b1 b2 b3 b4 b5
  refine ab_of ?_ ?_ <;> grind
/-- one word of a speed behind a push: what it adds to the row's speed -/
theorem comp_err {e h m a d v k v' T : Rat} (he : 0 ≤ e) (he1 : e * 4096 ≤ 1) (h0 : 0 ≤ h) (hT : 0 ≤ T) (m0 : 0 ≤ m) (ha : ab a ≤ 2 ^ 40) (hh : 2 ^ 50 * h ≤ e * T)
    (hk : ab (k - m * d * a) ≤ 8 * (e * (ab (m * d * a) + T))) (n : ns e h (v + k) v') : ab (a * v' - a * v - m * a * a * d) ≤ 8 * (e * (m * a * a * ab d)) + e * ab (a * v') + 2 ^ 44 * (e * T) := by
  have n1 : ab (v' - (v + k)) ≤ e * ab v' + h := by unfold ns at n; rw [show v' - (v + k) = -(v + k - v') by grind, ab_neg]; exact n
  have a0 := ab_nn a
  have r1 := rmul n1 a0
  rw [← ab_mul] at r1
  have r2 := rmul hk a0
  rw [← ab_mul] at r2
  have e1 : ab (m * d * a) = m * ab d * ab a := by rw [ab_mul, ab_mul, ab_pos m0]
  have e2 : ab a * ab a = a * a := by unfold ab; split <;> grind
  have e3 : ab (a * v') = ab a * ab v' := ab_mul a v'
  have eT := Rat.mul_nonneg he hT
  have r3 := Rat.mul_le_mul_of_nonneg_right ha (show (0 : Rat) ≤ e * T from eT)
  have r4 := Rat.mul_le_mul_of_nonneg_right ha h0
  have t1 := ab_two r1
  have t2 := ab_two r2
  have q1 : ab a * (8 * (e * (ab (m * d * a) + T))) = 8 * (e * (m * (ab a * ab a) * ab d)) + 8 * (ab a * (e * T)) := by rw [e1]; grind
  have q2 : ab a * (e * ab v' + h) = e * ab (a * v') + ab a * h := by rw [e3]; grind
  rw [q1, e2] at t2
  rw [q2] at t1
  have q3 : a * (v' - (v + k)) = a * v' - a * v - a * k := by grind
  have q4 : a * (k - m * d * a) = a * k - m * a * a * d := by grind
  rw [q3] at t1
  rw [q4] at t2
  have q5 : e * (m * (a * a) * ab d) = e * (m * a * a * ab d) := by grind
  rw [q5] at t2
  generalize ab (a * v') = V at *
  generalize e * (m * a * a * ab d) = U at *
  generalize ab a * (e * T) = B1 at *
  generalize ab a * h = B2 at *
  refine ab_of ?_ ?_ <;> grind

/-- the row behind the push asks what it came to -/
theorem solved_rat {e h M W wt B s0 S0 lk Q D P q df S1 s1 : Rat} (he : 0 ≤ e) (he1 : e * 1048576 ≤ 1) (h0 : 0 ≤ h) (hh : h ≤ e * M) (hM : 0 ≤ M) (hW : 0 ≤ W)
    (bS : ab S0 ≤ M) (bB : ab B ≤ M) (es : ab (s0 - S0) ≤ 500 * (e * M)) (nl : ns e h (B - s0) lk) (ew : ab (wt - W) ≤ 48 * (e * W))
    (nq : ab (Q * wt - lk) ≤ e * ab lk) (nD : ns e h Q D) (n1 : ns e h (P + D) q) (n2 : ns e h (q - P) df) (hP : W * ab P + W * ab q ≤ M) (hWh : W * h ≤ e * M)
    (ec : ab (S1 - S0 - W * df) ≤ 8 * (e * (W * ab df)) + 2 * (e * M)) (e1 : ab (s1 - S1) ≤ 500 * (e * M)) : ab (s1 - B) ≤ 3000 * (e * M) := by
  have eM := Rat.mul_nonneg he hM
  have eM1 := Rat.mul_le_mul_of_nonneg_right he1 hM
  have hs : ab (B - s0) ≤ 3 * M := by
    have a := ab_add B (-s0)
    rw [ab_neg, show B + -s0 = B - s0 by grind] at a
    have b := ab_add S0 (s0 - S0)
    rw [show S0 + (s0 - S0) = s0 by grind] at b
    grind
  obtain ⟨l1, l2⟩ := rnd9 (K := 3) he (by grind) h0 hh (by grind) hM hs nl
  have eW := Rat.mul_nonneg he hW
  have eW1 := Rat.mul_le_mul_of_nonneg_right he1 hW
  have w1 := ab_two ew
  -- the quotient
  have q1 : ab (Q * wt) ≤ 7 * M := by
    have a := ab_add lk (Q * wt - lk)
    rw [show lk + (Q * wt - lk) = Q * wt by grind] at a
    have b := rmul l2 he
    have c : e * (2 * 3 * M) = 6 * (e * M) := by grind
    grind
  have hwt : W ≤ 2 * wt := by grind
  have hwt2 : wt ≤ 2 * W := by grind
  have wt0 : 0 ≤ wt := by grind
  have q2 : W * ab Q ≤ 14 * M := by
    have a := Rat.mul_le_mul_of_nonneg_right hwt (ab_nn Q)
    rw [ab_mul, ab_pos wt0] at q1
    have : 2 * wt * ab Q = 2 * (ab Q * wt) := by grind
    grind
  have D1 : ab D ≤ 2 * ab Q + 2 * h := by
    unfold ns at nD
    have a := ab_add Q (D - Q)
    rw [show Q + (D - Q) = D by grind, show D - Q = -(Q - D) by grind, ab_neg] at a
    have b := Rat.mul_le_mul_of_nonneg_right he1 (ab_nn D)
    have c := ab_nn Q
    grind
  have D2 : W * ab D ≤ 29 * M := by
    have a := rmul D1 hW
    have b : W * (2 * ab Q + 2 * h) = 2 * (W * ab Q) + 2 * (W * h) := by grind
    grind
  have r1 : ab (wt * D - lk) ≤ 80 * (e * M) := by
    unfold ns at nD
    have a := rmul nD wt0
    have a2 : ab (wt * (Q - D)) = wt * ab (Q - D) := by rw [ab_mul, ab_pos wt0]
    have b := Rat.mul_le_mul_of_nonneg_right hwt2 (show (0 : Rat) ≤ e * ab D + h from by have := Rat.mul_nonneg he (ab_nn D); grind)
    have c : 2 * W * (e * ab D + h) = 2 * (e * (W * ab D)) + 2 * (W * h) := by grind
    have d := rmul D2 he
    have d2 : e * (29 * M) = 29 * (e * M) := by grind
    have f := rmul l2 he
    have f2 : e * (2 * 3 * M) = 6 * (e * M) := by grind
    have g : ab (wt * (Q - D)) ≤ 2 * (29 * (e * M)) + 2 * (e * M) := by grind
    have g1 := ab_two g
    have g2 := ab_two nq
    have g3 : wt * D - lk = Q * wt - lk - wt * (Q - D) := by grind
    rw [g3]
    refine ab_of ?_ ?_ <;> grind
  have r2 : ab ((W - wt) * D) ≤ 1400 * (e * M) := by
    rw [ab_mul, show W - wt = -(wt - W) by grind, ab_neg]
    have a := Rat.mul_le_mul_of_nonneg_right ew (ab_nn D)
    have b : 48 * (e * W) * ab D = 48 * (e * (W * ab D)) := by grind
    have d := rmul D2 he
    have d2 : e * (29 * M) = 29 * (e * M) := by grind
    grind
  -- the push
  have d1 : ab df ≤ 2 * (ab q + ab P) + 2 * h := by
    unfold ns at n2
    have a := ab_add (q - P) (df - (q - P))
    rw [show q - P + (df - (q - P)) = df by grind, show df - (q - P) = -(q - P - df) by grind, ab_neg] at a
    have c := ab_add q (-P)
    rw [ab_neg, show q + -P = q - P by grind] at c
    have b := Rat.mul_le_mul_of_nonneg_right he1 (ab_nn df)
    have c1 := ab_nn q
    have c2 := ab_nn P
    grind
  have d2 : W * ab df ≤ 3 * M := by
    have a := rmul d1 hW
    have b : W * (2 * (ab q + ab P) + 2 * h) = 2 * (W * ab P + W * ab q) + 2 * (W * h) := by grind
    grind
  have d3 : ab (W * (df - D)) ≤ 8 * (e * M) := by
    rw [ab_mul, ab_pos hW]
    have a : ab (df - D) ≤ e * ab df + e * ab q + 2 * h := by
      unfold ns at n1 n2
      have a1 := ab_two n1
      have a2 := ab_two n2
      refine ab_of ?_ ?_ <;> grind
    have b := rmul a hW
    have c : W * (e * ab df + e * ab q + 2 * h) = e * (W * ab df) + e * (W * ab q) + 2 * (W * h) := by grind
    have f := rmul d2 he
    have f2 : e * (3 * M) = 3 * (e * M) := by grind
    have g : W * ab q ≤ M := by have := Rat.mul_nonneg hW (ab_nn P); grind
    have g2 := rmul g he
    grind
  have c1 : ab (S1 - S0 - W * df) ≤ 26 * (e * M) := by
    have f := rmul d2 he
    have f2 : e * (3 * M) = 3 * (e * M) := by grind
    grind
  have t1 := ab_two es
  have t2 := ab_two l1
  have t3 := ab_two r1
  have t4 := ab_two r2
  have t5 := ab_two d3
  have t6 := ab_two c1
  have t7 := ab_two e1
  have z4 : (W - wt) * D = W * D - wt * D := by grind
  have z5 : W * (df - D) = W * df - W * D := by grind
  rw [z4] at t4
  rw [z5] at t5
  clear es l1 r1 r2 d3 c1 e1 ec q1 q2 D1 D2 d1 d2 hs l2 nl ew nq nD n1 n2 hP
  generalize W * df = X1 at *
  generalize W * D = X2 at *
  generalize wt * D = X3 at *
  refine ab_of ?_ ?_ <;> grind
/-- what the law holds it against -/
theorem bound_rat {e h M W wt B G1 g1 G2 g2 P q A1 A2 p r A3 : Rat} (he : 0 ≤ e) (he1 : e * 1048576 ≤ 1) (h0 : 0 ≤ h) (hh : h ≤ e * M) (hM : 0 ≤ M) (hW : 0 ≤ W) (G0 : 0 ≤ G1) (G3 : 0 ≤ G2)
    (eM_ : G1 + G2 + ab B + W * (ab P + ab q) = M) (k1 : ab (g1 - G1) ≤ 500 * (e * M)) (k2 : ab (g2 - G2) ≤ 500 * (e * M)) (n1 : ns e h (g1 + g2) A1) (n2 : ns e h (A1 + ab B) A2) (n3 : ns e h (ab P + ab q) p) (n4 : ns e h (wt * p) r) (n5 : ns e h (A2 + r) A3)
    (ew : ab (wt - W) ≤ 48 * (e * W)) (hWh : W * h ≤ e * M) : M ≤ 2 * A3 := by
  have eM := Rat.mul_nonneg he hM
  have eM1 := Rat.mul_le_mul_of_nonneg_right he1 hM
  have B0 := ab_nn B
  have pq0 : 0 ≤ ab P + ab q := by have := ab_nn P; have := ab_nn q; grind
  have Wp0 := Rat.mul_nonneg hW pq0
  have a1 := ab_two k1
  have a2 := ab_two k2
  obtain ⟨b1, b2⟩ := rnd9 (K := 4) he (by grind) h0 hh (by grind) hM (by refine ab_of ?_ ?_ <;> grind) n1
  obtain ⟨b3, b4⟩ := rnd9 (K := 9) he (by grind) h0 hh (by grind) hM (by have := ab_add A1 (ab B); rw [ab_pos B0] at this; grind) n2
  -- the pushes
  have p1 : ab p ≤ 2 * (ab P + ab q) + 2 * h := by
    unfold ns at n3
    have a := ab_add (ab P + ab q) (p - (ab P + ab q))
    rw [show ab P + ab q + (p - (ab P + ab q)) = p by grind, show p - (ab P + ab q) = -(ab P + ab q - p) by grind, ab_neg, ab_pos pq0] at a
    have b := Rat.mul_le_mul_of_nonneg_right he1 (ab_nn p)
    grind
  have p2 : W * ab p ≤ 3 * M := by
    have a := rmul p1 hW
    have b : W * (2 * (ab P + ab q) + 2 * h) = 2 * (W * (ab P + ab q)) + 2 * (W * h) := by grind
    grind
  have p3 : ab (wt * p - W * (ab P + ab q)) ≤ 200 * (e * M) := by
    unfold ns at n3
    have a := Rat.mul_le_mul_of_nonneg_right ew (ab_nn p)
    rw [← ab_mul] at a
    have b : 48 * (e * W) * ab p = 48 * (e * (W * ab p)) := by grind
    have c := rmul p2 he
    have c2 : e * (3 * M) = 3 * (e * M) := by grind
    have d := rmul n3 hW
    have d2 : ab (W * (ab P + ab q - p)) = W * ab (ab P + ab q - p) := by rw [ab_mul, ab_pos hW]
    have d3 : W * (e * ab p + h) = e * (W * ab p) + W * h := by grind
    have f1 : ab ((wt - W) * p) ≤ 144 * (e * M) := by grind
    have f2 : ab (W * (ab P + ab q - p)) ≤ 4 * (e * M) := by grind
    have g1 := ab_two f1
    have g2 := ab_two f2
    have z : wt * p - W * (ab P + ab q) = (wt - W) * p - W * (ab P + ab q - p) := by grind
    rw [z]
    refine ab_of ?_ ?_ <;> grind
  have t3 := ab_two p3
  obtain ⟨b5, b6⟩ := rnd9 (K := 2) he (by grind) h0 hh (by grind) hM (by refine ab_of ?_ ?_ <;> grind) n4
  obtain ⟨b7, b8⟩ := rnd9 (K := 22) he (by grind) h0 hh (by grind) hM (by have := ab_add A2 r; grind) n5
  have u1 := ab_two b1
  have u2 := ab_two b3
  have u3 := ab_two b5
  have u4 := ab_two b7
  grind
/-- the last comparison -/
theorem last_rat {e h M d D A3 R E : Rat} (he : 0 ≤ e) (he1 : e * 1048576 ≤ 1) (h0 : 0 ≤ h) (hE0 : 0 ≤ E) (heE : e * 1048576 ≤ E) (hh : h ≤ e * (e * M)) (hM : 0 ≤ M) (b : ab d ≤ 3000 * (e * M)) (n1 : ns e h d D) (c : M ≤ 2 * A3) (n2 : ns e h (E * A3) R) (hEh : h ≤ e * (E * M)) (hE1 : E ≤ 1) : ab D ≤ R := by
  have eM := Rat.mul_nonneg he hM
  have EM := Rat.mul_nonneg hE0 hM
  have a1 := Rat.mul_le_mul_of_nonneg_right heE hM
  have a2 := Rat.mul_le_mul_of_nonneg_right he1 eM
  have a3 := Rat.mul_le_mul_of_nonneg_right he1 EM
  unfold ns at n1 n2
  have d1 : ab D ≤ 7000 * (e * M) := by
    have x := ab_add d (D - d)
    rw [show d + (D - d) = D by grind, show D - d = -(d - D) by grind, ab_neg] at x
    have y := Rat.mul_le_mul_of_nonneg_right he1 (ab_nn D)
    have z := ab_nn d
    grind
  have A0 : 0 ≤ A3 := by grind
  have f1 := rmul c hE0
  have f2 : ab (E * A3) = E * A3 := ab_pos (Rat.mul_nonneg hE0 A0)
  have f3 := ab_two n2
  have f4 : ab R ≤ 2 * (E * A3) + 2 * h := by
    have x := ab_add (E * A3) (R - E * A3)
    rw [show E * A3 + (R - E * A3) = R by grind, show R - E * A3 = -(E * A3 - R) by grind, ab_neg, f2] at x
    have y := Rat.mul_le_mul_of_nonneg_right he1 (ab_nn R)
    grind
  have f5 := rmul f4 he
  have f6 := Rat.mul_le_mul_of_nonneg_right he1 (Rat.mul_nonneg hE0 A0)
  have f7 := Rat.mul_le_mul_of_nonneg_right he1 h0
  grind
end Go.Proofs.Ytfohggiehbplkaa
namespace Go.Proofs.Ytfohggiehbplkaa
open Ieee Go.RowKit
set_option linter.unusedSimpArgs false
set_option linter.unusedVariables false

/-! ### A row solved comes to what it asks: words -/
theorem ep_20 : epR * 1048576 ≤ 1 := by decide +kernel
theorem ep_4 : epR * 4 ≤ 1 := by decide +kernel
theorem nn_round {A : Rat} {r : Nat} (hA : 0 ≤ A) (h : nrS A (rv r)) : 0 ≤ rv r := by
  rcases Rat.le_total (a := 0) (b := rv r) with g | g
  · exact g
  · have z : nrS 0 (rv r) := by
      unfold nrS at h ⊢
      have a1 := ab_le (A - rv r)
      rw [show (0 : Rat) - rv r = -rv r by grind, ab_pos (a := -rv r) (by grind)]
      grind
    rw [tiny_zero z]
    exact Rat.le_refl
theorem rgb {n x : Nat} (h : Bd n x) : Bd n (rgK .f64 x) ∧ rv (rgK .f64 x) = ab (rv x) := ⟨rg_bd h, by rw [rg_av, ab_rv]⟩
/-- the row's speed, word by word -/
def spW (A V : Nat → Nat) : Nat := oF .add (oF .add (oF .add (oF .add (oF .mul (A 0) (V 0)) (oF .mul (A 1) (V 1))) (oF .mul (A 2) (V 2))) (oF .add (oF .mul (A 3) (V 3)) (oF .mul (A 4) (V 4)))) (oF .mul (A 5) (V 5))
def goW (A V : Nat → Nat) : Nat := oF .add (oF .add (oF .add (rgK .f64 (oF .mul (A 0) (V 0))) (rgK .f64 (oF .mul (A 1) (V 1)))) (rgK .f64 (oF .mul (A 2) (V 2)))) (oF .add (oF .add (rgK .f64 (oF .mul (A 3) (V 3))) (rgK .f64 (oF .mul (A 4) (V 4)))) (rgK .f64 (oF .mul (A 5) (V 5))))
def PR (A V : Nat → Nat) (i : Nat) : Rat := rv (A i) * rv (V i)
def SU (A V : Nat → Nat) : Rat := PR A V 0 + PR A V 1 + PR A V 2 + PR A V 3 + PR A V 4 + PR A V 5
def GO (A V : Nat → Nat) : Rat := ab (PR A V 0) + ab (PR A V 1) + ab (PR A V 2) + ab (PR A V 3) + ab (PR A V 4) + ab (PR A V 5)
theorem go_nn (A V : Nat → Nat) : 0 ≤ GO A V := by
  unfold GO
  have := ab_nn (PR A V 0); have := ab_nn (PR A V 1); have := ab_nn (PR A V 2); have := ab_nn (PR A V 3); have := ab_nn (PR A V 4); have := ab_nn (PR A V 5)
  grind
theorem go_each {A V : Nat → Nat} {M : Rat} (h : GO A V ≤ M) : ∀ i, i < 6 → ab (PR A V i) ≤ M := fun i hi => by
  unfold GO at h
  have := ab_nn (PR A V 0); have := ab_nn (PR A V 1); have := ab_nn (PR A V 2); have := ab_nn (PR A V 3); have := ab_nn (PR A V 4); have := ab_nn (PR A V 5)
  rcases (show i = 0 ∨ i = 1 ∨ i = 2 ∨ i = 3 ∨ i = 4 ∨ i = 5 by omega) with rfl | rfl | rfl | rfl | rfl | rfl <;> grind
theorem su_go (A V : Nat → Nat) : ab (SU A V) ≤ GO A V := by
  unfold SU GO
  have h0 := ab_le (PR A V 0); have h1 := ab_le (PR A V 1); have h2 := ab_le (PR A V 2); have h3 := ab_le (PR A V 3); have h4 := ab_le (PR A V 4); have h5 := ab_le (PR A V 5)
  refine ab_of ?_ ?_ <;> grind
theorem pm {m n x y : Nat} (hx : Bd m x) (hy : Bd n y) (hm : m ≤ 40) (hn : n ≤ 600) : Bd 641 (oF .mul x y) ∧ nrS (rv x * rv y) (rv (oF .mul x y)) := by
  have h := mul_o hx hy (by omega)
  exact ⟨bd_mono h.1 (by omega), h.2⟩
theorem sp_bd {A V : Nat → Nat} (hA : ∀ i, i < 6 → Bd 40 (A i)) (hV : ∀ i, i < 6 → Bd 600 (V i)) : Bd 651 (spW A V) ∧ Bd 651 (goW A V) := by
  have p := fun i hi => (pm (hA i hi) (hV i hi) (Nat.le_refl _) (Nat.le_refl _)).1
  constructor
  · have d1 := (add_oB (p 0 (by omega)) (p 1 (by omega)) (by omega)).1
    have s1 := (add_oB d1 (bd_mono (p 2 (by omega)) (show 641 ≤ 643 by omega)) (by omega)).1
    have d2 := (add_oB (p 3 (by omega)) (p 4 (by omega)) (by omega)).1
    have s2 := (add_oB s1 (bd_mono d2 (show 643 ≤ 645 by omega)) (by omega)).1
    exact bd_mono (add_oB s2 (bd_mono (p 5 (by omega)) (show 641 ≤ 647 by omega)) (by omega)).1 (by omega)
  · have g := fun i hi => rg_bd (p i hi)
    have d1 := (add_oB (g 0 (by omega)) (g 1 (by omega)) (by omega)).1
    have s1 := (add_oB d1 (bd_mono (g 2 (by omega)) (show 641 ≤ 643 by omega)) (by omega)).1
    have d2 := (add_oB (g 3 (by omega)) (g 4 (by omega)) (by omega)).1
    have s2 := (add_oB d2 (bd_mono (g 5 (by omega)) (show 641 ≤ 643 by omega)) (by omega)).1
    exact bd_mono (add_oB s1 s2 (by omega)).1 (by omega)
theorem sp_num {A V : Nat → Nat} {M : Rat} (hA : ∀ i, i < 6 → Bd 40 (A i)) (hV : ∀ i, i < 6 → Bd 600 (V i)) (hM : GO A V ≤ M) (hh : etR ≤ epR * M) : ab (rv (spW A V) - SU A V) ≤ 500 * (epR * M) ∧ ab (rv (goW A V) - GO A V) ≤ 500 * (epR * M) := by
  have M0 : 0 ≤ M := Rat.le_trans (go_nn A V) hM
  have b := go_each hM
  have p := fun i hi => pm (hA i hi) (hV i hi) (Nat.le_refl _) (Nat.le_refl _)
  have q := fun i hi => (p i hi).1
  constructor
  · have d1 := add_oB (q 0 (by omega)) (q 1 (by omega)) (by omega)
    have s1 := add_oB d1.1 (bd_mono (q 2 (by omega)) (show 641 ≤ 643 by omega)) (by omega)
    have d2 := add_oB (q 3 (by omega)) (q 4 (by omega)) (by omega)
    have s2 := add_oB s1.1 (bd_mono d2.1 (show 643 ≤ 645 by omega)) (by omega)
    have s3 := add_oB s2.1 (bd_mono (q 5 (by omega)) (show 641 ≤ 647 by omega)) (by omega)
    exact sum_err ep_pos ep_4 et_pos hh M0 (b 0 (by omega)) (b 1 (by omega)) (b 2 (by omega)) (b 3 (by omega)) (b 4 (by omega)) (b 5 (by omega)) (p 0 (by omega)).2 (p 1 (by omega)).2 (p 2 (by omega)).2 (p 3 (by omega)).2 (p 4 (by omega)).2 (p 5 (by omega)).2 d1.2 s1.2 d2.2 s2.2 s3.2
  · have g := fun i hi => rgb (q i hi)
    have d1 := add_oB (g 0 (by omega)).1 (g 1 (by omega)).1 (by omega)
    have s1 := add_oB d1.1 (bd_mono (g 2 (by omega)).1 (show 641 ≤ 643 by omega)) (by omega)
    have d2 := add_oB (g 3 (by omega)).1 (g 4 (by omega)).1 (by omega)
    have s2 := add_oB d2.1 (bd_mono (g 5 (by omega)).1 (show 641 ≤ 643 by omega)) (by omega)
    have s3 := add_oB s1.1 s2.1 (by omega)
    have e1 := d1.2; have e2 := s1.2; have e3 := d2.2; have e4 := s2.2
    rw [(g 0 (by omega)).2, (g 1 (by omega)).2] at e1
    rw [(g 2 (by omega)).2] at e2
    rw [(g 3 (by omega)).2, (g 4 (by omega)).2] at e3
    rw [(g 5 (by omega)).2] at e4
    exact goes_err ep_pos ep_4 et_pos hh M0 (b 0 (by omega)) (b 1 (by omega)) (b 2 (by omega)) (b 3 (by omega)) (b 4 (by omega)) (b 5 (by omega)) (p 0 (by omega)).2 (p 1 (by omega)).2 (p 2 (by omega)).2 (p 3 (by omega)).2 (p 4 (by omega)).2 (p 5 (by omega)).2 e1 e2 e3 e4 s3.2
/-- a sum of nothing but noughts -/
theorem sp_zero {A V : Nat → Nat} (hA : ∀ i, i < 6 → Bd 40 (A i)) (hV : ∀ i, i < 6 → Bd 600 (V i)) (h : GO A V = 0) : rv (spW A V) = 0 := by
  have z : ∀ i, i < 6 → PR A V i = 0 := fun i hi => by
    have a := go_each (show GO A V ≤ 0 by rw [h]; exact Rat.le_refl) i hi
    have b := ab_le (PR A V i)
    grind
  have p := fun i hi => (pm (hA i hi) (hV i hi) (Nat.le_refl _) (Nat.le_refl _)).1
  have y : ∀ i, i < 6 → rv (oF .mul (A i) (V i)) = 0 := fun i hi => mul_z (hA i hi) (hV i hi) (by omega) (z i hi)
  have d1 := (add_oB (p 0 (by omega)) (p 1 (by omega)) (by omega)).1
  have s1 := (add_oB d1 (bd_mono (p 2 (by omega)) (show 641 ≤ 643 by omega)) (by omega)).1
  have d2 := (add_oB (p 3 (by omega)) (p 4 (by omega)) (by omega)).1
  have s2 := (add_oB s1 (bd_mono d2 (show 643 ≤ 645 by omega)) (by omega)).1
  have y1 := add_z (p 0 (by omega)) (p 1 (by omega)) (by omega) (by rw [y 0 (by omega), y 1 (by omega)]; decide +kernel)
  have y2 := add_z d1 (bd_mono (p 2 (by omega)) (show 641 ≤ 643 by omega)) (by omega) (by rw [y1, y 2 (by omega)]; decide +kernel)
  have y3 := add_z (p 3 (by omega)) (p 4 (by omega)) (by omega) (by rw [y 3 (by omega), y 4 (by omega)]; decide +kernel)
  have y4 := add_z s1 (bd_mono d2 (show 643 ≤ 645 by omega)) (by omega) (by rw [y2, y3]; decide +kernel)
  exact add_z s2 (bd_mono (p 5 (by omega)) (show 641 ≤ 647 by omega)) (by omega) (by rw [y4, y 5 (by omega)]; decide +kernel)
theorem go_pos {A V : Nat → Nat} (hA : ∀ i, i < 6 → Bd 40 (A i)) (hV : ∀ i, i < 6 → Bd 600 (V i)) : 0 ≤ rv (goW A V) := by
  have p := fun i hi => (pm (hA i hi) (hV i hi) (Nat.le_refl _) (Nat.le_refl _)).1
  have g := fun i hi => rgb (p i hi)
  have n : ∀ i, i < 6 → 0 ≤ rv (rgK .f64 (oF .mul (A i) (V i))) := fun i hi => by rw [(g i hi).2]; exact ab_nn _
  have d1 := add_oB (g 0 (by omega)).1 (g 1 (by omega)).1 (by omega)
  have s1 := add_oB d1.1 (bd_mono (g 2 (by omega)).1 (show 641 ≤ 643 by omega)) (by omega)
  have d2 := add_oB (g 3 (by omega)).1 (g 4 (by omega)).1 (by omega)
  have s2 := add_oB d2.1 (bd_mono (g 5 (by omega)).1 (show 641 ≤ 643 by omega)) (by omega)
  have s3 := add_oB s1.1 s2.1 (by omega)
  have y1 := nn_round (by have := n 0 (by omega); have := n 1 (by omega); grind) d1.2
  have y2 := nn_round (by have := n 2 (by omega); grind) s1.2
  have y3 := nn_round (by have := n 3 (by omega); have := n 4 (by omega); grind) d2.2
  have y4 := nn_round (by have := n 5 (by omega); grind) s2.2
  exact nn_round (by grind) s3.2
end Go.Proofs.Ytfohggiehbplkaa
namespace Go.Proofs.Ytfohggiehbplkaa
open Ieee Go.RowKit
set_option linter.unusedSimpArgs false
set_option linter.unusedVariables false

/-! ### What a row weighs -/
/-- x is A, not below nought, up to c roundings; A is nought, or at least one over P -/
def Rl (P c : Rat) (x : Nat) (A : Rat) : Prop := 0 ≤ A ∧ (A = 0 ∨ 1 ≤ A * P) ∧ ab (rv x - A) ≤ c * (epR * A)
theorem rl_z {P c A : Rat} {x : Nat} (h : Rl P c x A) (hA : A = 0) : rv x = 0 := by
  obtain ⟨_, _, h⟩ := h
  rw [hA] at h
  have := ab_le (rv x - 0)
  grind
theorem rl_up {P c d A : Rat} {x : Nat} (h : Rl P c x A) (hc : c ≤ d) : Rl P d x A := by
  obtain ⟨h1, h2, h3⟩ := h
  refine ⟨h1, h2, Rat.le_trans h3 ?_⟩
  exact Rat.mul_le_mul_of_nonneg_right hc (Rat.mul_nonneg ep_pos h1)
theorem hmin {A P : Rat} (hP : P ≤ 2 ^ 120) (h : 1 ≤ A * P) (hA : 0 ≤ A) : etR ≤ epR * A := by
  have K : etR * 2 ^ 120 ≤ epR := by decide +kernel
  have a0 := rmul hP hA
  have a1 := rmul (show 1 ≤ A * 2 ^ 120 from Rat.le_trans h a0) et_pos
  have a2 := Rat.mul_le_mul_of_nonneg_right K hA
  grind
theorem rl_sq {a : Nat} (h : Us a) : Bd 81 (oF .mul a a) ∧ Rl (2 ^ 80) 4 (oF .mul a a) (rv a * rv a) := by
  obtain ⟨b, n⟩ := mul_o h.bd h.bd (by omega)
  have sq : 0 ≤ rv a * rv a := by
    have e : rv a * rv a = ab (rv a) * ab (rv a) := by unfold ab; split <;> grind
    rw [e]; exact Rat.mul_nonneg (ab_nn _) (ab_nn _)
  refine ⟨b, sq, ?_⟩
  by_cases hz : rv a = 0
  · have e : rv (oF .mul a a) = 0 := mul_z h.bd h.bd (by omega) (by rw [hz]; decide +kernel)
    rw [e, hz]
    exact ⟨.inl (by decide +kernel), by decide +kernel⟩
  · have l := h.low.resolve_left hz
    have l2 : 1 ≤ rv a * rv a * 2 ^ 80 := by
      have e : rv a * rv a = av a * av a := by rw [← ab_rv]; unfold ab; split <;> grind
      rw [e]
      have c : (2 : Rat) ^ 80 = 2 ^ 40 * 2 ^ 40 := by decide +kernel
      have m := Rat.mul_le_mul_of_nonneg_right l (show (0 : Rat) ≤ av a * 2 ^ 40 by grind)
      rw [c]
      grind
    have q := (rnd9 (K := 1) ep_pos ep_4 et_pos (hmin (P := 2 ^ 80) (by decide +kernel) l2 sq) (by grind) sq (by rw [ab_pos sq]; grind) n).1
    exact ⟨.inr l2, by have := Rat.mul_nonneg ep_pos sq; grind⟩
theorem rl_add {n x y : Nat} {P c A B : Rat} (bx : Bd n x) (by_ : Bd n y) (hn : n ≤ 900) (hP0 : 0 ≤ P) (hP : P ≤ 2 ^ 120) (hx : Rl P c x A) (hy : Rl P c y B) (c0 : 0 ≤ c) (c1 : c ≤ 100) : Bd (n + 2) (oF .add x y) ∧ Rl P (c + 8) (oF .add x y) (A + B) := by
  obtain ⟨b, nr⟩ := add_oB bx by_ hn
  obtain ⟨a1, a2, a3⟩ := hx
  obtain ⟨b1, b2, b3⟩ := hy
  refine ⟨b, by grind, ?_⟩
  have hAB : 0 ≤ A + B := by grind
  by_cases hz : A + B = 0
  · have hA : A = 0 := by grind
    have hB : B = 0 := by grind
    have e := add_z bx by_ hn (by rw [rl_z ⟨a1, a2, a3⟩ hA, rl_z ⟨b1, b2, b3⟩ hB]; decide +kernel)
    rw [e, hz]
    exact ⟨.inl rfl, by rw [show (0 : Rat) - 0 = 0 by decide +kernel, show ab (0 : Rat) = 0 by decide +kernel]; grind⟩
  · have l : 1 ≤ (A + B) * P := by
      have p1 := Rat.mul_nonneg a1 hP0
      have p2 := Rat.mul_nonneg b1 hP0
      rcases a2 with h | h
      · rcases b2 with g | g
        · exact absurd (by rw [h, g]; decide +kernel) hz
        · grind
      · grind
    refine ⟨.inr l, ?_⟩
    have eAB := Rat.mul_nonneg ep_pos hAB
    have k : ab (rv x + rv y - (A + B)) ≤ c * (epR * (A + B)) := by
      have t1 := ab_two a3
      have t2 := ab_two b3
      have e : c * (epR * (A + B)) = c * (epR * A) + c * (epR * B) := by grind
      rw [e]
      refine ab_of ?_ ?_ <;> grind
    have ce : c * (epR * (A + B)) ≤ A + B := by
      have m1 := Rat.mul_le_mul_of_nonneg_right c1 eAB
      have m2 := Rat.mul_le_mul_of_nonneg_right ep_20 hAB
      grind
    have s : ab (rv x + rv y) ≤ 2 * (A + B) := by
      have := ab_add (A + B) (rv x + rv y - (A + B))
      rw [show A + B + (rv x + rv y - (A + B)) = rv x + rv y by grind, ab_pos hAB] at this
      grind
    have q := (rnd9 (K := 2) ep_pos ep_4 et_pos (hmin hP l hAB) (by grind) hAB s nr).1
    have t1 := ab_two q
    have t2 := ab_two k
    have e : (c + 8) * (epR * (A + B)) = c * (epR * (A + B)) + 8 * (epR * (A + B)) := by grind
    rw [e]
    refine ab_of ?_ ?_ <;> grind
theorem rl_mul {m n x : Nat} {c A : Rat} (hm : Us m) (m0 : 0 ≤ rv m) (bx : Bd n x) (hn : n ≤ 800) (hx : Rl (2 ^ 80) c x A) (c0 : 0 ≤ c) (c1 : c ≤ 100) : Bd (40 + n + 1) (oF .mul m x) ∧ Rl (2 ^ 120) (c + 8) (oF .mul m x) (rv m * A) := by
  obtain ⟨b, nr⟩ := mul_o hm.bd bx (by omega)
  obtain ⟨a1, a2, a3⟩ := hx
  have hA := Rat.mul_nonneg m0 a1
  refine ⟨b, hA, ?_⟩
  by_cases hz : rv m * A = 0
  · have e : rv (oF .mul m x) = 0 := by
      rcases Rat.mul_eq_zero.1 hz with h | h
      · exact mul_z hm.bd bx (by omega) (by rw [h]; exact Rat.zero_mul _)
      · exact mul_z hm.bd bx (by omega) (by rw [rl_z ⟨a1, a2, a3⟩ h]; exact Rat.mul_zero _)
    rw [e, hz]
    exact ⟨.inl rfl, by rw [show (0 : Rat) - 0 = 0 by decide +kernel, show ab (0 : Rat) = 0 by decide +kernel]; grind⟩
  · have m1 : rv m ≠ 0 := by intro e; rw [e] at hz; exact hz (Rat.zero_mul _)
    have A1 : A ≠ 0 := by intro e; rw [e] at hz; exact hz (Rat.mul_zero _)
    have l1 := hm.low.resolve_left m1
    rw [← ab_rv, ab_pos m0] at l1
    have l2 := a2.resolve_left A1
    have l : 1 ≤ rv m * A * 2 ^ 120 := by
      have c : (2 : Rat) ^ 120 = 2 ^ 40 * 2 ^ 80 := by decide +kernel
      have k := Rat.mul_le_mul_of_nonneg_right l1 (show (0 : Rat) ≤ A * 2 ^ 80 by grind)
      rw [c]
      grind
    refine ⟨.inr l, ?_⟩
    have eA := Rat.mul_nonneg ep_pos hA
    have k : ab (rv m * rv x - rv m * A) ≤ c * (epR * (rv m * A)) := by
      rw [show rv m * rv x - rv m * A = rv m * (rv x - A) by grind, ab_mul, ab_pos m0]
      have := rmul a3 m0
      grind
    have ce : c * (epR * (rv m * A)) ≤ rv m * A := by
      have k1 := Rat.mul_le_mul_of_nonneg_right c1 eA
      have k2 := Rat.mul_le_mul_of_nonneg_right ep_20 hA
      grind
    have s : ab (rv m * rv x) ≤ 2 * (rv m * A) := by
      have := ab_add (rv m * A) (rv m * rv x - rv m * A)
      rw [show rv m * A + (rv m * rv x - rv m * A) = rv m * rv x by grind, ab_pos hA] at this
      grind
    have q := (rnd9 (K := 2) ep_pos ep_4 et_pos (hmin (by decide +kernel) l hA) (by grind) hA s nr).1
    have t1 := ab_two q
    have t2 := ab_two k
    have e : (c + 8) * (epR * (rv m * A)) = c * (epR * (rv m * A)) + 8 * (epR * (rv m * A)) := by grind
    rw [e]
    refine ab_of ?_ ?_ <;> grind
def wtW (A Ms : Nat → Nat) : Nat := oF .add (oF .add (oF .add (oF .mul (Ms 0) (oF .add (oF .mul (A 0) (A 0)) (oF .mul (A 1) (A 1)))) (oF .mul (Ms 2) (oF .mul (A 2) (A 2)))) (oF .mul (Ms 3) (oF .add (oF .mul (A 3) (A 3)) (oF .mul (A 4) (A 4))))) (oF .mul (Ms 5) (oF .mul (A 5) (A 5)))
def SQ (A : Nat → Nat) (i : Nat) : Rat := rv (A i) * rv (A i)
def WT (A Ms : Nat → Nat) : Rat := rv (Ms 0) * (SQ A 0 + SQ A 1) + rv (Ms 2) * SQ A 2 + rv (Ms 3) * (SQ A 3 + SQ A 4) + rv (Ms 5) * SQ A 5
theorem wt_num {A Ms : Nat → Nat} (hA : ∀ i, i < 6 → Us (A i)) (hM : ∀ i, i < 6 → Us (Ms i)) (m0 : ∀ i, i < 6 → 0 ≤ rv (Ms i)) : Bd 130 (wtW A Ms) ∧ Rl (2 ^ 120) 48 (wtW A Ms) (WT A Ms) := by
  have s := fun i hi => rl_sq (hA i hi)
  have p80 : (0 : Rat) ≤ 2 ^ 80 := by decide +kernel
  have p81 : (2 : Rat) ^ 80 ≤ 2 ^ 120 := by decide +kernel
  have p12 : (0 : Rat) ≤ 2 ^ 120 := by decide +kernel
  have a01 := rl_add (s 0 (by omega)).1 (s 1 (by omega)).1 (by omega) p80 p81 (s 0 (by omega)).2 (s 1 (by omega)).2 (by decide +kernel) (by decide +kernel)
  have a34 := rl_add (s 3 (by omega)).1 (s 4 (by omega)).1 (by omega) p80 p81 (s 3 (by omega)).2 (s 4 (by omega)).2 (by decide +kernel) (by decide +kernel)
  have m1 := rl_mul (hM 0 (by omega)) (m0 0 (by omega)) a01.1 (by omega) a01.2 (by decide +kernel) (by decide +kernel)
  have m2 := rl_mul (hM 2 (by omega)) (m0 2 (by omega)) (s 2 (by omega)).1 (by omega) (s 2 (by omega)).2 (by decide +kernel) (by decide +kernel)
  have m3 := rl_mul (hM 3 (by omega)) (m0 3 (by omega)) a34.1 (by omega) a34.2 (by decide +kernel) (by decide +kernel)
  have m4 := rl_mul (hM 5 (by omega)) (m0 5 (by omega)) (s 5 (by omega)).1 (by omega) (s 5 (by omega)).2 (by decide +kernel) (by decide +kernel)
  have b1 := rl_add (bd_mono m1.1 (show _ ≤ 124 by omega)) (bd_mono m2.1 (show _ ≤ 124 by omega)) (by omega) p12 Rat.le_refl (rl_up m1.2 (d := 20) (by decide +kernel)) (rl_up m2.2 (d := 20) (by decide +kernel)) (by decide +kernel) (by decide +kernel)
  have b2 := rl_add b1.1 (bd_mono m3.1 (show _ ≤ 126 by omega)) (by omega) p12 Rat.le_refl b1.2 (rl_up m3.2 (d := 20 + 8) (by decide +kernel)) (by decide +kernel) (by decide +kernel)
  have b3 := rl_add b2.1 (bd_mono m4.1 (show _ ≤ 128 by omega)) (by omega) p12 Rat.le_refl b2.2 (rl_up m4.2 (d := 20 + 8 + 8) (by decide +kernel)) (by decide +kernel) (by decide +kernel)
  exact ⟨b3.1, rl_up b3.2 (by decide +kernel)⟩
end Go.Proofs.Ytfohggiehbplkaa
namespace Go.Proofs.Ytfohggiehbplkaa
open Ieee Go.RowKit
set_option linter.unusedSimpArgs false
set_option linter.unusedVariables false

/-! ### Behind the push -/
def kkW (Ms A : Nat → Nat) (d i : Nat) : Nat := if i = 2 ∨ i = 5 then oF .mul (Ms i) (oF .mul d (A i)) else oF .mul (oF .mul (Ms i) d) (A i)
def vvW (Ms A V : Nat → Nat) (d i : Nat) : Nat := if ltK .f64 0 (Ms i) then oF .add (V i) (kkW Ms A d i) else V i
def TI : Rat := 1 / 2 ^ 200
theorem ti_nn : 0 ≤ TI := by decide +kernel
theorem kk_num {Ms A : Nat → Nat} {d i : Nat} (hm : Us (Ms i)) (ha : Us (A i)) (hd : Bd 491 d) : Bd 575 (kkW Ms A d i) ∧ ab (rv (kkW Ms A d i) - rv (Ms i) * rv d * rv (A i)) ≤ 8 * (epR * (ab (rv (Ms i) * rv d * rv (A i)) + TI)) := by
  have K : 8 * (2 ^ 40 * etR) ≤ epR * TI := by decide +kernel
  have hh : ∀ X : Rat, 8 * (2 ^ 40 * etR) ≤ epR * (ab X + TI) := fun X => by
    have := Rat.mul_nonneg ep_pos (ab_nn X)
    grind
  have hX : ∀ X : Rat, ab X ≤ ab X + TI := fun X => by have := ti_nn; grind
  have bd : ∀ {x : Nat}, Us x → ab (rv x) ≤ 2 ^ 40 := fun {x} h => by rw [ab_rv]; exact h.bd.2.2
  unfold kkW
  by_cases h : i = 2 ∨ i = 5
  · rw [if_pos h]
    obtain ⟨b1, n1⟩ := mul_o hd ha.bd (by omega)
    obtain ⟨b2, n2⟩ := mul_o hm.bd b1 (by omega)
    rw [Rat.mul_comm (rv (Ms i)) (rv (oF .mul d (A i)))] at n2
    have p := prod3 (D := 2 ^ 40) ep_pos ep_4096 et_pos (bd hm) (by decide +kernel) (hh _) (hX _) n1 n2
    rw [show rv d * rv (A i) * rv (Ms i) = rv (Ms i) * rv d * rv (A i) by grind] at p
    exact ⟨bd_mono b2 (by omega), p⟩
  · rw [if_neg h]
    obtain ⟨b1, n1⟩ := mul_o hm.bd hd (by omega)
    obtain ⟨b2, n2⟩ := mul_o b1 ha.bd (by omega)
    exact ⟨bd_mono b2 (by omega), prod3 (D := 2 ^ 40) ep_pos ep_4096 et_pos (bd ha) (by decide +kernel) (hh _) (hX _) n1 n2⟩
theorem m_zero {m : Nat} (h : Us m) (m0 : 0 ≤ rv m) (g : ltK .f64 0 m = false) : rv m = 0 := by
  have h2 : rv 0 = 0 := by decide +kernel
  have k : ¬ rv 0 < rv m := fun h3 => by
    rw [(lt_rv (x := 0) (by decide +kernel) (fin_nan h.bd.2.1)).2 h3] at g
    cases g
  rw [h2] at k
  grind
theorem vv_num {Ms A V : Nat → Nat} {d i : Nat} (hm : Us (Ms i)) (m0 : 0 ≤ rv (Ms i)) (ha : Us (A i)) (hv : Us (V i)) (hd : Bd 491 d) : Bd 600 (vvW Ms A V d i) ∧ ab (rv (A i) * rv (vvW Ms A V d i) - rv (A i) * rv (V i) - rv (Ms i) * rv (A i) * rv (A i) * rv d) ≤ 8 * (epR * (rv (Ms i) * rv (A i) * rv (A i) * ab (rv d))) + epR * ab (rv (A i) * rv (vvW Ms A V d i)) + 2 ^ 44 * (epR * TI) := by
  unfold vvW
  cases h : ltK .f64 0 (Ms i)
  · simp only [Bool.false_eq_true, if_false]
    have z := m_zero hm m0 h
    refine ⟨bd_mono hv.bd (by omega), ?_⟩
    rw [z, show rv (A i) * rv (V i) - rv (A i) * rv (V i) - 0 * rv (A i) * rv (A i) * rv d = 0 by grind, show ab (0 : Rat) = 0 by decide +kernel]
    have := Rat.mul_nonneg ep_pos (ab_nn (rv (A i) * rv (V i)))
    have := Rat.mul_nonneg ep_pos ti_nn
    grind
  · simp only [if_true]
    obtain ⟨b, k⟩ := kk_num (i := i) hm ha hd
    obtain ⟨b2, n⟩ := add_oB (bd_mono hv.bd (show 40 ≤ 575 by omega)) b (by omega)
    exact ⟨bd_mono b2 (by omega), comp_err ep_pos ep_4096 et_pos ti_nn m0 (by rw [ab_rv]; exact ha.bd.2.2) (by decide +kernel) k n⟩
theorem vv_all {Ms A V : Nat → Nat} {d : Nat} (hm : ∀ i, i < 6 → Us (Ms i)) (m0 : ∀ i, i < 6 → 0 ≤ rv (Ms i)) (ha : ∀ i, i < 6 → Us (A i)) (hv : ∀ i, i < 6 → Us (V i)) (e1 : Ms 1 = Ms 0) (e4 : Ms 4 = Ms 3) (hd : Bd 491 d) : ab (SU A (vvW Ms A V d) - SU A V - WT A Ms * rv d) ≤ 8 * (epR * (WT A Ms * ab (rv d))) + epR * GO A (vvW Ms A V d) + 6 * 2 ^ 44 * (epR * TI) := by
  have c := fun i hi => ab_two (vv_num (i := i) (hm i hi) (m0 i hi) (ha i hi) (hv i hi) hd).2
  have c0 := c 0 (by omega); have c1 := c 1 (by omega); have c2 := c 2 (by omega); have c3 := c 3 (by omega); have c4 := c 4 (by omega); have c5 := c 5 (by omega)
  clear c
  rw [e1] at c1
  rw [e4] at c4
  unfold SU GO PR WT SQ
  generalize vvW Ms A V d = V' at *
  generalize ab (rv (A 0) * rv (V' 0)) = U0 at *
  generalize ab (rv (A 1) * rv (V' 1)) = U1 at *
  generalize ab (rv (A 2) * rv (V' 2)) = U2 at *
  generalize ab (rv (A 3) * rv (V' 3)) = U3 at *
  generalize ab (rv (A 4) * rv (V' 4)) = U4 at *
  generalize ab (rv (A 5) * rv (V' 5)) = U5 at *
  generalize ab (rv d) = Z at *
  refine ab_of ?_ ?_ <;> grind
def c30 : Nat := 4472074429978902528
theorem c30_bd : Bd 40 c30 := ⟨by rw [okK64]; decide, by decide +kernel, by decide +kernel⟩
theorem c30_rv : rv c30 = 1 / 2 ^ 30 := by decide +kernel
/-- a word that is another one with nought added -/
theorem rv_same {n m x k : Nat} (hx : Bd n x) (bk : Bd m k) (hn : n ≤ 900) (hmn : m ≤ n) (k0 : rv k = 0) : rv (oF .add x k) = rv x := by
  have s := some_add hx.2.1 bk.2.1
  have b := bd_add hx (bd_mono bk hmn) hn
  rw [oF_dv s b]
  have sk : svK .f64 k = 0 := by
    rw [rv_sv] at k0
    have h1 : ((svK .f64 k : Int) : Rat) = 0 := by
      have := congrArg (fun z => z * (2 : Rat) ^ 1074) k0
      simp only [Rat.div_def, Rat.zero_mul] at this
      rw [Rat.mul_assoc, Rat.inv_mul_cancel _ (by decide +kernel), Rat.mul_one] at this
      exact this
    exact_mod_cast h1
  obtain ⟨f, e⟩ := add_exact hx.2.1 bk.2.1 hx.2.1 (dv_res s) (by rw [sk]; omega)
  rw [rv_sv, rv_sv, e]
theorem prod_low {a v : Nat} (ha : Us a) (hv : Us v) (h : rv a * rv v ≠ 0) : 1 ≤ ab (rv a * rv v) * 2 ^ 80 := by
  have a1 : rv a ≠ 0 := by intro e; rw [e] at h; exact h (Rat.zero_mul _)
  have v1 : rv v ≠ 0 := by intro e; rw [e] at h; exact h (Rat.mul_zero _)
  have l1 := ha.low.resolve_left a1
  have l2 := hv.low.resolve_left v1
  rw [ab_mul, ab_rv, ab_rv]
  have c : (2 : Rat) ^ 80 = 2 ^ 40 * 2 ^ 40 := by decide +kernel
  have m := Rat.mul_le_mul_of_nonneg_right l1 (show (0 : Rat) ≤ av v * 2 ^ 40 by grind)
  rw [c]
  grind
theorem low_all {A V : Nat → Nat} {B : Nat} (ha : ∀ i, i < 6 → Us (A i)) (hv : ∀ i, i < 6 → Us (V i)) (hB : Us B) : (GO A V = 0 ∧ rv B = 0) ∨ 1 ≤ (GO A V + ab (rv B)) * 2 ^ 80 := by
  have g0 := go_nn A V
  have b0 := ab_nn (rv B)
  have up : ∀ X : Rat, 1 ≤ X * 2 ^ 80 → X ≤ GO A V + ab (rv B) → 1 ≤ (GO A V + ab (rv B)) * 2 ^ 80 := fun X h1 h2 => by
    have := Rat.mul_le_mul_of_nonneg_right h2 (show (0 : Rat) ≤ 2 ^ 80 by decide +kernel)
    grind
  by_cases hb : rv B = 0
  · by_cases hg : ∀ i, i < 6 → rv (A i) * rv (V i) = 0
    · left
      refine ⟨?_, hb⟩
      unfold GO PR
      rw [hg 0 (by omega), hg 1 (by omega), hg 2 (by omega), hg 3 (by omega), hg 4 (by omega), hg 5 (by omega)]
      decide +kernel
    · right
      obtain ⟨i, hi⟩ := Classical.not_forall.1 hg
      obtain ⟨hi, hn⟩ := Classical.not_imp.1 hi
      refine up _ (prod_low (ha i hi) (hv i hi) hn) ?_
      have := go_each (A := A) (V := V) Rat.le_refl i hi
      unfold PR at this
      grind
  · right
    have l := hB.low.resolve_left hb
    refine up (ab (rv B)) ?_ (by grind)
    rw [ab_rv]
    have c : (2 : Rat) ^ 80 = 2 ^ 40 * 2 ^ 40 := by decide +kernel
    have m := Rat.mul_le_mul_of_nonneg_right l (show (0 : Rat) ≤ 2 ^ 40 by decide +kernel)
    have k : (1 : Rat) ≤ 2 ^ 40 := by decide +kernel
    rw [c]
    grind
end Go.Proofs.Ytfohggiehbplkaa
namespace Go.Proofs.Ytfohggiehbplkaa
open Ieee Go.RowKit
set_option linter.unusedSimpArgs false
set_option linter.unusedVariables false

theorem sp_bd40 {A V : Nat → Nat} (hA : ∀ i, i < 6 → Us (A i)) (hV : ∀ i, i < 6 → Us (V i)) : Bd 91 (spW A V) := by
  have p := fun i (hi : i < 6) => bd_mono (mul_o (hA i hi).bd (hV i hi).bd (by omega)).1 (show 40 + 40 + 1 ≤ 81 by omega)
  have d1 := (add_oB (p 0 (by omega)) (p 1 (by omega)) (by omega)).1
  have s1 := (add_oB d1 (bd_mono (p 2 (by omega)) (show 81 ≤ 83 by omega)) (by omega)).1
  have d2 := (add_oB (p 3 (by omega)) (p 4 (by omega)) (by omega)).1
  have s2 := (add_oB s1 (bd_mono d2 (show 83 ≤ 85 by omega)) (by omega)).1
  exact bd_mono (add_oB s2 (bd_mono (p 5 (by omega)) (show 81 ≤ 87 by omega)) (by omega)).1 (by omega)
/-- all that is usual -/
structure UsW (A V Ms : Nat → Nat) (B P : Nat) : Prop where
  a : ∀ i, i < 6 → Us (A i)
  v : ∀ i, i < 6 → Us (V i)
  m : ∀ i, i < 6 → Us (Ms i)
  m0 : ∀ i, i < 6 → 0 ≤ rv (Ms i)
  e1 : Ms 1 = Ms 0
  e4 : Ms 4 = Ms 3
  b : Us B
  p : Us P
  w : ltK .f64 0 (wtW A Ms) = true
def lkW (A V : Nat → Nat) (B : Nat) : Nat := oF .sub B (spW A V)
def quW (A V Ms : Nat → Nat) (B : Nat) : Nat := oF .quo (lkW A V B) (wtW A Ms)
def puW (A V Ms : Nat → Nat) (B P : Nat) : Nat := oF .add P (quW A V Ms B)
def dfW (A V Ms : Nat → Nat) (B P : Nat) : Nat := oF .sub (puW A V Ms B P) P
theorem wt_low {A V Ms : Nat → Nat} {B P : Nat} (h : UsW A V Ms B P) : 0 ≤ WT A Ms ∧ 1 ≤ WT A Ms * 2 ^ 120 ∧ ab (rv (wtW A Ms) - WT A Ms) ≤ 48 * (epR * WT A Ms) ∧ WT A Ms ≤ 2 * rv (wtW A Ms) ∧ rv (wtW A Ms) ≤ 2 ^ 130 ∧ 0 < rv (wtW A Ms) := by
  obtain ⟨b, w0, w1, w2⟩ := wt_num h.a h.m h.m0
  have hp : 0 < rv (wtW A Ms) := by
    have h2 : rv 0 = 0 := by decide +kernel
    have := (lt_rv (x := 0) (by decide +kernel) (fin_nan b.2.1)).1 h.w
    rwa [h2] at this
  have wn : WT A Ms ≠ 0 := fun e => by
    have := rl_z ⟨w0, w1, w2⟩ e
    grind
  have hb : rv (wtW A Ms) ≤ 2 ^ 130 := by
    have := b.2.2
    rw [← ab_rv] at this
    have := ab_le (rv (wtW A Ms))
    grind
  have eW := Rat.mul_le_mul_of_nonneg_right ep_20 w0
  have t := ab_two w2
  exact ⟨w0, w1.resolve_left wn, w2, by grind, hb, hp⟩
theorem qu_bd {A V Ms : Nat → Nat} {B P : Nat} (h : UsW A V Ms B P) : Bd 93 (lkW A V B) ∧ nrS (rv B - rv (spW A V)) (rv (lkW A V B)) ∧ Bd 217 (quW A V Ms B) ∧ (∃ Q : Rat, ab (Q * rv (wtW A Ms) - rv (lkW A V B)) ≤ epR * ab (rv (lkW A V B)) ∧ nrS Q (rv (quW A V Ms B))) ∧ Bd 219 (puW A V Ms B P) ∧ nrS (rv P + rv (quW A V Ms B)) (rv (puW A V Ms B P)) ∧ Bd 221 (dfW A V Ms B P) ∧ nrS (rv (puW A V Ms B P) - rv P) (rv (dfW A V Ms B P)) := by
  obtain ⟨w0, w1, w2, w3, w4, w5⟩ := wt_low h
  have bw := (wt_num h.a h.m h.m0).1
  have bs := sp_bd40 h.a h.v
  obtain ⟨bl, nl⟩ := sub_oB (bd_mono h.b.bd (show 40 ≤ 91 by omega)) bs (by omega)
  have hav : av (wtW A Ms) = rv (wtW A Ms) := by rw [← ab_rv, ab_pos (by grind)]
  have k1 : 1 ≤ av (wtW A Ms) * 2 ^ 121 := by
    rw [hav]
    have := Rat.mul_le_mul_of_nonneg_right w3 (show (0 : Rat) ≤ 2 ^ 120 by decide +kernel)
    have c : (2 : Rat) ^ 121 = 2 * 2 ^ 120 := by decide +kernel
    rw [c]
    grind
  have y0 : mg (wtW A Ms) ≠ 0 := by
    intro e
    have : av (wtW A Ms) = 0 := by unfold av; rw [e]; decide +kernel
    rw [hav] at this
    grind
  obtain ⟨bq, rq⟩ := bd_quo bl bw k1 (by omega)
  have eq : quW A V Ms B = Dv .quo (lkW A V B) (wtW A Ms) := oF_dv (some_quo bl.2.1 bw.2.1 y0) bq
  have bq2 : Bd 217 (quW A V Ms B) := by rw [eq]; exact bd_mono bq (by omega)
  have Qx := quo_rv bl.2.1 bw.2.1 y0 bq.2.1 rq
  obtain ⟨bp, np⟩ := add_oB (bd_mono h.p.bd (show 40 ≤ 217 by omega)) bq2 (by omega)
  obtain ⟨bd, nd⟩ := sub_oB bp (bd_mono h.p.bd (show 40 ≤ 217 + 2 by omega)) (by omega)
  exact ⟨bl, nl, bq2, by rw [eq]; exact Qx, bp, np, bd, nd⟩
/-- the last comparison's words -/
def inW (A V V' Ms : Nat → Nat) (B P q : Nat) : Nat := oF .add (oF .add (oF .add (goW A V) (goW A V')) (rgK .f64 B)) (oF .mul (wtW A Ms) (oF .add (rgK .f64 P) (rgK .f64 q)))
theorem inw_bd {A V V' Ms : Nat → Nat} {B P q : Nat} (h : UsW A V Ms B P) (hV : ∀ i, i < 6 → Bd 600 (V' i)) (hq : Bd 219 q) : Bd 660 (inW A V V' Ms B P q) ∧ 0 ≤ rv (inW A V V' Ms B P q) := by
  have hA := fun i hi => (h.a i hi).bd
  have hv := fun i hi => bd_mono (h.v i hi).bd (show 40 ≤ 600 by omega)
  have g1 := (sp_bd hA hv).2
  have g2 := (sp_bd hA hV).2
  have o1 := go_pos hA hv
  have o2 := go_pos hA hV
  have bw := (wt_num h.a h.m h.m0).1
  have w5 := (wt_low h).2.2.2.2.2
  obtain ⟨rB, eB⟩ := rgb h.b.bd
  obtain ⟨rP, eP⟩ := rgb (bd_mono h.p.bd (show 40 ≤ 219 by omega))
  obtain ⟨rq, eq⟩ := rgb hq
  have a1 := add_oB g1 g2 (by omega)
  have a2 := add_oB a1.1 (bd_mono rB (show 40 ≤ 651 + 2 by omega)) (by omega)
  have a3 := add_oB rP rq (by omega)
  have a4 := mul_o bw a3.1 (by omega)
  have a5 := add_oB a2.1 (bd_mono a4.1 (show _ ≤ 651 + 2 + 2 by omega)) (by omega)
  have b0 := ab_nn (rv B); have p0 := ab_nn (rv P); have q0 := ab_nn (rv q)
  have n1 := nn_round (by grind) a1.2
  have n2 := nn_round (by rw [eB]; grind) a2.2
  have n3 := nn_round (by rw [eP, eq]; grind) a3.2
  have n4 := nn_round (Rat.mul_nonneg (by grind) n3) a4.2
  exact ⟨bd_mono a5.1 (by omega), nn_round (by grind) a5.2⟩
set_option maxHeartbeats 2000000 in
theorem solved_word {A V Ms : Nat → Nat} {B P : Nat} (h : UsW A V Ms B P) : (∀ i, i < 6 → Bd 600 (vvW Ms A V (dfW A V Ms B P) i)) ∧ leK .f64 (rgK .f64 (oF .sub (spW A (vvW Ms A V (dfW A V Ms B P))) B)) (oF .mul c30 (inW A V (vvW Ms A V (dfW A V Ms B P)) Ms B P (puW A V Ms B P))) = true := by
  obtain ⟨w0, w1, w2, w3, w4, w5⟩ := wt_low h
  obtain ⟨bl, nl, bq, ⟨Q, nq, nD⟩, bp, np, bd, nd⟩ := qu_bd h
  have bd9 := bd_mono bd (show 221 ≤ 491 by omega)
  have hV : ∀ i, i < 6 → Bd 600 (vvW Ms A V (dfW A V Ms B P) i) := fun i hi => (vv_num (h.m i hi) (h.m0 i hi) (h.a i hi) (h.v i hi) bd9).1
  refine ⟨hV, ?_⟩
  have hA := fun i hi => (h.a i hi).bd
  have hv := fun i hi => bd_mono (h.v i hi).bd (show 40 ≤ 600 by omega)
  have bs := (sp_bd hA hV).1
  obtain ⟨bi, i0⟩ := inw_bd h hV bp
  obtain ⟨bD, nD9⟩ := sub_oB bs (bd_mono h.b.bd (show 40 ≤ 651 by omega)) (by omega)
  obtain ⟨bR, nR⟩ := mul_o c30_bd bi (by omega)
  rw [c30_rv] at nR
  refine nr_le bD.2.1 bR.2.1 ?_
  rw [← ab_rv]
  rcases low_all h.a h.v h.b with ⟨z1, z2⟩ | lo
  · -- nothing moves
    have s0 := sp_zero hA hv z1
    have l0 : rv (lkW A V B) = 0 := sub_z (bd_mono h.b.bd (show 40 ≤ 91 by omega)) (sp_bd40 h.a h.v) (by omega) (by rw [z2, s0]; decide +kernel)
    have D0 : rv (quW A V Ms B) = 0 := by
      rw [l0, show ab (0 : Rat) = 0 by decide +kernel] at nq
      have a := ab_le (Q * rv (wtW A Ms) - 0)
      have e : Q * rv (wtW A Ms) = 0 := by grind
      rcases Rat.mul_eq_zero.1 e with e1 | e1
      · rw [e1] at nD; exact tiny_zero nD
      · grind
    have q0 : rv (puW A V Ms B P) = rv P := rv_same (bd_mono h.p.bd (show 40 ≤ 217 by omega)) bq (by omega) (Nat.le_refl _) D0
    have d0 : rv (dfW A V Ms B P) = 0 := sub_z bp (bd_mono h.p.bd (show 40 ≤ 219 by omega)) (by omega) (by rw [q0]; grind)
    have k0 : ∀ i, i < 6 → rv (vvW Ms A V (dfW A V Ms B P) i) = rv (V i) := fun i hi => by
      have hm := h.m i hi
      have ha := h.a i hi
      have hx := h.v i hi
      unfold vvW
      split
      · refine rv_same (bd_mono hx.bd (show 40 ≤ 575 by omega)) (kk_num hm ha bd9).1 (by omega) (Nat.le_refl _) ?_
        unfold kkW
        split
        · exact mul_z hm.bd (mul_o bd ha.bd (by omega)).1 (by omega) (by rw [mul_z bd ha.bd (by omega) (by rw [d0]; exact Rat.zero_mul _)]; exact Rat.mul_zero _)
        · exact mul_z (mul_o hm.bd bd (by omega)).1 ha.bd (by omega) (by rw [mul_z hm.bd bd (by omega) (by rw [d0]; exact Rat.mul_zero _)]; exact Rat.zero_mul _)
      · rfl
    have g0 : GO A (vvW Ms A V (dfW A V Ms B P)) = 0 := by
      rw [← z1]
      unfold GO PR
      rw [k0 0 (by omega), k0 1 (by omega), k0 2 (by omega), k0 3 (by omega), k0 4 (by omega), k0 5 (by omega)]
    have s1 := sp_zero hA hV g0
    have e := sub_z bs (bd_mono h.b.bd (show 40 ≤ 651 by omega)) (by omega) (by rw [s1, z2]; decide +kernel)
    rw [e, show ab (0 : Rat) = 0 by decide +kernel]
    exact nn_round (Rat.mul_nonneg (by decide +kernel) i0) nR
  · -- the sum of all that goes in
    obtain ⟨M, hM⟩ : ∃ M, GO A V + GO A (vvW Ms A V (dfW A V Ms B P)) + ab (rv B) + WT A Ms * (ab (rv P) + ab (rv (puW A V Ms B P))) = M := ⟨_, rfl⟩
    have g1 := go_nn A V
    have g2 := go_nn A (vvW Ms A V (dfW A V Ms B P))
    have b0 := ab_nn (rv B)
    have pq : 0 ≤ WT A Ms * (ab (rv P) + ab (rv (puW A V Ms B P))) := Rat.mul_nonneg w0 (by have := ab_nn (rv P); have := ab_nn (rv (puW A V Ms B P)); grind)
    have M0 : 0 ≤ M := by grind
    have lM : 1 ≤ M * 2 ^ 80 := by
      have := Rat.mul_le_mul_of_nonneg_right (show GO A V + ab (rv B) ≤ M by grind) (show (0 : Rat) ≤ 2 ^ 80 by decide +kernel)
      grind
    have hh := hmin (P := 2 ^ 80) (by decide +kernel) lM M0
    have small : ∀ x : Rat, 0 ≤ x → x * 2 ^ 80 ≤ epR → x ≤ epR * M := fun x x0 hx => by
      have a := rmul lM x0
      have b := Rat.mul_le_mul_of_nonneg_right hx M0
      grind
    have small2 : ∀ x y : Rat, 0 ≤ x → 0 ≤ y → x * 2 ^ 80 ≤ epR * y → x ≤ epR * (y * M) := fun x y x0 y0 hx => by
      have a := rmul lM x0
      have b := Rat.mul_le_mul_of_nonneg_right hx M0
      grind
    have hWh : WT A Ms * etR ≤ epR * M := by
      have a := Rat.mul_le_mul_of_nonneg_right (show WT A Ms ≤ 2 ^ 131 by have c : (2 : Rat) ^ 131 = 2 * 2 ^ 130 := by decide +kernel
                                                                          rw [c]; grind) et_pos
      exact Rat.le_trans a (small _ (by decide +kernel) (by decide +kernel))
    have ec := vv_all (d := dfW A V Ms B P) h.m h.m0 h.a h.v h.e1 h.e4 bd9
    have ti := small (6 * 2 ^ 44 * (epR * TI)) (by decide +kernel) (by decide +kernel)
    have gM := rmul (show GO A (vvW Ms A V (dfW A V Ms B P)) ≤ M by grind) ep_pos
    have es := sp_num hA hv (show GO A V ≤ M by grind) hh
    have e1 := sp_num hA hV (show GO A (vvW Ms A V (dfW A V Ms B P)) ≤ M by grind) hh
    have S := solved_rat (S0 := SU A V) (S1 := SU A (vvW Ms A V (dfW A V Ms B P))) ep_pos ep_20 et_pos hh M0 w0 (Rat.le_trans (su_go A V) (by grind)) (show ab (rv B) ≤ M by grind) es.1 nl w2 nq nD np nd (by grind) hWh (by grind) e1.1
    have bw := (wt_num h.a h.m h.m0).1
    obtain ⟨rB, eB⟩ := rgb h.b.bd
    obtain ⟨rP, eP⟩ := rgb (bd_mono h.p.bd (show 40 ≤ 219 by omega))
    obtain ⟨rq, eq⟩ := rgb bp
    have a1 := add_oB (sp_bd hA hv).2 (sp_bd hA hV).2 (by omega)
    have a2 := add_oB a1.1 (bd_mono rB (show 40 ≤ 651 + 2 by omega)) (by omega)
    have a3 := add_oB rP rq (by omega)
    have a4 := mul_o bw a3.1 (by omega)
    have a5 := add_oB a2.1 (bd_mono a4.1 (show _ ≤ 651 + 2 + 2 by omega)) (by omega)
    have n2 := a2.2
    have n3 := a3.2
    rw [eB] at n2
    rw [eP, eq] at n3
    have T := bound_rat ep_pos ep_20 et_pos hh M0 w0 g1 g2 hM es.2 e1.2 a1.2 n2 n3 a4.2 a5.2 w2 hWh
    have tm : 0 ≤ (1 : Rat) / 2 ^ 30 := by decide +kernel
    exact last_rat ep_pos ep_20 et_pos tm (by decide +kernel) (small2 etR epR et_pos ep_pos (by decide +kernel)) M0 S nD9 T nR (small2 etR (1 / 2 ^ 30) et_pos tm (by decide +kernel)) (by decide +kernel)
end Go.Proofs.Ytfohggiehbplkaa
