/-
  Plain facts on floats, more: rounding to the nearest rung, sums and products of finite floats, signs turned. No program is named here.
-/
import Derived.Test.YtoljkokcgmigeaaRndz
namespace Go.Proofs.Ytoljkokcgmigeaa
open Ieee Go.RowKit
set_option linter.unusedSimpArgs false
set_option linter.unusedVariables false

/-! ### Floats as numbers with their signs, and how far off an operation is -/
def rv (x : Nat) : Rat := if ngK .f64 x then -av x else av x
def ab (a : Rat) : Rat := if a < 0 then -a else a
theorem ab_nn (a : Rat) : 0 ≤ ab a := by unfold ab; split <;> grind
theorem ab_le (a : Rat) : a ≤ ab a ∧ -a ≤ ab a := by unfold ab; split <;> grind
theorem ab_neg (a : Rat) : ab (-a) = ab a := by unfold ab; split <;> split <;> grind
theorem ab_pos {a : Rat} (h : 0 ≤ a) : ab a = a := by unfold ab; split <;> grind
theorem ab_of {a b : Rat} (h1 : a ≤ b) (h2 : -a ≤ b) : ab a ≤ b := by unfold ab; split <;> grind
theorem ab_mul (a b : Rat) : ab (a * b) = ab a * ab b := by
  rcases Rat.le_total (a := 0) (b := a) with ha | ha <;> rcases Rat.le_total (a := 0) (b := b) with hb | hb
  · rw [ab_pos ha, ab_pos hb, ab_pos (Rat.mul_nonneg ha hb)]
  · rw [ab_pos ha, ← ab_neg b, ab_pos (show 0 ≤ -b by grind), ← ab_neg, ab_pos (show 0 ≤ -(a * b) by have := Rat.mul_nonneg ha (show 0 ≤ -b by grind); grind)]; grind
  · rw [ab_pos hb, ← ab_neg a, ab_pos (show 0 ≤ -a by grind), ← ab_neg, ab_pos (show 0 ≤ -(a * b) by have := Rat.mul_nonneg (show 0 ≤ -a by grind) hb; grind)]; grind
  · rw [← ab_neg a, ← ab_neg b, ab_pos (show 0 ≤ -a by grind), ab_pos (show 0 ≤ -b by grind), ab_pos (show 0 ≤ a * b by have := Rat.mul_nonneg (show 0 ≤ -a by grind) (show 0 ≤ -b by grind); grind)]; grind
theorem ab_add (a b : Rat) : ab (a + b) ≤ ab a + ab b := by
  have h1 := ab_le a
  have h2 := ab_le b
  exact ab_of (by grind) (by grind)

/-- A is q rounded -/
def nrS (q A : Rat) : Prop := ab (q - A) ≤ epR * ab A + etR
theorem nrS_of_near {q A : Rat} (h : nearR q A) (hA : 0 ≤ A) : nrS q A := by
  unfold nrS
  rw [ab_pos hA]
  obtain ⟨h1, h2⟩ := h
  exact ab_of (by grind) (by grind)
theorem nrS_neg {q A : Rat} (h : nrS q A) : nrS (-q) (-A) := by
  unfold nrS at *
  rw [ab_neg A, show -q - -A = -(q - A) by grind, ab_neg]
  exact h
theorem rv_pos {x : Nat} (h : ngK .f64 x = false) : rv x = av x := by unfold rv; rw [h]; rfl
theorem rv_neg {x : Nat} (h : ngK .f64 x = true) : rv x = -av x := by unfold rv; rw [h]; rfl
theorem ab_rv (x : Nat) : ab (rv x) = av x := by
  unfold rv
  split
  · rw [ab_neg, ab_pos (av_nn x)]
  · exact ab_pos (av_nn x)
theorem rv_turned {x : Nat} (o : okK .f64 x) : rv (Op.negFloat .f64 x) = -rv x := by
  obtain ⟨h1, h2, _⟩ := neg_facts .f64 x o
  have e : av (Op.negFloat .f64 x) = av x := by unfold av mg; rw [h1]
  unfold rv
  rw [h2, e]
  cases ngK .f64 x <;> simp <;> grind

theorem mul_rv {x y r : Nat} (hx : finK .f64 x = true) (hy : finK .f64 y = true) (hr : finK .f64 r = true) (h : resK .mul .f64 x y r) : nrS (rv x * rv y) (rv r) := by
  obtain ⟨h1, h2⟩ := mul_near hx hy h hr
  have h3 := nrS_of_near h1 (av_nn r)
  unfold rv
  rw [h2]
  cases ngK .f64 x <;> cases ngK .f64 y <;> simp only [Bool.false_bne, Bool.true_bne, Bool.bne_false, Bool.bne_true, Bool.not_true, Bool.not_false, Bool.xor_false, Bool.xor_true, Bool.false_xor, Bool.true_xor, Bool.false_eq_true, if_false, if_true]
  · exact h3
  · rw [show av x * -av y = -(av x * av y) by grind]; exact nrS_neg h3
  · rw [show -av x * av y = -(av x * av y) by grind]; exact nrS_neg h3
  · rw [show -av x * -av y = av x * av y by grind]; exact h3

theorem rv_sv (x : Nat) : rv x = (svK .f64 x : Rat) / 2 ^ 1074 := by
  unfold rv svK av mg
  cases ngK .f64 x
  · simp only [Bool.false_eq_true, if_false, Rat.intCast_natCast]
  · simp only [if_true, Rat.intCast_neg, Rat.intCast_natCast]
    rw [Rat.div_def, Rat.div_def]; grind

theorem cast_neg {T : Int} (h : T < 0) : (T : Rat) = -(T.natAbs : Rat) := by
  have e : T = -(T.natAbs : Int) := by omega
  have := congrArg (fun z : Int => (z : Rat)) e
  simpa only [Rat.intCast_neg, Rat.intCast_natCast] using this
theorem cast_pos {T : Int} (h : ¬ T < 0) : (T : Rat) = (T.natAbs : Rat) := by
  have e : T = (T.natAbs : Int) := by omega
  have := congrArg (fun z : Int => (z : Rat)) e
  simpa only [Rat.intCast_natCast] using this
theorem add_rv {x y r : Nat} (hx : finK .f64 x = true) (hy : finK .f64 y = true) (hr : finK .f64 r = true) (h : resK .add .f64 x y r) : nrS (rv x + rv y) (rv r) := by
  have e := res_is h (add_spec .f64 x y hx hy)
  rw [e, fin_word] at hr
  have hr := of_decide_eq_true hr
  have hW := W_pos
  have hs : rv x + rv y = ((svK .f64 x + svK .f64 y : Int) : Rat) / 2 ^ 1074 := by
    rw [rv_sv, rv_sv, Rat.intCast_add, Rat.div_def, Rat.div_def, Rat.div_def]; grind
  rw [hs]
  generalize svK .f64 x + svK .f64 y = T at *
  have hm : mg r = vl FloatKind.f64.format (rr FloatKind.f64.format T.natAbs 0) := by rw [e]; exact mg_word _ _ hr
  have hn : nearR ((T.natAbs : Rat) / 2 ^ 1074) (av r) := by
    unfold av
    rw [hm]
    refine near_rr _ _ _ ?_
    rw [Rat.pow_zero, Rat.mul_one]
    exact Rat.div_mul_cancel (Rat.ne_of_gt hW)
  have h3 := nrS_of_near hn (av_nn r)
  by_cases hz : T = 0
  · subst hz
    have : av r = 0 := by unfold av; rw [hm]; simp only [Int.natAbs_zero, rr_zero, vl_zero]; rw [Rat.div_def]; exact Rat.zero_mul _
    have hr0 : rv r = av r := by unfold rv; rw [this]; split <;> grind
    rw [hr0]
    exact h3
  · have hg : ngK .f64 r = decide (T < 0) := by rw [e, if_neg hz, ngK_word _ _ _ (Nat.min_le_right _ _)]
    by_cases hl : T < 0
    · rw [rv_neg (by rw [hg]; exact decide_eq_true hl)]
      have e1 : (T : Rat) / 2 ^ 1074 = -((T.natAbs : Rat) / 2 ^ 1074) := by
        rw [cast_neg hl, Rat.div_def, Rat.div_def, Rat.neg_mul]
      rw [e1]
      exact nrS_neg h3
    · rw [rv_pos (by rw [hg]; exact decide_eq_false hl)]
      rw [cast_pos hl]
      exact h3
theorem sub_rv {x y r : Nat} (oy : okK .f64 y) (hx : finK .f64 x = true) (hy : finK .f64 y = true) (hr : finK .f64 r = true) (h : resK .sub .f64 x y r) : nrS (rv x - rv y) (rv r) := by
  have e : resK .add .f64 x (Op.negFloat .f64 y) r := by unfold resK at *; rwa [sub_is_add .f64 x y oy] at h
  have := add_rv hx (by rw [fin_neg _ oy]; exact hy) hr e
  rw [rv_turned oy] at this
  rw [show rv x - rv y = rv x + -rv y by grind]
  exact this
end Go.Proofs.Ytoljkokcgmigeaa
namespace Go.Proofs.Ytoljkokcgmigeaa
open Ieee Go.RowKit
set_option linter.unusedSimpArgs false
set_option linter.unusedVariables false

/-! ### Turns: how far off one behind the other is, and there and back (e: the part by which a rounding may err; h: half a least place) -/
def ns (e h q A : Rat) : Prop := ab (q - A) ≤ e * ab A + h
theorem ab_two {a b : Rat} (h : ab a ≤ b) : a ≤ b ∧ -a ≤ b := by have := ab_le a; grind
theorem ns_err {e h q A M : Rat} (he : 0 ≤ e) (he1 : e * 4 ≤ 1) (h0 : 0 ≤ h) (hM : ab q ≤ M) (hh : h ≤ e * M) (n : ns e h q A) : ab (q - A) ≤ 3 * (e * M) ∧ ab A ≤ 2 * M := by
  unfold ns at n
  have t : ab A ≤ ab q + ab (q - A) := by
    have := ab_add q (-(q - A))
    rw [ab_neg, show q + -(q - A) = A by grind] at this
    exact this
  have hM0 : 0 ≤ M := by have := ab_nn q; grind
  have hA0 := ab_nn A
  have z := Rat.mul_nonneg he hM0
  have hA : ab A ≤ 2 * M := by
    refine Rat.le_of_mul_le_mul_right (c := 1 - e) ?_ (by grind)
    have m1 := rmul he1 hM0
    grind
  have m2 := rmul hA he
  exact ⟨by grind, hA⟩
/-- a product with a bounded factor -/
theorem ab_mul_le {x y a b : Rat} (hx : ab x ≤ a) (hy : ab y ≤ b) : ab (x * y) ≤ a * b := by
  rw [ab_mul]
  have h1 := rmul hy (ab_nn x)
  have h2 := Rat.mul_le_mul_of_nonneg_right hx (Rat.le_trans (ab_nn y) hy)
  grind
theorem ab_sub (a b : Rat) : ab (a - b) ≤ ab a + ab b := by
  have := ab_add a (-b)
  rw [ab_neg] at this
  rw [show a - b = a + -b by grind]
  exact this
/-- two products and their sum or difference -/
theorem two_prods {e h x y u v a b r M K : Rat} (he : 0 ≤ e) (he1 : e * 4 ≤ 1) (h0 : 0 ≤ h) (hx : ab x ≤ 2) (hy : ab y ≤ 2) (hu : ab u ≤ M) (hv : ab v ≤ M) (hh : h ≤ e * M)
    (n1 : ns e h (x * u) a) (n2 : ns e h (y * v) b) (sg : Rat) (hs : sg = 1 ∨ sg = -1) (n3 : ns e h (a + sg * b) r) : ab (r - (x * u + sg * (y * v))) ≤ 36 * (e * M) ∧ ab r ≤ 16 * M := by
  have hM0 : 0 ≤ M := by have := ab_nn u; grind
  have z := Rat.mul_nonneg he hM0
  obtain ⟨a1, a2⟩ := ns_err (M := 2 * M) he he1 h0 (ab_mul_le hx hu) (by grind) n1
  obtain ⟨b1, b2⟩ := ns_err (M := 2 * M) he he1 h0 (ab_mul_le hy hv) (by grind) n2
  have q : ab (a + sg * b) ≤ 8 * M := by
    rcases hs with rfl | rfl
    · have := ab_add a (1 * b); rw [Rat.one_mul] at this ⊢; grind
    · have := ab_sub a b; rw [show a + -1 * b = a - b by grind]; grind
  obtain ⟨c1, c2⟩ := ns_err (M := 8 * M) he he1 h0 q (by grind) n3
  refine ⟨?_, by grind⟩
  have t1 := ab_two a1
  have t2 := ab_two b1
  have t3 := ab_two c1
  rcases hs with rfl | rfl
  · exact ab_of (by grind) (by grind)
  · exact ab_of (by grind) (by grind)

/-- **there and back**: (x, y) a turn nearly as long as 1, (u, v) a way -/
theorem back_rat {e h x y u v a1 a2 b1 b2 A B c1 c2 C M D : Rat} (he : 0 ≤ e) (he1 : e * 64 ≤ 1) (h0 : 0 ≤ h) (hx : ab x ≤ 2) (hy : ab y ≤ 2) (hu : ab u ≤ M) (hv : ab v ≤ M) (hh : h ≤ e * M)
    (n1 : ns e h (x * u) a1) (n2 : ns e h (y * v) a2) (n3 : ns e h (a1 + -1 * a2) A)
    (n4 : ns e h (y * u) b1) (n5 : ns e h (x * v) b2) (n6 : ns e h (b1 + 1 * b2) B)
    (n7 : ns e h (x * A) c1) (n8 : ns e h (y * B) c2) (n9 : ns e h (c1 + 1 * c2) C)
    (hd : ab (x * x + y * y - 1) ≤ D) : ab (C - u) ≤ D * M + 720 * (e * M) := by
  have hM0 : 0 ≤ M := by have := ab_nn u; grind
  have z := Rat.mul_nonneg he hM0
  obtain ⟨p1, p2⟩ := two_prods (K := 0) he (by grind) h0 hx hy hu hv hh n1 n2 (-1) (.inr rfl) n3
  obtain ⟨q1, q2⟩ := two_prods (K := 0) he (by grind) h0 hy hx hu hv hh n4 n5 1 (.inl rfl) n6
  obtain ⟨r1, _⟩ := two_prods (M := 16 * M) (K := 0) he (by grind) h0 hx hy p2 q2 (by grind) n7 n8 1 (.inl rfl) n9
  -- what the errors of A and B come to
  have s1 := ab_mul_le hx p1
  have s2 := ab_mul_le hy q1
  have s3 := ab_mul_le hd hu
  have t1 := ab_two r1
  have t2 := ab_two s1
  have t3 := ab_two s2
  have t4 := ab_two s3
  have key : C - u = (C - (x * A + 1 * (y * B))) + x * (A - (x * u + -1 * (y * v))) + y * (B - (y * u + 1 * (x * v))) + (x * x + y * y - 1) * u := by grind
  rw [key]
  refine ab_of ?_ ?_ <;> grind

theorem sq_part {a b : Rat} (h : a * a + b * b ≤ 4) : ab a ≤ 3 := by
  have hbb := rsq b
  refine ab_of ?_ ?_
  · apply Decidable.byContradiction
    intro g
    have := sq_le (a := 3) (b := a) (by decide) (by grind)
    grind
  · apply Decidable.byContradiction
    intro g
    have := sq_le (a := 3) (b := -a) (by decide) (by grind)
    grind
theorem sq_near {e A R : Rat} (he : 0 ≤ e) (he1 : e * 1024 ≤ 1) (h1 : ab R ≤ 3) (h2 : ab (A - R) ≤ 36 * (e * 2)) : ab (A * A - R * R) ≤ 600 * e := by
  have h2 : ab (A - R) ≤ 72 * e := by grind
  have h3 : ab (A + R) ≤ 7 := by
    have := ab_add (A - R) (2 * R)
    have h4 : ab (2 * R) = 2 * ab R := by rw [ab_mul, ab_pos (show (0 : Rat) ≤ 2 by decide)]
    rw [show A - R + 2 * R = A + R by grind] at this
    grind
  have := ab_mul_le h2 h3
  rw [show A * A - R * R = (A - R) * (A + R) by grind]
  grind

/-- **one behind the other**: the length of a product of two turns nearly as long as 1 -/
theorem then_rat {e h x y u v a1 a2 b1 b2 A B D : Rat} (he : 0 ≤ e) (he1 : e * 1024 ≤ 1) (h0 : 0 ≤ h) (hh : h ≤ e) (hx : ab x ≤ 2) (hy : ab y ≤ 2) (hu : ab u ≤ 1 + 1 / 4) (hv : ab v ≤ 1 + 1 / 4)
    (n1 : ns e h (x * u) a1) (n2 : ns e h (y * v) a2) (n3 : ns e h (a1 + -1 * a2) A)
    (n4 : ns e h (x * v) b1) (n5 : ns e h (y * u) b2) (n6 : ns e h (b1 + 1 * b2) B)
    (hd : ab (x * x + y * y - 1) ≤ D) (hd' : ab (u * u + v * v - 1) ≤ D) (hD : D * 4 ≤ 1) : ab (A * A + B * B - 1) ≤ 2 * D + D * D + 1200 * e := by
  have hu2 : ab u ≤ 2 := by grind
  have hv2 : ab v ≤ 2 := by grind
  obtain ⟨p1, _⟩ := two_prods (M := 2) (K := 0) he (by grind) h0 hx hy hu2 hv2 (by grind) n1 n2 (-1) (.inr rfl) n3
  obtain ⟨q1, _⟩ := two_prods (M := 2) (K := 0) he (by grind) h0 hx hy hv2 hu2 (by grind) n4 n5 1 (.inl rfl) n6
  have hD0 : 0 ≤ D := by have := ab_nn (x * x + y * y - 1); grind
  -- the exact product
  have ex : (x * u + -1 * (y * v)) * (x * u + -1 * (y * v)) + (x * v + 1 * (y * u)) * (x * v + 1 * (y * u)) = (x * x + y * y) * (u * u + v * v) := by grind
  have w1 := ab_mul_le hd hd'
  have k0 : ab ((x * x + y * y) * (u * u + v * v) - 1) ≤ 2 * D + D * D := by
    have t1 := ab_two hd
    have t2 := ab_two hd'
    have t3 := ab_two w1
    have key : (x * x + y * y) * (u * u + v * v) - 1 = (x * x + y * y - 1) * (u * u + v * v - 1) + (x * x + y * y - 1) + (u * u + v * v - 1) := by grind
    rw [key]
    exact ab_of (by grind) (by grind)
  have t0 := ab_two k0
  have hDD : D * D ≤ D := by have := rmul hD hD0; grind
  have le4 : (x * x + y * y) * (u * u + v * v) ≤ 4 := by grind
  rw [← ex] at le4 t0
  have c1 := sq_part le4
  have c2 := sq_part (a := x * v + 1 * (y * u)) (b := x * u + -1 * (y * v)) (by grind)
  generalize x * u + -1 * (y * v) = R at *
  generalize x * v + 1 * (y * u) = I at *
  have f1 := ab_two (sq_near he he1 c1 p1)
  have f2 := ab_two (sq_near he he1 c2 q1)
  exact ab_of (by grind) (by grind)
end Go.Proofs.Ytoljkokcgmigeaa
namespace Go.Proofs.Ytoljkokcgmigeaa
open Ieee Go.RowKit
set_option linter.unusedSimpArgs false
set_option linter.unusedVariables false

/-- a quotient, with its sign: near some Q that times the divisor is nearly what was divided -/
theorem quo_rv {x y r : Nat} (hx : finK .f64 x = true) (hy : finK .f64 y = true) (y0 : mg y ≠ 0) (hr : finK .f64 r = true) (h : resK .quo .f64 x y r) :
    ∃ Q : Rat, ab (Q * rv y - rv x) ≤ epR * ab (rv x) ∧ nrS Q (rv r) := by
  obtain ⟨Q, k, q0, q1, q2, e, hn, _⟩ := quo_near hx hy y0
  have ex := res_is h e
  rw [ex, fin_word] at hr
  have hk := of_decide_eq_true hr
  have hg : ngK .f64 r = (ngK .f64 x ^^ ngK .f64 y) := by rw [ex]; exact ngK_word .f64 _ _ (Nat.min_le_right _ _)
  have ha : av r = (vl FloatKind.f64.format k : Rat) / 2 ^ 1074 := by rw [ex]; exact av_word _ _ hk
  rw [← ha] at hn
  have h3 := nrS_of_near hn (av_nn r)
  have hb : ab (Q * av y - av x) ≤ epR * av x := ab_of (by grind) (by grind)
  rw [ab_rv x]
  unfold rv
  rw [hg]
  cases ngK .f64 x <;> cases ngK .f64 y <;> simp only [Bool.xor_false, Bool.xor_true, Bool.false_xor, Bool.true_xor, Bool.not_true, Bool.not_false, Bool.false_bne, Bool.true_bne, Bool.bne_false, Bool.bne_true, Bool.false_eq_true, if_false, if_true]
  · exact ⟨Q, hb, h3⟩
  · exact ⟨-Q, by rw [show -Q * -av y - av x = Q * av y - av x by grind]; exact hb, nrS_neg h3⟩
  · exact ⟨-Q, by rw [show -Q * av y - -av x = -(Q * av y - av x) by grind, ab_neg]; exact hb, nrS_neg h3⟩
  · exact ⟨Q, by rw [show Q * -av y - -av x = -(Q * av y - av x) by grind, ab_neg]; exact hb, h3⟩

/-- one part of a turn by a tangent, times the divisor -/
theorem part_by {e h g d c Q X K : Rat} (he : 0 ≤ e) (he1 : e * 1024 ≤ 1) (h0 : 0 ≤ h) (hh : h ≤ e) (hg : 1 ≤ g) (hK : 1 ≤ K) (d1 : g ≤ 2 * d) (d2 : d ≤ 2 * g) (hc : ab c ≤ K * g) (hq : ab (Q * d - c) ≤ e * ab c) (hx : ns e h Q X) :
    ab (X * d - c) ≤ 25 * (e * (K * g)) := by
  have hd : 0 < d := by grind
  have hKg : 0 ≤ K * g := Rat.mul_nonneg (by grind) (by grind)
  have z := Rat.mul_nonneg he hKg
  have a1 := rmul hc he
  have m1 := rmul he1 hKg
  -- Q is at most 4 K
  have hQd : ab (Q * d) ≤ 2 * (K * g) := by
    have := ab_add (Q * d - c) c
    rw [show Q * d - c + c = Q * d by grind] at this
    grind
  have hQ : ab Q ≤ 4 * K := by
    rw [ab_mul, ab_pos (Rat.le_of_lt hd)] at hQd
    refine Rat.le_of_mul_le_mul_right (c := d) ?_ hd
    have := rmul d1 (show 0 ≤ K by grind)
    grind
  obtain ⟨b1, _⟩ := ns_err (M := 4 * K) he (by grind) h0 hQ (by have := rmul hK he; grind) hx
  have t := Rat.mul_le_mul_of_nonneg_right b1 (Rat.le_of_lt hd)
  have hm : ab ((X - Q) * d) ≤ 12 * (e * K) * d := by
    rw [ab_mul, ab_pos (Rat.le_of_lt hd), show X - Q = -(Q - X) by grind, ab_neg]
    grind
  have hz := rmul d2 (Rat.mul_nonneg he (show 0 ≤ K by grind))
  have := ab_add ((X - Q) * d) (Q * d - c)
  rw [show (X - Q) * d + (Q * d - c) = X * d - c by grind] at this
  grind

theorem sq_near2 {A R E M : Rat} (hE : 0 ≤ E) (h1 : ab R ≤ M) (h2 : ab (A - R) ≤ E) (hM : E ≤ M) : ab (A * A - R * R) ≤ 3 * (E * M) := by
  have h3 : ab (A + R) ≤ 3 * M := by
    have := ab_add (A - R) (2 * R)
    have h4 : ab (2 * R) = 2 * ab R := by rw [ab_mul, ab_pos (show (0 : Rat) ≤ 2 by decide)]
    rw [show A - R + 2 * R = A + R by grind] at this
    grind
  have := ab_mul_le h2 h3
  rw [show A * A - R * R = (A - R) * (A + R) by grind]
  grind

/-- **by a tangent**: what comes of it is nearly as long as 1 -/
theorem by_rat {e h t s d c H Q1 Q2 X Y : Rat} (he : 0 ≤ e) (he1 : e * 4096 ≤ 1) (h0 : 0 ≤ h) (hh : h ≤ e) (hs : 0 ≤ s)
    (n1 : ns e h (t * t) s) (n2 : ns e h (1 + s) d) (n3 : ns e h (1 - s) c) (n4 : ns e h (t + t) H)
    (q1 : ab (Q1 * d - c) ≤ e * ab c) (x1 : ns e h Q1 X) (q2 : ab (Q2 * d - H) ≤ e * ab H) (x2 : ns e h Q2 Y) : ab (X * X + Y * Y - 1) ≤ 8000 * e := by
  obtain ⟨g, hgd⟩ : ∃ g, g = 1 + s := ⟨_, rfl⟩
  have hg : 1 ≤ g := by grind
  have hg0 : 0 ≤ g := by grind
  have z := Rat.mul_nonneg he hg0
  have eg : e ≤ e * g := by have := rmul hg he; grind
  have hheg : h ≤ e * g := by grind
  have egs : e * g * 4096 ≤ g := by have := rmul he1 hg0; grind
  -- the divisor
  have m2 : ab (1 + s) ≤ g := by rw [ab_pos (by grind)]; grind
  obtain ⟨d1, _⟩ := ns_err (M := g) he (by grind) h0 m2 hheg n2
  have d1 := ab_two d1
  have dlo : g ≤ 2 * d := by grind
  have dhi : d ≤ 2 * g := by grind
  -- the two that are divided
  have m3 : ab (1 - s) ≤ g := ab_of (by grind) (by grind)
  obtain ⟨c1, c2⟩ := ns_err (M := g) he (by grind) h0 m3 hheg n3
  have hts : ab (t * t - s) ≤ 2 * (e * g) := by
    unfold ns at n1
    rw [ab_pos hs] at n1
    have : e * s ≤ e * g := rmul (show s ≤ g by grind) he
    grind
  have ht2 := ab_two hts
  have ht : ab t ≤ 2 * g := by
    have gg : g ≤ g * g := by have := rmul hg hg0; grind
    refine ab_of ?_ ?_
    · apply Decidable.byContradiction
      intro k
      have := sq_le (a := 2 * g) (b := t) (by grind) (by grind)
      grind
    · apply Decidable.byContradiction
      intro k
      have := sq_le (a := 2 * g) (b := -t) (by grind) (by grind)
      grind
  have m4 : ab (t + t) ≤ 4 * g := by have := ab_add t t; grind
  obtain ⟨h1, h2⟩ := ns_err (M := 4 * g) he (by grind) h0 m4 (by grind) n4
  have px := part_by (K := 2) he (by grind) h0 hh hg (by decide) dlo dhi c2 q1 x1
  have py := part_by (K := 8) he (by grind) h0 hh hg (by decide) dlo dhi (by grind) q2 x2
  -- to what the two should be
  have ex : ab (X * d - (1 - s)) ≤ 53 * (e * g) := by
    have := ab_add (X * d - c) (-((1 - s) - c))
    rw [ab_neg, show X * d - c + -(1 - s - c) = X * d - (1 - s) by grind] at this
    grind
  have ey : ab (Y * d - (t + t)) ≤ 212 * (e * g) := by
    have := ab_add (Y * d - H) (-((t + t) - H))
    rw [ab_neg, show Y * d - H + -(t + t - H) = Y * d - (t + t) by grind] at this
    grind
  have f1 := sq_near2 (M := g) (Rat.mul_nonneg (by decide) z) m3 ex (by grind)
  have f2 := sq_near2 (M := 4 * g) (Rat.mul_nonneg (by decide) z) m4 ey (by grind)
  have f3 := sq_near2 (A := d) (R := 1 + s) (E := 3 * (e * g)) (M := g) (Rat.mul_nonneg (by decide) z) m2 (by rw [show d - (1 + s) = -((1 + s) - d) by grind, ab_neg]; exact ab_of d1.1 d1.2) (by grind)
  have f1 := ab_two f1
  have f2 := ab_two f2
  have f3 := ab_two f3
  have gg : e * g ≤ e * (g * g) := by have := rmul hg z; grind
  -- (X X + Y Y - 1) d d
  have hd : 0 < d := by grind
  have key : ab ((X * X + Y * Y - 1) * (d * d)) ≤ 2800 * (e * (g * g)) := by
    have e1 : (X * X + Y * Y - 1) * (d * d) = (X * d * (X * d) - (1 - s) * (1 - s)) + (Y * d * (Y * d) - (t + t) * (t + t)) - (d * d - (1 + s) * (1 + s)) + 4 * (t * t - s) := by grind
    rw [e1]
    clear e1
    refine ab_of ?_ ?_ <;> grind
  have dd : 0 < d * d := Rat.mul_pos hd hd
  have dg : g * g ≤ 2 * (d * d) := by
    have k1 := f3.2
    rw [← hgd] at k1
    have k2 := Rat.mul_le_mul_of_nonneg_right egs hg0
    clear key f1 f2 f3 px py q1 q2 ex ey
    grind
  rw [ab_mul, ab_pos (Rat.le_of_lt dd)] at key
  refine Rat.le_of_mul_le_mul_right (c := d * d) ?_ dd
  have := rmul dg he
  grind
end Go.Proofs.Ytoljkokcgmigeaa
namespace Go.Proofs.Ytoljkokcgmigeaa
open Ieee Go.RowKit
set_option linter.unusedSimpArgs false
set_option linter.unusedVariables false

/-! ### Turns, as floats -/
theorem abs_sv (u : Nat) : (svK .f64 u).natAbs = mg u := by unfold svK mg; split <;> simp
/-- a sum that comes out small is finite, whatever the signs -/
theorem add_small2 {x y r : Nat} (hx : finK .f64 x = true) (hy : finK .f64 y = true) (h : resK .add .f64 x y r) {B : Rat} (hB : B * 2 + 2 ≤ 2 ^ 1000) (hb : av x + av y ≤ B) : finK .f64 r = true := by
  have e := res_is h (add_spec .f64 x y hx hy)
  rw [e]
  refine fin_of _ (rung_fin ?_)
  have hT : (svK .f64 x + svK .f64 y).natAbs ≤ mg x + mg y := by
    have := Int.natAbs_add_le (svK .f64 x) (svK .f64 y)
    rwa [abs_sv, abs_sv] at this
  generalize (svK .f64 x + svK .f64 y).natAbs = T at *
  have hW := W_pos
  have hq : (T : Rat) / 2 ^ 1074 ≤ B := by
    refine Rat.le_trans ?_ hb
    refine Rat.le_of_mul_le_mul_right (c := 2 ^ 1074) ?_ hW
    have e1 : (av x + av y) * 2 ^ 1074 = ((mg x + mg y : Nat) : Rat) := by
      unfold av
      rw [Rat.add_mul, Rat.div_mul_cancel (Rat.ne_of_gt hW), Rat.div_mul_cancel (Rat.ne_of_gt hW), Rat.natCast_add]
    rw [e1, Rat.div_mul_cancel (Rat.ne_of_gt hW)]
    exact Rat.natCast_le_natCast.2 hT
  have hn : nearR ((T : Rat) / 2 ^ 1074) ((vl FloatKind.f64.format (rr FloatKind.f64.format T 0) : Rat) / 2 ^ 1074) := by
    refine near_rr _ _ _ ?_
    rw [Rat.pow_zero, Rat.mul_one]
    exact Rat.div_mul_cancel (Rat.ne_of_gt hW)
  have hn := hn.2
  have a1 : epR ≤ 1 / 4 := by decide +kernel
  have a2 : etR ≤ 1 := by decide +kernel
  have a4 : (0 : Rat) ≤ (vl FloatKind.f64.format (rr FloatKind.f64.format T 0) : Rat) / 2 ^ 1074 := by
    rw [Rat.div_def]; exact Rat.mul_nonneg Rat.natCast_nonneg (Rat.le_of_lt (Rat.inv_pos.2 W_pos))
  have a3 : (2 : Rat) ^ 100 * 2 + 2 ≤ 2 ^ 9000 := by decide +kernel
  generalize (vl FloatKind.f64.format (rr FloatKind.f64.format T 0) : Rat) / 2 ^ 1074 = A at *
  have a5 := rmul a1 a4
  generalize (T : Rat) / 2 ^ 1074 = q at *
  generalize (2 : Rat) ^ 100 = H at *
  generalize (2 : Rat) ^ 1000 = K at *
  grind
theorem sub_small2 {x y r : Nat} (oy : okK .f64 y) (hx : finK .f64 x = true) (hy : finK .f64 y = true) (h : resK .sub .f64 x y r) {B : Rat} (hB : B * 2 + 2 ≤ 2 ^ 1000) (hb : av x + av y ≤ B) : finK .f64 r = true := by
  have e : resK .add .f64 x (Op.negFloat .f64 y) r := by unfold resK at *; rwa [sub_is_add .f64 x y oy] at h
  refine add_small2 hx (by rw [fin_neg _ oy]; exact hy) e hB ?_
  have : av (Op.negFloat .f64 y) = av y := by unfold av mg; rw [(neg_facts .f64 y oy).1]
  rw [this]; exact hb

theorem rv_sq (x : Nat) : rv x * rv x = av x * av x := by unfold rv; split <;> grind
/-- what 'at least' and 'at most' say of numbers above nought -/
theorem av_of_le {a b : Nat} (na : ngK .f64 a = false) (za : rgK .f64 a ≠ 0) (h : leK .f64 a b = true) : ngK .f64 b = false ∧ av a ≤ av b := by
  unfold leK at h
  simp only [Bool.and_eq_true, decide_eq_true_eq] at h
  have h := h.2
  rw [woK_eq, woK_eq, na] at h
  cases hb : ngK .f64 b
  · rw [hb] at h
    simp only [Bool.false_eq_true, if_false] at h
    exact ⟨rfl, mg_le_av (mg_rg.2 (by omega))⟩
  · rw [hb] at h
    simp only [Bool.false_eq_true, if_false, if_true] at h
    exfalso
    omega
theorem fin_of_le {a b : Nat} (fb : finK .f64 b = true) (na : ngK .f64 a = false) (nb : ngK .f64 b = false) (h : leK .f64 a b = true) : finK .f64 a = true ∧ av a ≤ av b := by
  unfold leK at h
  simp only [Bool.and_eq_true, decide_eq_true_eq] at h
  have h := h.2
  rw [woK_eq, woK_eq, na, nb] at h
  simp only [Bool.false_eq_true, if_false] at h
  have h1 : rgK .f64 a ≤ rgK .f64 b := by omega
  exact ⟨decide_eq_true (Nat.lt_of_le_of_lt h1 (of_decide_eq_true fb)), mg_le_av (mg_rg.2 h1)⟩

/-- the square of finite parts, told to the numbers -/
theorem square_num {x y s : Nat} (fs : finK .f64 s = true) (h : DotR x y x y s) (h9 : 1 / 2 ^ 900 ≤ av s) :
    finK .f64 x = true ∧ finK .f64 y = true ∧ rv x * rv x + rv y * rv y ≤ av s + 3 * (epR * av s) ∧ av s ≤ rv x * rv x + rv y * rv y + 3 * (epR * av s) := by
  obtain ⟨p, q, k1, k2, k3⟩ := h
  obtain ⟨fp, fq⟩ := add_fin k3 fs
  have fx := square_fin k1 fp
  have fy := square_fin k2 fq
  obtain ⟨a1, sp⟩ := mul_near fx fx k1 fp
  obtain ⟨a2, sq⟩ := mul_near fy fy k2 fq
  rw [Bool.xor_self] at sp sq
  obtain ⟨a3, _⟩ := add_near fp fq sp sq k3 fs
  have e0 : 0 ≤ epR := by decide +kernel
  have hh1 : etR ≤ epR * epR * av s := by
    have k : etR ≤ epR * epR * (1 / 2 ^ 900) := by decide +kernel
    exact Rat.le_trans k (rmul h9 (Rat.mul_nonneg e0 e0))
  obtain ⟨t1, t2⟩ := sum_up (T := 0) e0 (by decide +kernel) (av_nn s) hh1 (by decide +kernel) a1 a2 a3
  rw [rv_sq, rv_sq]
  exact ⟨fx, fy, t1, t2⟩

def lo40 : Nat := 4607182418800009216
def hi40 : Nat := 4607182418800021504
/-- what a turn is, told to the numbers -/
theorem turn_num {x y s : Nat} (h : DotR x y x y s) (l : leK .f64 lo40 s = true) (u : leK .f64 s hi40 = true) :
    finK .f64 x = true ∧ finK .f64 y = true ∧ ab (rv x * rv x + rv y * rv y - 1) ≤ 8200 * epR ∧ ab (rv x) ≤ 1 + 1 / 4 ∧ ab (rv y) ≤ 1 + 1 / 4 := by
  obtain ⟨ns, l1⟩ := av_of_le (by decide +kernel) (by decide +kernel) l
  obtain ⟨fs, u1⟩ := fin_of_le (by decide +kernel) ns (by decide +kernel) u
  have v1 : av lo40 = 1 - 8192 * epR := by decide +kernel
  have v2 : av hi40 = 1 + 8192 * epR := by decide +kernel
  have w1 : (1 : Rat) / 2 ^ 900 ≤ 1 - 8192 * epR := by decide +kernel
  have w2 : epR * 16384 ≤ 1 := by decide +kernel
  have w0 : 0 ≤ epR := by decide +kernel
  have w3 : epR * 1048576 ≤ 1 := by decide +kernel
  rw [v1] at l1
  rw [v2] at u1
  obtain ⟨fx, fy, t1, t2⟩ := square_num fs h (Rat.le_trans w1 l1)
  have m1 : epR * av s ≤ epR * 2 := rmul (show av s ≤ 2 by grind) w0
  have part : ∀ {a b S : Rat}, a * a + b * b ≤ S → S ≤ 25 / 16 → ab a ≤ 1 + 1 / 4 := by
    intro a b S h1 h2
    have hb := rsq b
    refine ab_of ?_ ?_
    · apply Decidable.byContradiction
      intro g
      have g : 1 + 1 / 4 < a := by grind
      have := Rat.mul_lt_mul_of_pos_left g (show (0 : Rat) < a by grind)
      grind
    · apply Decidable.byContradiction
      intro g
      have g : 1 + 1 / 4 < -a := by grind
      have := Rat.mul_lt_mul_of_pos_left g (show (0 : Rat) < -a by grind)
      grind
  generalize av s = S at *
  generalize epR = e at *
  refine ⟨fx, fy, ab_of (by grind) (by grind), part t1 (by grind), part (b := rv x) (S := S + 3 * (e * S)) (by grind) (by grind)⟩
end Go.Proofs.Ytoljkokcgmigeaa
namespace Go.Proofs.Ytoljkokcgmigeaa
open Ieee Go.RowKit
set_option linter.unusedSimpArgs false
set_option linter.unusedVariables false

theorem sum_one {e h p q P Q S : Rat} (he : 0 ≤ e) (he1 : e * 64 ≤ 1) (h0 : 0 ≤ h) (hh : h ≤ e) (hp : 0 ≤ p) (hq : 0 ≤ q) (hP : 0 ≤ P) (hQ : 0 ≤ Q) (hS : 0 ≤ S) (h2 : p + q ≤ 2) (a1 : nr e h p P) (a2 : nr e h q Q) (a3 : nr e h (P + Q) S) : S ≤ p + q + 10 * e ∧ p + q ≤ S + 10 * e := by
  obtain ⟨p1, p2⟩ := a1
  obtain ⟨q1, q2⟩ := a2
  obtain ⟨s1, s2⟩ := a3
  have hPQ : P + Q ≤ 3 := by
    refine Rat.le_of_mul_le_mul_right (c := 1 - e) ?_ (by grind)
    grind
  have m1 := rmul hPQ he
  have hS4 : S ≤ 4 := by
    refine Rat.le_of_mul_le_mul_right (c := 1 - e) ?_ (by grind)
    grind
  have m2 := rmul hS4 he
  constructor <;> grind

/-- the square of two floats whose numbers' squares come to at most 2 -/
theorem square_small {x y s : Nat} (fx : finK .f64 x = true) (fy : finK .f64 y = true) (h : DotR x y x y s) (hb : rv x * rv x + rv y * rv y ≤ 2) :
    finK .f64 s = true ∧ ngK .f64 s = false ∧ av s ≤ rv x * rv x + rv y * rv y + 10 * epR ∧ rv x * rv x + rv y * rv y ≤ av s + 10 * epR := by
  obtain ⟨p, q, k1, k2, k3⟩ := h
  rw [rv_sq, rv_sq] at hb ⊢
  have hx := rsq (av x)
  have hy := rsq (av y)
  have b2 : (2 : Rat) ≤ 2 ^ 100 := by decide +kernel
  have fp := mul_small fx fx k1 (Rat.le_trans (show av x * av x ≤ 2 by grind) b2)
  have fq := mul_small fy fy k2 (Rat.le_trans (show av y * av y ≤ 2 by grind) b2)
  obtain ⟨a1, sp⟩ := mul_near fx fx k1 fp
  obtain ⟨a2, sq⟩ := mul_near fy fy k2 fq
  rw [Bool.xor_self] at sp sq
  have e0 : 0 ≤ epR := by decide +kernel
  have e1 : epR * 64 ≤ 1 := by decide +kernel
  have h0 : 0 ≤ etR := by decide +kernel
  have hh : etR ≤ epR := by decide +kernel
  have sm : av p + av q ≤ 2 ^ 100 := by
    have b4 : (4 : Rat) ≤ 2 ^ 100 := by decide +kernel
    refine Rat.le_trans ?_ b4
    have g1 := a1.2
    have g2 := a2.2
    have m1 := rmul (show epR ≤ 1 / 64 by grind) (av_nn p)
    have m2 := rmul (show epR ≤ 1 / 64 by grind) (av_nn q)
    have hh2 : etR ≤ 1 / 64 := by grind
    generalize av p = P at *
    generalize av q = Q at *
    generalize epR = e at *
    grind
  have fs := add_small fp fq sp sq k3 sm
  obtain ⟨a3, ns⟩ := add_near fp fq sp sq k3 fs
  obtain ⟨t1, t2⟩ := sum_one e0 e1 h0 hh hx hy (av_nn p) (av_nn q) (av_nn s) hb a1 a2 a3
  exact ⟨fs, ns, t1, t2⟩

def ThenR (x y u v r i : Nat) : Prop := ∃ p q c d, resK .mul .f64 x u p ∧ resK .mul .f64 y v q ∧ resK .mul .f64 x v c ∧ resK .mul .f64 y u d ∧ resK .sub .f64 p q r ∧ resK .add .f64 c d i

/-- a product of two small ones: finite, small, near -/
theorem mul_rv2 {x y r : Nat} {a b : Rat} (fx : finK .f64 x = true) (fy : finK .f64 y = true) (h : resK .mul .f64 x y r) (ha : ab (rv x) ≤ a) (hb : ab (rv y) ≤ b) (h1 : 1 ≤ a * b) (h2 : a * b ≤ 2 ^ 90) :
    finK .f64 r = true ∧ ab (rv r) ≤ 2 * (a * b) ∧ ns epR etR (rv x * rv y) (rv r) := by
  have hq := ab_mul_le ha hb
  have fr : finK .f64 r = true := by
    refine mul_small fx fy h ?_
    rw [← ab_rv x, ← ab_rv y, ← ab_mul]
    exact Rat.le_trans hq (Rat.le_trans h2 (by decide +kernel))
  have n := mul_rv fx fy fr h
  have e0 : 0 ≤ epR := by decide +kernel
  obtain ⟨_, k⟩ := ns_err (M := a * b) e0 (by decide +kernel) (by decide +kernel) hq (by
    have k : etR ≤ epR * 1 := by decide +kernel
    exact Rat.le_trans k (rmul h1 e0)) n
  exact ⟨fr, k, n⟩
theorem add_rv2 {x y r : Nat} {a : Rat} (fx : finK .f64 x = true) (fy : finK .f64 y = true) (h : resK .add .f64 x y r) (ha : ab (rv x) ≤ a) (hb : ab (rv y) ≤ a) (h2 : a ≤ 2 ^ 90) :
    finK .f64 r = true ∧ ns epR etR (rv x + 1 * rv y) (rv r) := by
  have fr : finK .f64 r = true := by
    refine add_small2 fx fy h (B := a + a) ?_ (by rw [← ab_rv x, ← ab_rv y]; grind)
    have k : (2 : Rat) ^ 90 * 4 + 2 ≤ 2 ^ 1000 := by decide +kernel
    generalize (2 : Rat) ^ 90 = H at *
    generalize (2 : Rat) ^ 1000 = K at *
    grind
  have n := add_rv fx fy fr h
  rw [show rv x + 1 * rv y = rv x + rv y by grind]
  exact ⟨fr, n⟩
theorem sub_rv2 {x y r : Nat} {a : Rat} (oy : okK .f64 y) (fx : finK .f64 x = true) (fy : finK .f64 y = true) (h : resK .sub .f64 x y r) (ha : ab (rv x) ≤ a) (hb : ab (rv y) ≤ a) (h2 : a ≤ 2 ^ 90) :
    finK .f64 r = true ∧ ns epR etR (rv x + -1 * rv y) (rv r) := by
  have fr : finK .f64 r = true := by
    refine sub_small2 oy fx fy h (B := a + a) ?_ (by rw [← ab_rv x, ← ab_rv y]; grind)
    have k : (2 : Rat) ^ 90 * 4 + 2 ≤ 2 ^ 1000 := by decide +kernel
    generalize (2 : Rat) ^ 90 = H at *
    generalize (2 : Rat) ^ 1000 = K at *
    grind
  have n := sub_rv oy fx fy fr h
  rw [show rv x + -1 * rv y = rv x - rv y by grind]
  exact ⟨fr, n⟩

def lo38 : Nat := 4607182418799984640
def hi38 : Nat := 4607182418800033792
/-- **one turn behind the other is nearly as long as 1** -/
theorem then_long {x y u v r i s t k : Nat} (hx : DotR x y x y s) (l1 : leK .f64 lo40 s = true) (u1 : leK .f64 s hi40 = true) (hu : DotR u v u v t) (l2 : leK .f64 lo40 t = true) (u2 : leK .f64 t hi40 = true) (h : ThenR x y u v r i) (hk : DotR r i r i k) :
    leK .f64 lo38 k = true ∧ leK .f64 k hi38 = true := by
  obtain ⟨fx, fy, d1, bx, b_y⟩ := turn_num hx l1 u1
  obtain ⟨fu, fv, d2, bu, bv⟩ := turn_num hu l2 u2
  obtain ⟨p, q, c, d, k1, k2, k3, k4, k5, k6⟩ := h
  have w90 : (1 + 1 / 4 : Rat) * (1 + 1 / 4) ≤ 2 ^ 90 := by decide +kernel
  have w1 : (1 : Rat) ≤ (1 + 1 / 4) * (1 + 1 / 4) := by decide +kernel
  obtain ⟨fp, bp, np⟩ := mul_rv2 fx fu k1 bx bu w1 w90
  obtain ⟨fq, bq, nq⟩ := mul_rv2 fy fv k2 b_y bv w1 w90
  obtain ⟨fc, bc, nc⟩ := mul_rv2 fx fv k3 bx bv w1 w90
  obtain ⟨fd, bd, nd⟩ := mul_rv2 fy fu k4 b_y bu w1 w90
  have w91 : 2 * ((1 + 1 / 4 : Rat) * (1 + 1 / 4)) ≤ 2 ^ 90 := by decide +kernel
  obtain ⟨fr, nr⟩ := sub_rv2 k2.1 fp fq k5 bp bq w91
  obtain ⟨fi, ni⟩ := add_rv2 fc fd k6 bc bd w91
  have e0 : 0 ≤ epR := by decide +kernel
  have key := then_rat (D := 8200 * epR) e0 (by decide +kernel) (by decide +kernel) (by decide +kernel) (by grind) (by grind) bu bv np nq nr nc nd ni d1 d2 (by decide +kernel)
  have kb : 2 * (8200 * epR) + 8200 * epR * (8200 * epR) + 1200 * epR ≤ 18000 * epR := by decide +kernel
  have key := ab_two (Rat.le_trans key kb)
  have e20 : 20000 * epR ≤ 1 := by decide +kernel
  obtain ⟨fk, nk, t1, t2⟩ := square_small fr fi hk (by grind)
  have v1 : av lo38 = 1 - 32768 * epR := by decide +kernel
  have v2 : av hi38 = 1 + 32768 * epR := by decide +kernel
  constructor
  · refine le_of_av (by decide +kernel) nk (by decide +kernel) fk ?_
    rw [v1]; grind
  · refine le_of_av nk (by decide +kernel) fk (by decide +kernel) ?_
    rw [v2]; grind
end Go.Proofs.Ytoljkokcgmigeaa
namespace Go.Proofs.Ytoljkokcgmigeaa
open Ieee Go.RowKit
set_option linter.unusedSimpArgs false
set_option linter.unusedVariables false

/-! ### A turn by a tangent -/
def oneW : Nat := 4607182418800017408
def ByR (t s x y : Nat) : Prop := ∃ d c h, resK .add .f64 oneW s d ∧ resK .sub .f64 oneW s c ∧ resK .add .f64 t t h ∧ resK .quo .f64 c d x ∧ resK .quo .f64 h d y
theorem oneW_fin : finK .f64 oneW = true := by decide +kernel
theorem oneW_rv : rv oneW = 1 := by decide +kernel
theorem oneW_sv : svK .f64 oneW = (mg oneW : Int) := by decide +kernel
theorem mg_lt {x : Nat} (h : finK .f64 x = true) : mg x ≤ vl FloatKind.f64.format 9218868437227405311 := by
  have h : rgK .f64 x < infK .f64 := of_decide_eq_true h
  rw [inf64] at h
  exact vl_le _ (by omega)
theorem most_up : rr FloatKind.f64.format (mg oneW + vl FloatKind.f64.format 9218868437227405311) 0 < infK .f64 := by decide +kernel
theorem most_rr : rr FloatKind.f64.format (vl FloatKind.f64.format 9218868437227405311) 0 < infK .f64 := by decide +kernel
theorem one_le : mg oneW ≤ vl FloatKind.f64.format 9218868437227405311 := by decide +kernel
theorem up_fin {s d : Nat} (fs : finK .f64 s = true) (ns : ngK .f64 s = false) (h : resK .add .f64 oneW s d) : finK .f64 d = true := by
  have e := res_is h (add_spec .f64 oneW s oneW_fin fs)
  have hs : svK .f64 s = (mg s : Int) := by unfold svK; rw [ns]; rfl
  have hT : (svK .f64 oneW + svK .f64 s).natAbs = mg oneW + mg s := by rw [oneW_sv, hs, ← Int.natCast_add, Int.natAbs_natCast]
  rw [e, hT]
  exact fin_of _ (Nat.lt_of_le_of_lt (rr_mono FloatKind.f64.format fb1 0 (Nat.add_le_add_left (mg_lt fs) _)) most_up)
theorem abs_diff {a b m : Nat} (h1 : a ≤ m) (h2 : b ≤ m) : ((a : Int) + -(b : Int)).natAbs ≤ m := by omega
theorem down_fin {s c : Nat} (os : okK .f64 s) (fs : finK .f64 s = true) (ns : ngK .f64 s = false) (h : resK .sub .f64 oneW s c) : finK .f64 c = true := by
  have h' : resK .add .f64 oneW (Op.negFloat .f64 s) c := by unfold resK at *; rwa [sub_is_add .f64 oneW s os] at h
  have e := res_is h' (add_spec .f64 oneW _ oneW_fin (by rw [fin_neg _ os]; exact fs))
  have hs : svK .f64 s = (mg s : Int) := by unfold svK; rw [ns]; rfl
  rw [sv_neg _ os, oneW_sv, hs] at e
  rw [e]
  exact fin_of _ (Nat.lt_of_le_of_lt (rr_mono FloatKind.f64.format fb1 0 (abs_diff one_le (mg_lt fs))) most_rr)

/-- the square's tangent is not too great -/
theorem tan_rat {e h T S K H : Rat} (e0 : 0 ≤ e) (he : e ≤ 1 / 4) (hh : h ≤ 1) (hT : 0 ≤ T) (hS : 0 ≤ S) (n : T * T ≤ S + e * S + h) (hm : S ≤ K) (hK : 1 ≤ K) (hH : 0 ≤ H) (b : K * 4 ≤ H * H) : T ≤ H := by
  apply Decidable.byContradiction
  intro g
  have := sq_le (a := H) (b := T) hH (by grind)
  have a1 := rmul he hS
  grind
theorem tan_small {t s : Nat} (ft : finK .f64 t = true) (hs : resK .mul .f64 t t s) (fs : finK .f64 s = true) : ∃ B : Rat, B * 2 + 2 ≤ 2 ^ 1000 ∧ av t + av t ≤ B := by
  obtain ⟨n, _⟩ := mul_near ft ft hs fs
  have ht := tan_rat (H := 2 ^ 899) (K := 2 ^ 1024) (by decide +kernel) (by decide +kernel) (by decide +kernel) (av_nn t) (av_nn s) n.1 (av_le fs) (by decide +kernel) (by decide +kernel) (by decide +kernel)
  refine ⟨2 ^ 899 + 2 ^ 899, by decide +kernel, ?_⟩
  generalize (2 : Rat) ^ 899 = H at *
  grind

theorem by_bounds {e h t s d c H : Rat} (he : 0 ≤ e) (he1 : e * 4096 ≤ 1) (h0 : 0 ≤ h) (hh : h ≤ e) (hs : 0 ≤ s)
    (n1 : ns e h (t * t) s) (n2 : ns e h (1 + s) d) (n3 : ns e h (1 - s) c) (n4 : ns e h (t + t) H) : 1 / 2 ≤ d ∧ ab c ≤ 2 * d ∧ ab H ≤ 2 * d := by
  obtain ⟨g, hgd⟩ : ∃ g, g = 1 + s := ⟨_, rfl⟩
  have hg : 1 ≤ g := by grind
  have hg0 : 0 ≤ g := by grind
  have z := Rat.mul_nonneg he hg0
  have eg : e ≤ e * g := by have := rmul hg he; grind
  have hheg : h ≤ e * g := by grind
  have egs : e * g * 4096 ≤ g := by have := rmul he1 hg0; grind
  have m2 : ab (1 + s) ≤ g := by rw [ab_pos (by grind)]; grind
  obtain ⟨d1, _⟩ := ns_err (M := g) he (by grind) h0 m2 hheg n2
  have d1 := ab_two d1
  have m3 : ab (1 - s) ≤ g := ab_of (by grind) (by grind)
  obtain ⟨c1, _⟩ := ns_err (M := g) he (by grind) h0 m3 hheg n3
  have hts : ab (t * t - s) ≤ 2 * (e * g) := by
    unfold ns at n1
    rw [ab_pos hs] at n1
    have : e * s ≤ e * g := rmul (show s ≤ g by grind) he
    grind
  have ht2 := ab_two hts
  have m4 : ab (t + t) ≤ g + 2 * (e * g) := by
    have k1 := rsq (1 - t)
    have k2 := rsq (1 + t)
    exact ab_of (by grind) (by grind)
  have m4' : ab (t + t) ≤ 2 * g := by grind
  obtain ⟨h1, _⟩ := ns_err (M := 2 * g) he (by grind) h0 m4' (by grind) n4
  have cc := ab_two c1
  have mm := ab_two m3
  have h2 := ab_two h1
  have m5 := ab_two m4
  exact ⟨by grind, ab_of (by grind) (by grind), ab_of (by grind) (by grind)⟩

/-- by a tangent whose square is finite: a turn -/
theorem by_long {t s x y k : Nat} (ft : finK .f64 t = true) (hs : resK .mul .f64 t t s) (fs : finK .f64 s = true) (h : ByR t s x y) (hk : DotR x y x y k) :
    finK .f64 x = true ∧ finK .f64 y = true ∧ leK .f64 lo40 k = true ∧ leK .f64 k hi40 = true := by
  obtain ⟨d, c, hh, k1, k2, k3, k4, k5⟩ := h
  have ns0 := mul_self_sign hs (fin_num fs)
  have fd := up_fin fs ns0 k1
  have fc := down_fin hs.1 fs ns0 k2
  obtain ⟨B, hB, hB2⟩ := tan_small ft hs fs
  have fh := add_small2 ft ft k3 hB hB2
  have n1 := mul_rv ft ft fs hs
  have n2 := add_rv oneW_fin fs fd k1
  have n3 := sub_rv hs.1 oneW_fin fs fc k2
  have n4 := add_rv ft ft fh k3
  rw [oneW_rv] at n2 n3
  have e0 : 0 ≤ epR := by decide +kernel
  have e1 : epR * 4096 ≤ 1 := by decide +kernel
  have h0 : 0 ≤ etR := by decide +kernel
  have he : etR ≤ epR := by decide +kernel
  have hsn : 0 ≤ rv s := by rw [rv_pos ns0]; exact av_nn s
  obtain ⟨b1, b2, b3⟩ := by_bounds e0 e1 h0 he hsn n1 n2 n3 n4
  have d0 : mg d ≠ 0 := by
    intro z
    have : av d = 0 := by unfold av; rw [z, Rat.div_def]; exact Rat.zero_mul _
    have h2 := ab_rv d
    have h3 := ab_le (rv d)
    grind
  have hd : rv d = av d := by rw [← ab_rv d, ab_pos (by grind)]
  have fx := (part_near fc fd d0 k4 (by rw [← ab_rv c, ← hd]; exact b2)).1
  have fy := (part_near fh fd d0 k5 (by rw [← ab_rv hh, ← hd]; exact b3)).1
  obtain ⟨Q1, q1, x1⟩ := quo_rv fc fd d0 fx k4
  obtain ⟨Q2, q2, x2⟩ := quo_rv fh fd d0 fy k5
  have key := ab_two (by_rat e0 e1 h0 he hsn n1 n2 n3 n4 q1 x1 q2 x2)
  have e9 : 9000 * epR ≤ 1 := by decide +kernel
  obtain ⟨fk, nk, t1, t2⟩ := square_small fx fy hk (by grind)
  have v1 : av lo40 = 1 - 8192 * epR := by decide +kernel
  have v2 : av hi40 = 1 + 8192 * epR := by decide +kernel
  refine ⟨fx, fy, ?_, ?_⟩
  · refine le_of_av (by decide +kernel) nk (by decide +kernel) fk ?_
    rw [v1]; grind
  · refine le_of_av nk (by decide +kernel) fk (by decide +kernel) ?_
    rw [v2]; grind
end Go.Proofs.Ytoljkokcgmigeaa
namespace Go.Proofs.Ytoljkokcgmigeaa
open Ieee Go.RowKit
set_option linter.unusedSimpArgs false
set_option linter.unusedVariables false

/-! ### There and back -/
def ApplyR (x y u v r i : Nat) : Prop := ∃ a b c d, resK .mul .f64 x u a ∧ resK .mul .f64 y v b ∧ resK .mul .f64 y u c ∧ resK .mul .f64 x v d ∧ resK .sub .f64 a b r ∧ resK .add .f64 c d i
def UndoR (x y u v r i : Nat) : Prop := ∃ a b c d, resK .mul .f64 x u a ∧ resK .mul .f64 y v b ∧ resK .mul .f64 x v c ∧ resK .mul .f64 y u d ∧ resK .add .f64 a b r ∧ resK .sub .f64 c d i

theorem mul_small2 {x y r : Nat} (hx : finK .f64 x = true) (hy : finK .f64 y = true) (h : resK .mul .f64 x y r) {B : Rat} (hB : B * 2 + 2 ≤ 2 ^ 1000) (hb : av x * av y ≤ B) : finK .f64 r = true := by
  have e := res_is h (mul_spec x y hx hy)
  rw [e]
  refine fin_of _ (rung_fin ?_)
  have hn : nearR (av x * av y) ((vl FloatKind.f64.format (rr FloatKind.f64.format (mg x * mg y) 1074) : Rat) / 2 ^ 1074) := by
    refine near_rr _ _ _ ?_
    have hW := W_pos
    unfold av
    push_cast
    generalize (2 : Rat) ^ 1074 = W at *
    grind
  have hn := hn.2
  have a1 : epR ≤ 1 / 4 := by decide +kernel
  have a2 : etR ≤ 1 := by decide +kernel
  have a4 : (0 : Rat) ≤ (vl FloatKind.f64.format (rr FloatKind.f64.format (mg x * mg y) 1074) : Rat) / 2 ^ 1074 := by
    rw [Rat.div_def]; exact Rat.mul_nonneg Rat.natCast_nonneg (Rat.le_of_lt (Rat.inv_pos.2 W_pos))
  show (vl FloatKind.f64.format (rr FloatKind.f64.format (mg x * mg y) 1074) : Rat) / 2 ^ 1074 ≤ _
  generalize (vl FloatKind.f64.format (rr FloatKind.f64.format (mg x * mg y) 1074) : Rat) / 2 ^ 1074 = A at *
  have a5 := rmul a1 a4
  generalize av x * av y = q at *
  generalize (2 : Rat) ^ 1000 = K at *
  grind

/-- two products and their sum: finite, bounded, near, where all are at most M times 2 -/
theorem step_num {x y u v a b : Nat} {M : Rat} (hM : etR ≤ epR * M) (hM2 : M * 64 + 2 ≤ 2 ^ 1000) (fx : finK .f64 x = true) (fy : finK .f64 y = true) (fu : finK .f64 u = true) (fv : finK .f64 v = true)
    (bx : ab (rv x) ≤ 2) (b_y : ab (rv y) ≤ 2) (bu : ab (rv u) ≤ M) (bv : ab (rv v) ≤ M) (h1 : resK .mul .f64 x u a) (h2 : resK .mul .f64 y v b) :
    finK .f64 a = true ∧ finK .f64 b = true ∧ ns epR etR (rv x * rv u) (rv a) ∧ ns epR etR (rv y * rv v) (rv b) ∧ av a + av b ≤ 8 * M := by
  have hM0 : 0 ≤ M := by have := ab_nn (rv u); grind
  have e0 : 0 ≤ epR := by decide +kernel
  have z := Rat.mul_nonneg e0 hM0
  have k1 := ab_mul_le bx bu
  have k2 := ab_mul_le b_y bv
  have fa := mul_small2 fx fu h1 (B := 2 * M) (by grind) (by rw [← ab_rv x, ← ab_rv u, ← ab_mul]; exact k1)
  have fb := mul_small2 fy fv h2 (B := 2 * M) (by grind) (by rw [← ab_rv y, ← ab_rv v, ← ab_mul]; exact k2)
  have n1 := mul_rv fx fu fa h1
  have n2 := mul_rv fy fv fb h2
  obtain ⟨_, c1⟩ := ns_err (M := 2 * M) e0 (by decide +kernel) (by decide +kernel) k1 (by grind) n1
  obtain ⟨_, c2⟩ := ns_err (M := 2 * M) e0 (by decide +kernel) (by decide +kernel) k2 (by grind) n2
  rw [ab_rv] at c1 c2
  exact ⟨fa, fb, n1, n2, by grind⟩

theorem ns_neg {e h q A : Rat} (n : ns e h q A) : ns e h (-q) (-A) := by
  unfold ns at *
  rw [ab_neg A, show -q - -A = -(q - A) by grind, ab_neg]
  exact n
theorem ns_eq {e h q q' A : Rat} (n : ns e h q A) (hq : q = q') : ns e h q' A := hq ▸ n

/-- **what is turned is turned back**, as numbers: each part up to 9000 e of M -/
theorem there_back {x y u v s A B C D : Nat} {M : Rat} (hx : DotR x y x y s) (l1 : leK .f64 lo40 s = true) (u1 : leK .f64 s hi40 = true) (fu : finK .f64 u = true) (fv : finK .f64 v = true)
    (bu : ab (rv u) ≤ M) (bv : ab (rv v) ≤ M) (hM : etR ≤ epR * M) (hM2 : M * 4096 + 2 ≤ 2 ^ 1000) (h1 : ApplyR x y u v A B) (h2 : UndoR x y A B C D) :
    finK .f64 C = true ∧ finK .f64 D = true ∧ ab (rv C - rv u) ≤ 9000 * (epR * M) ∧ ab (rv D - rv v) ≤ 9000 * (epR * M) := by
  obtain ⟨fx, fy, d1, bx, b_y⟩ := turn_num hx l1 u1
  have bx2 : ab (rv x) ≤ 2 := by grind
  have by2 : ab (rv y) ≤ 2 := by grind
  have hM0 : 0 ≤ M := by have := ab_nn (rv u); grind
  have e0 : 0 ≤ epR := by decide +kernel
  have e1 : epR * 64 ≤ 1 := by decide +kernel
  have h0 : 0 ≤ etR := by decide +kernel
  have z := Rat.mul_nonneg e0 hM0
  obtain ⟨a, b, c, d, k1, k2, k3, k4, k5, k6⟩ := h1
  obtain ⟨a', b', c', d', m1, m2, m3, m4, m5, m6⟩ := h2
  obtain ⟨fa, fb, na, nb, sab⟩ := step_num hM (by grind) fx fy fu fv bx2 by2 bu bv k1 k2
  obtain ⟨fc, fd, nc, nd, scd⟩ := step_num hM (by grind) fy fx fu fv by2 bx2 bu bv k3 k4
  have fA := sub_small2 k2.1 fa fb k5 (B := 8 * M) (by grind) sab
  have fB := add_small2 fc fd k6 (B := 8 * M) (by grind) scd
  have nA := sub_rv k2.1 fa fb fA k5
  have nB := add_rv fc fd fB k6
  have nA' : ns epR etR (rv a + -1 * rv b) (rv A) := ns_eq nA (by grind)
  have nB' : ns epR etR (rv c + 1 * rv d) (rv B) := ns_eq nB (by grind)
  obtain ⟨_, bA⟩ := two_prods (K := 0) e0 (by grind) h0 bx2 by2 bu bv hM na nb (-1) (.inr rfl) nA'
  obtain ⟨_, bB⟩ := two_prods (K := 0) e0 (by grind) h0 by2 bx2 bu bv hM nc nd 1 (.inl rfl) nB'
  have hM16 : etR ≤ epR * (16 * M) := by grind
  obtain ⟨fa', fb', na', nb', sab'⟩ := step_num hM16 (by grind) fx fy fA fB bx2 by2 bA bB m1 m2
  obtain ⟨fc', fd', nc', nd', scd'⟩ := step_num hM16 (by grind) fx fy fB fA bx2 by2 bB bA m3 m4
  have fC := add_small2 fa' fb' m5 (B := 8 * (16 * M)) (by grind) sab'
  have fD := sub_small2 m4.1 fc' fd' m6 (B := 8 * (16 * M)) (by grind) scd'
  have nC := add_rv fa' fb' fC m5
  have nD := sub_rv m4.1 fc' fd' fD m6
  have r1 := back_rat e0 e1 h0 bx2 by2 bu bv hM na nb nA' nc nd nB' na' nb' (ns_eq nC (by grind)) d1
  -- the other part: the same with the turn's other sign
  have by2' : ab (-rv y) ≤ 2 := by rw [ab_neg]; exact by2
  have d1' : ab (rv x * rv x + -rv y * -rv y - 1) ≤ 8200 * epR := by rw [show -rv y * -rv y = rv y * rv y by grind]; exact d1
  have r2 := back_rat (x := rv x) (y := -rv y) (u := rv v) (v := rv u) (a1 := rv d) (a2 := -rv c) (A := rv B) (b1 := -rv b) (b2 := rv a) (B := rv A) (c1 := rv c') (c2 := -rv d') (C := rv D) e0 e1 h0 bx2 by2' bv bu hM
    nd (ns_eq (ns_neg nc) (by grind)) (ns_eq nB (by grind)) (ns_eq (ns_neg nb) (by grind)) na (ns_eq nA (by grind)) nc' (ns_eq (ns_neg nd') (by grind)) (ns_eq nD (by grind)) d1'
  exact ⟨fC, fD, by grind, by grind⟩
end Go.Proofs.Ytoljkokcgmigeaa
namespace Go.Proofs.Ytoljkokcgmigeaa
open Ieee Go.RowKit
set_option linter.unusedSimpArgs false
set_option linter.unusedVariables false

/-! ### What the calls on turns answer, as relations -/
def chk (s : Nat) : Bool := leK .f64 lo40 s && leK .f64 s hi40
def errT (b : Bool) : Int := if b then 0 else 30
def TUnitR (x y u v : Nat) (b : Bool) : Prop := ∃ n p q s, LengthR x y n ∧ resK .quo .f64 x n p ∧ resK .quo .f64 y n q ∧ DotR p q p q s ∧ b = chk s ∧ u = (if b then p else 0) ∧ v = (if b then q else 0)
def TByR (t x y : Nat) : Prop := ∃ s, resK .mul .f64 t t s ∧ if ltK .f64 9218868437227405311 s then x = 13830554455654793216 ∧ y = 0 else ByR t s x y
def pcT (x y : Nat) : Nat := if nanK .f64 x || nanK .f64 y then 2 else if ltK .f64 0 y || (eqK .f64 y 0 && leK .f64 0 x) then 0 else 1
def sgT (x y : Nat) : Int := if ltK .f64 x y then -1 else if ltK .f64 y x then 1 else 0
def ordT (x y u v : Nat) : Int :=
  if pcT x y < pcT u v then -1 else if pcT u v < pcT x y then 1 else if pcT x y = 2 then 0 else
  if (if pcT x y = 0 then -sgT x u else sgT x u) ≠ 0 then (if pcT x y = 0 then -sgT x u else sgT x u) else sgT y v

theorem pc_three (x y : Nat) : (pcT x y = 0 ∧ nanK .f64 x = false ∧ nanK .f64 y = false) ∨ (pcT x y = 1 ∧ nanK .f64 x = false ∧ nanK .f64 y = false) ∨ pcT x y = 2 := by
  unfold pcT
  cases nanK .f64 x <;> cases nanK .f64 y <;> cases ltK .f64 0 y <;> cases eqK .f64 y 0 <;> cases leK .f64 0 x <;> simp
theorem sg_three (x y : Nat) : sgT x y = 0 ∨ sgT x y = 1 ∨ sgT x y = -1 := by
  unfold sgT
  cases ltK .f64 x y <;> cases ltK .f64 y x <;> simp
theorem wrap_sg (x y : Nat) : wrap64 (-sgT x y) = -sgT x y := by
  rcases sg_three x y with h | h | h <;> rw [h] <;> decide
theorem sm_bits (a b : Nat) : smK .f64 a b = (decide (a = b) || (nanK .f64 a && nanK .f64 b)) := by
  unfold smK
  by_cases h : a = b
  · subst h; cases nanK .f64 a <;> simp
  · cases nanK .f64 a <;> cases nanK .f64 b <;> simp [h]
theorem lt_or_eq (k : FloatKind) (x y : Nat) : (ltK k y x || eqK k x y) = leK k y x := by rw [← cmp_gt, ← cmp_eq, cmp_ge]
theorem lt_or_eq' (k : FloatKind) (x y : Nat) : (ltK k x y || eqK k x y) = leK k x y := by rw [← cmp_lt, ← cmp_eq, cmp_le]
theorem le_sm_r {a x y : Nat} (h : smK .f64 x y = true) : leK .f64 a x = leK .f64 a y := by
  rcases smK_cases h with rfl | ⟨h1, h2⟩
  · rfl
  · unfold leK; rw [h1, h2]; simp
theorem chk_sm {s t : Nat} (h : smK .f64 s t = true) : chk s = chk t := by
  unfold chk; rw [le_sm h, le_sm_r h]
theorem DotR.sm2 {x y x' y' s s' : Nat} (hx : smK .f64 x x' = true) (hy : smK .f64 y y' = true) (h : DotR x y x y s) (g : DotR x' y' x' y' s') : smK .f64 s s' = true := by
  obtain ⟨p, q, h1, h2, h3⟩ := h
  obtain ⟨p', q', g1, g2, g3⟩ := g
  exact res_congr (res_congr hx hx h1 g1) (res_congr hy hy h2 g2) h3 g3
theorem TUnitR.sm {x y u v u' v' : Nat} {b b' : Bool} (h : TUnitR x y u v b) (g : TUnitR x y u' v' b') : smK .f64 u u' = true ∧ smK .f64 v v' = true ∧ b = b' := by
  obtain ⟨n, p, q, s, h1, h2, h3, h4, h5, h6, h7⟩ := h
  obtain ⟨n', p', q', s', g1, g2, g3, g4, g5, g6, g7⟩ := g
  have hn := h1.sm g1
  have hp := res_congr (smK_self _ _) hn h2 g2
  have hq := res_congr (smK_self _ _) hn h3 g3
  have hb : b = b' := by rw [h5, g5, chk_sm (DotR.sm2 hp hq h4 g4)]
  subst hb
  rw [h6, h7, g6, g7]
  cases b
  · exact ⟨smK_self _ _, smK_self _ _, rfl⟩
  · exact ⟨hp, hq, rfl⟩
theorem ThenR.sm {x y u v r i r' i' : Nat} (h : ThenR x y u v r i) (g : ThenR x y u v r' i') : smK .f64 r r' = true ∧ smK .f64 i i' = true := by
  obtain ⟨p, q, c, d, h1, h2, h3, h4, h5, h6⟩ := h
  obtain ⟨p', q', c', d', g1, g2, g3, g4, g5, g6⟩ := g
  have S := smK_self .f64
  exact ⟨res_congr (res_congr (S _) (S _) h1 g1) (res_congr (S _) (S _) h2 g2) h5 g5, res_congr (res_congr (S _) (S _) h3 g3) (res_congr (S _) (S _) h4 g4) h6 g6⟩
theorem ByR.sm {t s s' x y x' y' : Nat} (hs : smK .f64 s s' = true) (h : ByR t s x y) (g : ByR t s' x' y') : smK .f64 x x' = true ∧ smK .f64 y y' = true := by
  obtain ⟨d, c, k, h1, h2, h3, h4, h5⟩ := h
  obtain ⟨d', c', k', g1, g2, g3, g4, g5⟩ := g
  have S := smK_self .f64
  have e1 := res_congr (S _) hs h1 g1
  exact ⟨res_congr (res_congr (S _) hs h2 g2) e1 h4 g4, res_congr (res_congr (S _) (S _) h3 g3) e1 h5 g5⟩
theorem TByR.sm {t x y x' y' : Nat} (h : TByR t x y) (g : TByR t x' y') : smK .f64 x x' = true ∧ smK .f64 y y' = true := by
  obtain ⟨s, h1, h2⟩ := h
  obtain ⟨s', g1, g2⟩ := g
  have S := smK_self .f64
  have hs := res_congr (S _) (S _) h1 g1
  rw [ltK_sm hs] at h2
  cases e : ltK .f64 9218868437227405311 s' <;> rw [e] at h2 g2
  · simp only [Bool.false_eq_true, if_false] at h2 g2
    exact ByR.sm hs h2 g2
  · simp only [if_true] at h2 g2
    rw [h2.1, h2.2, g2.1, g2.2]
    exact ⟨S _, S _⟩
theorem then_apply {x y u v r i : Nat} (h : ThenR x y u v r i) : ApplyR x y u v r i := by
  obtain ⟨p, q, c, d, h1, h2, h3, h4, h5, h6⟩ := h
  exact ⟨p, q, d, c, h1, h2, h4, h3, h5, res_add_comm h6⟩
theorem apply_then {x y u v r i : Nat} (h : ApplyR x y u v r i) : ThenR x y u v r i := by
  obtain ⟨p, q, c, d, h1, h2, h3, h4, h5, h6⟩ := h
  exact ⟨p, q, d, c, h1, h2, h4, h3, h5, res_add_comm h6⟩
theorem res_sub_add {x y r : Nat} (oy : okK .f64 y) (h : resK .sub .f64 x y r) : resK .add .f64 x (Op.negFloat .f64 y) r := by
  unfold resK at *; rwa [← sub_is_add _ _ _ oy]
theorem mul_neg_sm {x y r r' : Nat} (ox : okK .f64 x) (h : resK .mul .f64 (Op.negFloat .f64 x) y r) (g : resK .mul .f64 x y r') : smK .f64 r (Op.negFloat .f64 r') = true := by
  have e := mul_neg_l .f64 x y ox
  rcases g.2 with g1 | ⟨g1, g2⟩
  · rw [g1] at e
    rw [res_is h e]
    exact smK_self _ _
  · rw [g1] at e
    exact smK_nans (res_nan h e) (by rw [neg_nan _ _ g.1]; exact g2)
theorem undo_sm {x y u v r i r' i' : Nat} (oy : okK .f64 y) (h : ThenR x (Op.negFloat .f64 y) u v r i) (g : UndoR x y u v r' i') : smK .f64 r r' = true ∧ smK .f64 i i' = true := by
  obtain ⟨p, q, c, d, h1, h2, h3, h4, h5, h6⟩ := h
  obtain ⟨p', q', c', d', g1, g2, g3, g4, g5, g6⟩ := g
  have S := smK_self .f64
  have m1 := mul_neg_sm oy h2 g2
  have m2 := mul_neg_sm oy h4 g4
  have m1' := neg_sm h2.1 (neg_ok g2.1) m1
  rw [neg_neg] at m1'
  exact ⟨res_congr (res_congr (S _) (S _) h1 g1) m1' (res_sub_add h2.1 h5) g5, res_congr (res_congr (S _) (S _) h3 g3) m2 h6 (res_sub_add g4.1 g6)⟩
theorem angle_sm {x y u v r i c : Nat} (oy : okK .f64 y) (h : ThenR x (Op.negFloat .f64 y) u v r i) (g : CrossR x y u v c) : smK .f64 i c = true := by
  obtain ⟨p, q, k, d, h1, h2, h3, h4, h5, h6⟩ := h
  obtain ⟨p', q', g1, g2, g3⟩ := g
  have S := smK_self .f64
  exact res_congr (res_congr (S _) (S _) h3 g1) (mul_neg_sm oy h4 g2) h6 (res_sub_add g2.1 g3)
theorem chk_fin {x y s : Nat} (h : DotR x y x y s) (c : chk s = true) : finK .f64 x = true ∧ finK .f64 y = true := by
  unfold chk at c
  rw [Bool.and_eq_true] at c
  have t := turn_num h c.1 c.2
  exact ⟨t.1, t.2.1⟩
theorem fin_bounds (x : Nat) : (leK .f64 18442240474082181119 x && leK .f64 x 9218868437227405311) = finK .f64 x := by
  unfold leK finK
  rw [show nanK .f64 18442240474082181119 = false by decide +kernel, show nanK .f64 9218868437227405311 = false by decide +kernel, show woK .f64 18442240474082181119 = -9218868437227405311 by decide +kernel, show woK .f64 9218868437227405311 = 9218868437227405311 by decide +kernel, nanK_eq, inf64, woK_eq]
  rw [Bool.eq_iff_iff]
  simp
  split <;> omega
theorem ThenR.ok {x y u v r i : Nat} (h : ThenR x y u v r i) : okK .f64 r ∧ okK .f64 i := by
  obtain ⟨p, q, c, d, h1, h2, h3, h4, h5, h6⟩ := h
  exact ⟨h5.1, h6.1⟩
theorem TUnitR.ok {x y u v : Nat} {b : Bool} (h : TUnitR x y u v b) : okK .f64 u ∧ okK .f64 v := by
  obtain ⟨n, p, q, s, h1, h2, h3, h4, h5, h6, h7⟩ := h
  rw [h6, h7]
  cases b
  · exact ⟨ok_zero, ok_zero⟩
  · exact ⟨h2.1, h3.1⟩
theorem TByR.ok {t x y : Nat} (h : TByR t x y) : okK .f64 x ∧ okK .f64 y := by
  obtain ⟨s, h1, h2⟩ := h
  cases e : ltK .f64 9218868437227405311 s <;> rw [e] at h2
  · simp only [Bool.false_eq_true, if_false] at h2
    obtain ⟨d, c, k, h1, h2, h3, h4, h5⟩ := h2
    exact ⟨h4.1, h5.1⟩
  · simp only [if_true] at h2
    rw [h2.1, h2.2]
    exact ⟨by rw [okK64]; omega, ok_zero⟩

/-! ### The chapter's examples, worked out -/
theorem tunit_ex {x y : Nat} {b : Bool} (h : TUnitR 4613937818241073152 4616189618054758400 x y b) : x = 4603579539098121011 ∧ y = 4605380978949069210 ∧ b = true := by
  obtain ⟨n, p, q, s, h1, h2, h3, ⟨k, l, h4, h5, h6⟩, h7, h8, h9⟩ := h
  rw [length_ex h1] at h2 h3
  have e1 := res_is h2 (v := 4603579539098121011) (by decide +kernel)
  have e2 := res_is h3 (v := 4605380978949069210) (by decide +kernel)
  subst e1 e2
  rw [res_is h4 (v := 4600156803381319434) (by decide +kernel), res_is h5 (v := 4603939827068310652) (by decide +kernel)] at h6
  rw [res_is h6 (v := 4607182418800017408) (by decide +kernel), show chk 4607182418800017408 = true by decide +kernel] at h7
  subst h7
  exact ⟨h8, h9, rfl⟩
theorem tunit_none {x y : Nat} {b : Bool} (h : TUnitR 0 0 x y b) : x = 0 ∧ y = 0 ∧ b = false := by
  obtain ⟨n, p, q, s, h1, h2, h3, ⟨k, l, h4, h5, h6⟩, h7, h8, h9⟩ := h
  rw [length_no h1] at h2 h3
  have n1 : nanK .f64 p = true := res_nan h2 (by decide +kernel)
  have n2 : nanK .f64 k = true := by
    have := res_congr (smK_nans n1 (show nanK .f64 9221120237041090561 = true by decide +kernel)) (smK_nans n1 (show nanK .f64 9221120237041090561 = true by decide +kernel)) h4 (show resK .mul .f64 9221120237041090561 9221120237041090561 9221120237041090561 from ⟨by rw [okK64]; omega, .inr ⟨by decide +kernel, by decide +kernel⟩⟩)
    rcases smK_cases this with e | e
    · rw [e]; decide +kernel
    · exact e.1
  have n3 : nanK .f64 s = true := by
    rcases h6.2 with e | e
    · exfalso
      have : floatBits .add .f64 k l = none := by
        show FloatKind.f64.format.add k l = none
        unfold Format.add
        rw [read_nan _ (okF .f64) k n2]
        cases FloatKind.f64.format.read l <;> rfl
      rw [this] at e; cases e
    · exact e.2
  have hb : chk s = false := by unfold chk leK; rw [n3]; simp
  rw [hb] at h7
  subst h7
  exact ⟨h8, h9, rfl⟩
theorem tby_ex {x y : Nat} (h : TByR 4602678819172646912 x y) : x = 4603579539098121011 ∧ y = 4605380978949069210 := by
  obtain ⟨s, h1, h2⟩ := h
  rw [res_is h1 (v := 4598175219545276416) (by decide +kernel), show ltK .f64 9218868437227405311 4598175219545276416 = false by decide +kernel] at h2
  simp only [Bool.false_eq_true, if_false] at h2
  obtain ⟨d, c, k, g1, g2, g3, g4, g5⟩ := h2
  rw [res_is g2 (v := 4604930618986332160) (by decide +kernel), res_is g1 (v := 4608308318706860032) (by decide +kernel)] at g4
  rw [res_is g3 (v := 4607182418800017408) (by decide +kernel), res_is g1 (v := 4608308318706860032) (by decide +kernel)] at g5
  exact ⟨res_is g4 (by decide +kernel), res_is g5 (by decide +kernel)⟩
theorem check_ex {s : Nat} (h : DotR 4607182418800017408 4562254508917369340 4607182418800017408 4562254508917369340 s) : chk s = false := by
  obtain ⟨p, q, h1, h2, h3⟩ := h
  rw [res_is h1 (v := 4607182418800017408) (by decide +kernel), res_is h2 (v := 4517329193108106637) (by decide +kernel)] at h3
  rw [res_is h3 (v := 4607182423303617035) (by decide +kernel)]
  decide +kernel
theorem apply_ex {r i : Nat} (h : ThenR 0 4607182418800017408 4607182418800017408 4611686018427387904 r i) : r = 13835058055282163712 ∧ i = 4607182418800017408 := by
  obtain ⟨p, q, c, d, h1, h2, h3, h4, h5, h6⟩ := h
  rw [res_is h1 (v := 0) (by decide +kernel), res_is h2 (v := 4611686018427387904) (by decide +kernel)] at h5
  rw [res_is h3 (v := 0) (by decide +kernel), res_is h4 (v := 4607182418800017408) (by decide +kernel)] at h6
  exact ⟨res_is h5 (by decide +kernel), res_is h6 (by decide +kernel)⟩
theorem ord_ex : ordT 0 4607182418800017408 13830554455654793216 0 = -1 := by decide +kernel
end Go.Proofs.Ytoljkokcgmigeaa
namespace Go.Proofs.Ytoljkokcgmigeaa
open Ieee Go.RowKit
set_option linter.unusedSimpArgs false
set_option linter.unusedVariables false

/-! ### Turns stay turns -/
theorem leK_trans {a b c : Nat} (h : leK .f64 a b = true) (g : leK .f64 b c = true) : leK .f64 a c = true := by
  unfold leK at *
  simp only [Bool.and_eq_true, Bool.not_eq_true', decide_eq_true_eq] at *
  exact ⟨⟨h.1.1, g.1.2⟩, Int.le_trans h.2 g.2⟩
theorem not_lt_of_le {a b : Nat} (h : leK .f64 a b = true) : ltK .f64 b a = false := by
  unfold leK at h
  unfold ltK
  simp only [Bool.and_eq_true, Bool.not_eq_true', decide_eq_true_eq] at h
  rw [h.1.1, h.1.2]
  simpa using h.2
theorem lt_le_lt {a b c : Nat} (h : ltK .f64 a b = true) (g : leK .f64 b c = true) : ltK .f64 a c = true := by
  unfold leK at g
  unfold ltK at *
  simp only [Bool.and_eq_true, Bool.not_eq_true', decide_eq_true_eq] at *
  exact ⟨⟨h.1.1, g.1.2⟩, Int.lt_of_lt_of_le h.2 g.2⟩
theorem turn_unit {x y u v s : Nat} {b : Bool} (h : DotR x y x y s) (c : chk s = true) (g : TUnitR x y u v b) : b = true := by
  obtain ⟨n, p, q, k, g1, g2, g3, g4, g5, g6, g7⟩ := g
  unfold chk at c
  rw [Bool.and_eq_true] at c
  obtain ⟨c1, c2⟩ := c
  have U : UnitR x y (if (ltK .f64 0 n && finK .f64 n) then p else 0) (if (ltK .f64 0 n && finK .f64 n) then q else 0) (ltK .f64 0 n && finK .f64 n) := by
    refine ⟨n, g1, rfl, ?_⟩
    cases ltK .f64 0 n && finK .f64 n
    · exact ⟨rfl, rfl⟩
    · exact ⟨g2, g3⟩
  have ok := unit_ok h U
  rw [lt_le_lt (show ltK .f64 0 lo40 = true by decide +kernel) c1, leK_trans c2 (show leK .f64 hi40 9218868437227405311 = true by decide +kernel)] at ok
  rw [ok] at U
  have m := unit_long U h (not_lt_of_le (leK_trans (show leK .f64 553942754166571008 lo40 = true by decide +kernel) c1)) g4
  rw [g5]
  unfold chk
  rw [leK_trans (show leK .f64 lo40 4607182418800017376 = true by decide +kernel) m.1, leK_trans m.2 (show leK .f64 4607182418800017424 hi40 = true by decide +kernel)]
  rfl
theorem unit_chk {x y u v s : Nat} (g : TUnitR x y u v true) (h : DotR u v u v s) : chk s = true := by
  obtain ⟨n, p, q, k, g1, g2, g3, g4, g5, g6, g7⟩ := g
  simp only [if_true] at g6 g7
  subst g6 g7
  rw [g5, chk_sm (h.sm g4)]
theorem tunit_no {x y u v : Nat} (g : TUnitR x y u v false) : u = 0 ∧ v = 0 := by
  obtain ⟨n, p, q, k, g1, g2, g3, g4, g5, g6, g7⟩ := g
  exact ⟨g6, g7⟩
theorem back_chk {x y s t : Nat} (oy : okK .f64 y) (h : DotR x y x y s) (g : DotR x (Op.negFloat .f64 y) x (Op.negFloat .f64 y) t) : chk t = chk s := by
  obtain ⟨p, q, g1, g2, g3⟩ := g
  exact chk_sm (DotR.sm ⟨p, q, g1, res_neg_neg oy g2, g3⟩ h)
theorem inf_words {t : Nat} (o : okK .f64 t) (h : rgK .f64 t = 9218868437227405312) : t = 9218868437227405312 ∨ t = 18442240474082181120 := by
  rw [okK64] at o
  rw [rg64] at h
  omega
theorem by_chk {t x y k : Nat} (o : okK .f64 t) (n : nanK .f64 t = false) (h : TByR t x y) (hk : DotR x y x y k) : chk k = true := by
  obtain ⟨s, h1, h2⟩ := h
  cases e : ltK .f64 9218868437227405311 s <;> rw [e] at h2
  · simp only [Bool.false_eq_true, if_false] at h2
    have ft : finK .f64 t = true := by
      cases f : finK .f64 t
      · have r := fin_inf f n
        rw [inf64] at r
        exfalso
        have : s = 9218868437227405312 := by
          rcases inf_words o r with rfl | rfl
          · exact res_is h1 (by decide +kernel)
          · exact res_is h1 (by decide +kernel)
        rw [this] at e
        exact absurd e (by decide +kernel)
      · rfl
    have ns : nanK .f64 s = false := by
      have e1 := res_is h1 (mul_spec t t ft ft)
      rw [e1]
      exact nan_word _ _ _ (Nat.min_le_right _ _)
    have sg := mul_self_sign h1 ns
    have fs : finK .f64 s = true := by
      rw [← le_most s sg ns]
      unfold ltK at e
      unfold leK
      have hM : nanK .f64 9218868437227405311 = false := by decide +kernel
      rw [ns, hM] at e
      rw [ns, hM]
      simpa using e
    obtain ⟨_, _, b1, b2⟩ := by_long ft h1 fs h2 hk
    unfold chk
    rw [b1, b2]; rfl
  · simp only [if_true] at h2
    obtain ⟨rfl, rfl⟩ := h2
    obtain ⟨p, q, k1, k2, k3⟩ := hk
    rw [res_is k1 (v := 4607182418800017408) (by decide +kernel), res_is k2 (v := 0) (by decide +kernel)] at k3
    rw [res_is k3 (v := 4607182418800017408) (by decide +kernel)]
    decide +kernel
theorem then_chk {x y u v r i s t k : Nat} (hx : DotR x y x y s) (c1 : chk s = true) (hu : DotR u v u v t) (c2 : chk t = true) (h : ThenR x y u v r i) (hk : DotR r i r i k) : leK .f64 lo38 k = true ∧ leK .f64 k hi38 = true := by
  unfold chk at c1 c2
  rw [Bool.and_eq_true] at c1 c2
  exact then_long hx c1.1 c1.2 hu c2.1 c2.2 h hk

/-! ### Quarters: parts are exchanged, nothing is rounded -/
theorem sv_word (s : Bool) {r : Nat} (h : r < infK .f64) : finK .f64 (FloatKind.f64.format.word s r) = true ∧ svK .f64 (FloatKind.f64.format.word s r) = if s then -(vl FloatKind.f64.format r : Int) else (vl FloatKind.f64.format r : Int) := by
  have h' := Nat.le_of_lt h
  refine ⟨by unfold finK; rw [rgK_word _ _ _ h']; exact decide_eq_true h, by unfold svK; rw [ngK_word _ _ _ h', rgK_word _ _ _ h']⟩
theorem mul_unit {a u p : Nat} (fa : finK .f64 a = true) (fu : finK .f64 u = true) (hu : vl FloatKind.f64.format (rgK .f64 u) = 2 ^ 1074) (h : resK .mul .f64 a u p) : finK .f64 p = true ∧ svK .f64 p = if ngK .f64 u then -svK .f64 a else svK .f64 a := by
  have e := mul_spec a u fa fu
  rw [hu] at e
  obtain ⟨t, ht⟩ : ∃ t : Nat, t = 1074 := ⟨_, rfl⟩
  rw [← ht, rr_exact _ fb1] at e
  have ha : rgK .f64 a < infK .f64 := of_decide_eq_true fa
  rw [Nat.min_eq_left (Nat.le_of_lt ha)] at e
  have e2 := res_is h e
  obtain ⟨k1, k2⟩ := sv_word (ngK .f64 a ^^ ngK .f64 u) ha
  rw [← e2] at k1 k2
  refine ⟨k1, ?_⟩
  rw [k2]; unfold svK
  cases ngK .f64 a <;> cases ngK .f64 u <;> simp
theorem vl_nought : vl FloatKind.f64.format 0 = 0 := by decide +kernel
theorem mul_nought {a u p : Nat} (fa : finK .f64 a = true) (hu : rgK .f64 u = 0) (h : resK .mul .f64 a u p) : finK .f64 p = true ∧ svK .f64 p = 0 := by
  have fu : finK .f64 u = true := by unfold finK; rw [hu, inf64]; rfl
  have e := mul_spec a u fa fu
  rw [hu, vl_nought, Nat.mul_zero, rr_zero, Nat.zero_min] at e
  have e2 := res_is h e
  obtain ⟨k1, k2⟩ := sv_word (ngK .f64 a ^^ ngK .f64 u) (show 0 < infK .f64 by rw [inf64]; decide)
  rw [← e2] at k1 k2
  refine ⟨k1, ?_⟩
  rw [k2, vl_nought]; simp
theorem sv_abs (c : Nat) : (svK .f64 c).natAbs = vl FloatKind.f64.format (rgK .f64 c) := by unfold svK; split <;> simp
theorem add_exact {p q r c : Nat} (fp : finK .f64 p = true) (fq : finK .f64 q = true) (fc : finK .f64 c = true) (h : resK .add .f64 p q r) (e : svK .f64 p + svK .f64 q = svK .f64 c) : finK .f64 r = true ∧ svK .f64 r = svK .f64 c := by
  have k := add_spec .f64 p q fp fq
  rw [e, sv_abs] at k
  have re := rr_exact FloatKind.f64.format fb1 (rgK .f64 c) 0
  rw [Nat.pow_zero, Nat.mul_one] at re
  have hc : rgK .f64 c < infK .f64 := of_decide_eq_true fc
  rw [re, Nat.min_eq_left (Nat.le_of_lt hc)] at k
  have e2 := res_is h k
  obtain ⟨k1, k2⟩ := sv_word (if svK .f64 c = 0 then ngK .f64 p && ngK .f64 q else decide (svK .f64 c < 0)) hc
  rw [← e2] at k1 k2
  refine ⟨k1, ?_⟩
  rw [k2, ← sv_abs]
  by_cases z : svK .f64 c = 0
  · rw [z]; simp
  · rw [if_neg z]
    by_cases l : svK .f64 c < 0
    · rw [if_pos (decide_eq_true l)]; omega
    · rw [if_neg (by simpa using l)]; omega
theorem sub_exact {p q r c : Nat} (oq : okK .f64 q) (fp : finK .f64 p = true) (fq : finK .f64 q = true) (fc : finK .f64 c = true) (h : resK .sub .f64 p q r) (e : svK .f64 p - svK .f64 q = svK .f64 c) : finK .f64 r = true ∧ svK .f64 r = svK .f64 c :=
  add_exact fp (by rw [fin_neg _ oq]; exact fq) fc (res_sub_add oq h) (by rw [sv_neg _ oq]; omega)
theorem sv_eq {a b : Nat} (fa : finK .f64 a = true) (fb : finK .f64 b = true) (h : svK .f64 a = svK .f64 b) : eqK .f64 a b = true := by
  have m : rgK .f64 a = rgK .f64 b := by
    have e : (svK .f64 a).natAbs = (svK .f64 b).natAbs := by rw [h]
    have m1 := (mg_rg (a := a) (b := b)).1 (by unfold mg; rw [sv_abs, sv_abs] at e; omega)
    have m2 := (mg_rg (a := b) (b := a)).1 (by unfold mg; rw [sv_abs, sv_abs] at e; omega)
    omega
  unfold eqK
  rw [fin_num fa, fin_num fb, woK_eq, woK_eq, m]
  unfold svK at h
  rw [m] at h
  by_cases z : rgK .f64 b = 0
  · rw [z]; simp
  · have v0 : vl FloatKind.f64.format (rgK .f64 b) ≠ 0 := fun g => z (mg_zero.1 g)
    generalize vl FloatKind.f64.format (rgK .f64 b) = V at *
    cases h1 : ngK .f64 a <;> cases h2 : ngK .f64 b <;> simp [h1, h2] at h ⊢ <;> omega
def isU (u : Nat) (U : Int) : Prop := (rgK .f64 u = 0 ∧ U = 0) ∨ (finK .f64 u = true ∧ vl FloatKind.f64.format (rgK .f64 u) = 2 ^ 1074 ∧ U = if ngK .f64 u then -1 else 1)
theorem mulU {a u p : Nat} {U : Int} (fa : finK .f64 a = true) (hu : isU u U) (h : resK .mul .f64 a u p) : finK .f64 p = true ∧ svK .f64 p = svK .f64 a * U := by
  rcases hu with ⟨z, rfl⟩ | ⟨fu, e, rfl⟩
  · have := mul_nought fa z h
    rwa [Int.mul_zero]
  · have := mul_unit fa fu e h
    refine ⟨this.1, ?_⟩
    rw [this.2]
    cases ngK .f64 u <;> simp
theorem thenU {a b u v r i c d : Nat} {U V : Int} (fa : finK .f64 a = true) (fb : finK .f64 b = true) (hu : isU u U) (hv : isU v V) (fc : finK .f64 c = true) (fd : finK .f64 d = true) (ec : svK .f64 a * U - svK .f64 b * V = svK .f64 c) (ed : svK .f64 a * V + svK .f64 b * U = svK .f64 d) (h : ThenR a b u v r i) :
    finK .f64 r = true ∧ finK .f64 i = true ∧ svK .f64 r = svK .f64 c ∧ svK .f64 i = svK .f64 d := by
  obtain ⟨p, q, k, l, h1, h2, h3, h4, h5, h6⟩ := h
  obtain ⟨f1, e1⟩ := mulU fa hu h1
  obtain ⟨f2, e2⟩ := mulU fb hv h2
  obtain ⟨f3, e3⟩ := mulU fa hv h3
  obtain ⟨f4, e4⟩ := mulU fb hu h4
  obtain ⟨g1, g2⟩ := sub_exact h2.1 f1 f2 fc h5 (by rw [e1, e2, ec])
  obtain ⟨g3, g4⟩ := add_exact f3 f4 fd h6 (by rw [e3, e4, ed])
  exact ⟨g1, g3, g2, g4⟩
theorem u_nought : isU 0 0 := .inl ⟨nought_rg _, rfl⟩
theorem u_minus0 : isU 9223372036854775808 0 := .inl ⟨by decide +kernel, rfl⟩
theorem u_one : isU 4607182418800017408 1 := .inr ⟨by decide +kernel, by decide +kernel, by decide +kernel⟩
theorem u_minus : isU 13830554455654793216 (-1) := .inr ⟨by decide +kernel, by decide +kernel, by decide +kernel⟩
theorem stepQ {a b r i : Nat} {X Y : Int} (ob : okK .f64 b) (fa : finK .f64 a = true) (fb : finK .f64 b = true) (ha : svK .f64 a = X) (hb : svK .f64 b = Y) (h : ThenR a b 0 4607182418800017408 r i) : finK .f64 r = true ∧ finK .f64 i = true ∧ svK .f64 r = -Y ∧ svK .f64 i = X := by
  have t := thenU (c := Op.negFloat .f64 b) (d := a) fa fb u_nought u_one (by rw [fin_neg _ ob]; exact fb) fa (by rw [sv_neg _ ob]; omega) (by omega) h
  rw [sv_neg _ ob, ha, hb] at t
  exact t
theorem stepN {a b r i : Nat} {X Y : Int} (oa : okK .f64 a) (ob : okK .f64 b) (fa : finK .f64 a = true) (fb : finK .f64 b = true) (ha : svK .f64 a = X) (hb : svK .f64 b = Y) (h : ThenR a b 13830554455654793216 0 r i) : finK .f64 r = true ∧ finK .f64 i = true ∧ svK .f64 r = -X ∧ svK .f64 i = -Y := by
  have t := thenU (c := Op.negFloat .f64 a) (d := Op.negFloat .f64 b) fa fb u_minus u_nought (by rw [fin_neg _ oa]; exact fa) (by rw [fin_neg _ ob]; exact fb) (by rw [sv_neg _ oa]; omega) (by rw [sv_neg _ ob]; omega) h
  rw [sv_neg _ ob, sv_neg _ oa, ha, hb] at t
  exact t
theorem stepT {a b r i : Nat} {X Y : Int} (oa : okK .f64 a) (fa : finK .f64 a = true) (fb : finK .f64 b = true) (ha : svK .f64 a = X) (hb : svK .f64 b = Y) (h : ThenR a b 9223372036854775808 13830554455654793216 r i) : finK .f64 r = true ∧ finK .f64 i = true ∧ svK .f64 r = Y ∧ svK .f64 i = -X := by
  have t := thenU (c := b) (d := Op.negFloat .f64 a) fa fb u_minus0 u_minus fb (by rw [fin_neg _ oa]; exact fa) (by omega) (by rw [sv_neg _ oa]; omega) h
  rw [sv_neg _ oa, ha, hb] at t
  exact t
theorem stepO {a b r i : Nat} {X Y : Int} (fa : finK .f64 a = true) (fb : finK .f64 b = true) (ha : svK .f64 a = X) (hb : svK .f64 b = Y) (h : ThenR a b 4607182418800017408 0 r i) : finK .f64 r = true ∧ finK .f64 i = true ∧ svK .f64 r = X ∧ svK .f64 i = Y := by
  have t := thenU (c := a) (d := b) fa fb u_one u_nought fa fb (by omega) (by omega) h
  rw [ha, hb] at t
  exact t
theorem then_comm {a b u v r i : Nat} (h : ThenR a b u v r i) : ThenR u v a b r i := by
  obtain ⟨p, q, k, l, h1, h2, h3, h4, h5, h6⟩ := h
  exact ⟨p, q, l, k, res_mul_comm h1, res_mul_comm h2, res_mul_comm h4, res_mul_comm h3, h5, res_add_comm h6⟩
theorem then_ii {r i : Nat} (h : ThenR 0 4607182418800017408 0 4607182418800017408 r i) : r = 13830554455654793216 ∧ i = 0 := by
  obtain ⟨p, q, c, d, h1, h2, h3, h4, h5, h6⟩ := h
  rw [res_is h1 (v := 0) (by decide +kernel), res_is h2 (v := 4607182418800017408) (by decide +kernel)] at h5
  rw [res_is h3 (v := 0) (by decide +kernel), res_is h4 (v := 0) (by decide +kernel)] at h6
  exact ⟨res_is h5 (by decide +kernel), res_is h6 (by decide +kernel)⟩
theorem then_iii {r i : Nat} (h : ThenR 0 4607182418800017408 13830554455654793216 0 r i) : r = 9223372036854775808 ∧ i = 13830554455654793216 := by
  obtain ⟨p, q, c, d, h1, h2, h3, h4, h5, h6⟩ := h
  rw [res_is h1 (v := 9223372036854775808) (by decide +kernel), res_is h2 (v := 0) (by decide +kernel)] at h5
  rw [res_is h3 (v := 0) (by decide +kernel), res_is h4 (v := 13830554455654793216) (by decide +kernel)] at h6
  exact ⟨res_is h5 (by decide +kernel), res_is h6 (by decide +kernel)⟩
theorem sv_eq_neg {a b : Nat} {X : Int} (ob : okK .f64 b) (fa : finK .f64 a = true) (fb : finK .f64 b = true) (ha : svK .f64 a = -X) (hb : svK .f64 b = X) : eqK .f64 a (Op.negFloat .f64 b) = true :=
  sv_eq fa (by rw [fin_neg _ ob]; exact fb) (by rw [sv_neg _ ob, ha, hb])
theorem within_fin {x m : Nat} (h : leK .f64 (rgK .f64 x) m = true) (fm : finK .f64 m = true) (nm : ngK .f64 m = false) : finK .f64 x = true := by
  have hr : rgK .f64 (rgK .f64 x) = rgK .f64 x := by rw [rg64, rg64]; omega
  have hn : ngK .f64 (rgK .f64 x) = false := by rw [ng64, rg64, beq_eq_false_iff_ne]; omega
  have := (fin_of_le fm hn nm h).1
  unfold finK at *
  rwa [hr] at this
end Go.Proofs.Ytoljkokcgmigeaa
namespace Go.Proofs.Ytoljkokcgmigeaa
open Ieee Go.RowKit
set_option linter.unusedSimpArgs false
set_option linter.unusedVariables false

/-! ### What is turned is turned back -/
theorem res_mul_neg {y v q : Nat} (oy : okK .f64 y) (h : resK .mul .f64 (Op.negFloat .f64 y) v q) : resK .mul .f64 y v (Op.negFloat .f64 q) := by
  refine ⟨neg_ok h.1, ?_⟩
  have e := mul_neg_l .f64 y v oy
  cases g : floatBits .mul .f64 y v with
  | none =>
    rw [g] at e
    exact .inr ⟨rfl, by rw [neg_nan _ _ h.1]; exact res_nan h e⟩
  | some z =>
    rw [g] at e
    rw [res_is h e, neg_neg]
    exact .inl rfl
theorem res_add_sub {x y r : Nat} (oy : okK .f64 y) (h : resK .add .f64 x y r) : resK .sub .f64 x (Op.negFloat .f64 y) r := by
  unfold resK at *
  rwa [sub_is_add _ _ _ (neg_ok oy), neg_neg]
theorem then_undo {x y u v r i : Nat} (oy : okK .f64 y) (h : ThenR x (Op.negFloat .f64 y) u v r i) : UndoR x y u v r i := by
  obtain ⟨p, q, c, d, h1, h2, h3, h4, h5, h6⟩ := h
  exact ⟨p, _, c, _, h1, res_mul_neg oy h2, h3, res_mul_neg oy h4, res_sub_add h2.1 h5, res_add_sub h4.1 h6⟩
theorem then_cross {x y u v r i : Nat} (oy : okK .f64 y) (h : ThenR x (Op.negFloat .f64 y) u v r i) : CrossR x y u v i := by
  obtain ⟨p, q, c, d, h1, h2, h3, h4, h5, h6⟩ := h
  exact ⟨c, _, h3, res_mul_neg oy h4, res_add_sub h4.1 h6⟩
theorem cross_fin {x y u v c : Nat} (fx : finK .f64 x = true) (fy : finK .f64 y = true) (fu : finK .f64 u = true) (fv : finK .f64 v = true) (bx : ab (rv x) ≤ 2) (b_y : ab (rv y) ≤ 2) (bu : ab (rv u) ≤ 2) (bv : ab (rv v) ≤ 2) (h : CrossR x y u v c) : finK .f64 c = true := by
  obtain ⟨p, q, h1, h2, h3⟩ := h
  obtain ⟨f1, b1, _⟩ := mul_rv2 fx fv h1 bx bv (by decide +kernel) (by decide +kernel)
  obtain ⟨f2, b2, _⟩ := mul_rv2 fy fu h2 b_y bu (by decide +kernel) (by decide +kernel)
  exact (sub_rv2 h2.1 f1 f2 h3 b1 b2 (by decide +kernel)).1
theorem turn_two {x y s : Nat} (h : DotR x y x y s) (c : chk s = true) : finK .f64 x = true ∧ finK .f64 y = true ∧ ab (rv x) ≤ 2 ∧ ab (rv y) ≤ 2 := by
  unfold chk at c
  rw [Bool.and_eq_true] at c
  obtain ⟨fx, fy, _, b1, b2⟩ := turn_num h c.1 c.2
  have k : (1 : Rat) + 1 / 4 ≤ 2 := by decide +kernel
  exact ⟨fx, fy, Rat.le_trans b1 k, Rat.le_trans b2 k⟩
theorem angle_anti {x y u v s t r i r' i' : Nat} (oy : okK .f64 y) (ov : okK .f64 v) (hx : DotR x y x y s) (c1 : chk s = true) (hu : DotR u v u v t) (c2 : chk t = true) (h : ThenR x (Op.negFloat .f64 y) u v r i) (g : ThenR u (Op.negFloat .f64 v) x y r' i') : eqK .f64 i (Op.negFloat .f64 i') = true := by
  obtain ⟨fx, fy, bx, b_y⟩ := turn_two hx c1
  obtain ⟨fu, fv, bu, bv⟩ := turn_two hu c2
  have k := cross_anti (then_cross oy h) (then_cross ov g)
  rw [k.2, fin_num (cross_fin fx fy fu fv bx b_y bu bv (then_cross oy h))]
  rfl
theorem angle_self {x y s r i : Nat} (oy : okK .f64 y) (hx : DotR x y x y s) (c1 : chk s = true) (h : ThenR x (Op.negFloat .f64 y) x y r i) : eqK .f64 i 0 = true := by
  obtain ⟨fx, fy, bx, b_y⟩ := turn_two hx c1
  obtain ⟨p, q, h1, h2, h3⟩ := then_cross oy h
  obtain ⟨f1, _, _⟩ := mul_rv2 fx fy h1 bx b_y (by decide +kernel) (by decide +kernel)
  obtain ⟨f2, _, _⟩ := mul_rv2 fy fx h2 b_y bx (by decide +kernel) (by decide +kernel)
  rcases smK_cases (res_congr (smK_self _ _) (smK_self _ _) h1 (res_mul_comm h2)) with e | ⟨e, _⟩
  · subst e
    rw [res_is h3 (self_sub_bits p f1 h1.1)]
    decide +kernel
  · rw [fin_num f1] at e; cases e

/-- the word of a float without its sign -/
theorem rgw (x : Nat) : rgK .f64 (rgK .f64 x) = rgK .f64 x ∧ ngK .f64 (rgK .f64 x) = false ∧ okK .f64 (rgK .f64 x) := by
  refine ⟨by rw [rg64, rg64]; omega, by rw [ng64, rg64, beq_eq_false_iff_ne]; omega, by rw [okK64, rg64]; omega⟩
theorem rg_av (x : Nat) : av (rgK .f64 x) = av x := by unfold av mg; rw [(rgw x).1]
theorem rg_rv (x : Nat) : rv (rgK .f64 x) = av x := by rw [rv_pos (rgw x).2.1, rg_av]
theorem rg_fin (x : Nat) : finK .f64 (rgK .f64 x) = finK .f64 x := by unfold finK; rw [(rgw x).1]

/-- nought stays nought -/
theorem nought_then {x y u v A B : Nat} (fx : finK .f64 x = true) (fy : finK .f64 y = true) (hu : rgK .f64 u = 0) (hv : rgK .f64 v = 0) (h : ThenR x y u v A B) : rgK .f64 A = 0 ∧ rgK .f64 B = 0 := by
  have f0 : finK .f64 0 = true := by decide +kernel
  have s0 : svK .f64 0 = 0 := by decide +kernel
  obtain ⟨p, q, c, d, h1, h2, h3, h4, h5, h6⟩ := h
  obtain ⟨f1, e1⟩ := mul_nought fx hu h1
  obtain ⟨f2, e2⟩ := mul_nought fy hv h2
  obtain ⟨f3, e3⟩ := mul_nought fx hv h3
  obtain ⟨f4, e4⟩ := mul_nought fy hu h4
  obtain ⟨g1, g2⟩ := sub_exact h2.1 f1 f2 f0 h5 (by rw [e1, e2, s0]; rfl)
  obtain ⟨g3, g4⟩ := add_exact f3 f4 f0 h6 (by rw [e3, e4, s0]; rfl)
  have z : ∀ {a : Nat}, svK .f64 a = svK .f64 0 → rgK .f64 a = 0 := by
    intro a e
    rw [s0] at e
    have k := sv_abs a
    rw [e] at k
    exact mg_zero.1 k.symm
  exact ⟨z g2, z g4⟩
theorem nought_sub {a b d : Nat} (ob : okK .f64 b) (ha : rgK .f64 a = 0) (hb : rgK .f64 b = 0) (h : resK .sub .f64 a b d) : rgK .f64 d = 0 := by
  have f0 : finK .f64 0 = true := by decide +kernel
  have s0 : svK .f64 0 = 0 := by decide +kernel
  have z : ∀ {a : Nat}, rgK .f64 a = 0 → finK .f64 a = true ∧ svK .f64 a = 0 := by
    intro a e
    refine ⟨by unfold finK; rw [e, inf64]; rfl, ?_⟩
    have k := sv_abs a
    rw [e, vl_nought] at k
    omega
  obtain ⟨fa, ea⟩ := z ha
  obtain ⟨fb, eb⟩ := z hb
  obtain ⟨_, g⟩ := sub_exact ob fa fb f0 h (by rw [ea, eb, s0]; rfl)
  rw [s0] at g
  have k := sv_abs d
  rw [g] at k
  exact mg_zero.1 k.symm

def smallK (x : Nat) : Bool := eqK .f64 (rgK .f64 x) 0 || (leK .f64 3256102530588868608 (rgK .f64 x) && leK .f64 (rgK .f64 x) 5958262307011166208)
theorem small_num {x : Nat} (h : smallK x = true) : finK .f64 x = true ∧ (rgK .f64 x = 0 ∨ 1 / 2 ^ 300 ≤ av x) ∧ av x ≤ 2 ^ 300 := by
  unfold smallK at h
  rw [Bool.or_eq_true, Bool.and_eq_true] at h
  obtain ⟨w1, w2, w3⟩ := rgw x
  rcases h with h | ⟨h1, h2⟩
  · rw [eqK_nought, w1] at h
    have z := of_decide_eq_true h
    refine ⟨by unfold finK; rw [z, inf64]; rfl, .inl z, ?_⟩
    have : av x = av 0 := by unfold av mg; rw [z, nought_rg]
    rw [this]
    decide +kernel
  · obtain ⟨f, b⟩ := fin_of_le (by decide +kernel) w2 (by decide +kernel) h2
    rw [rg_fin] at f
    rw [rg_av] at b
    obtain ⟨_, c⟩ := av_of_le (by decide +kernel) (by decide +kernel) h1
    rw [rg_av] at c
    refine ⟨f, .inr ?_, ?_⟩
    · exact Rat.le_trans (by decide +kernel) c
    · exact Rat.le_trans b (by decide +kernel)

/-- the errors one after another -/
theorem back_last {e h M C u d m0 s most t : Rat} (he : 0 ≤ e) (he1 : e * 1048576 ≤ 1) (h0 : 0 ≤ h) (hh : h ≤ e * e * M) (hM : 0 ≤ M)
    (b : ab (C - u) ≤ 9000 * (e * M)) (hd : ns e h (C - u) d) (hs : M ≤ s) (hm : ns e h s m0) (m00 : 0 ≤ m0) (ht : t = 32768 * e) (hq : ns e h (t * m0) most) (q0 : 0 ≤ most) : ab d ≤ most := by
  unfold ns at *
  have eM : 0 ≤ e * M := Rat.mul_nonneg he hM
  have eeM : e * (e * M) * 1048576 ≤ e * M := by
    have := Rat.mul_le_mul_of_nonneg_left he1 eM
    grind
  -- d
  have d1 : ab d ≤ ab (C - u) + ab (C - u - d) := by
    have := ab_sub (C - u) (C - u - d)
    rw [show C - u - (C - u - d) = d by grind] at this
    exact this
  have hh2 : h * 1048576 ≤ e * M := by grind
  have dn := ab_nn d
  have k1 : e * ab d * 1048576 ≤ ab d := by
    have := Rat.mul_le_mul_of_nonneg_left he1 dn
    grind
  have d2 : ab d ≤ 9002 * (e * M) := by grind
  -- m0
  rw [ab_pos m00] at hm
  obtain ⟨m1, _⟩ := ab_two hm
  have k2 : e * m0 * 1048576 ≤ m0 := by
    have := Rat.mul_le_mul_of_nonneg_left he1 m00
    grind
  have k3 : e * M * 1048576 ≤ M := by
    have := Rat.mul_le_mul_of_nonneg_left he1 hM
    grind
  have m2 : M ≤ 2 * m0 := by grind
  -- most
  rw [ab_pos q0] at hq
  obtain ⟨q1, _⟩ := ab_two hq
  have k4 : e * most * 1048576 ≤ most := by
    have := Rat.mul_le_mul_of_nonneg_left he1 q0
    grind
  have k5 : e * M ≤ 2 * (e * m0) := by
    have := Rat.mul_le_mul_of_nonneg_left m2 he
    grind
  subst ht
  grind
theorem mostOf {u v M : Rat} (h : M = if u ≤ v then v else u) (hu : 0 ≤ u) (hv : 0 ≤ v) : u ≤ M ∧ v ≤ M ∧ M ≤ u + v ∧ (M = u ∨ M = v) := by
  subst h
  split
  · exact ⟨by assumption, by grind, by grind, .inr rfl⟩
  · exact ⟨by grind, by grind, by grind, .inl rfl⟩
theorem le_not_lt {d m : Nat} (fd : finK .f64 d = true) (fm : finK .f64 m = true) (nm : ngK .f64 m = false) (h : av d ≤ av m) : ltK .f64 m (rgK .f64 d) = false := by
  refine not_lt_of_le (le_of_av (rgw d).2.1 nm (by rw [rg_fin]; exact fd) fm ?_)
  rw [rg_av]; exact h
theorem sign_add {a b r : Nat} (fa : finK .f64 a = true) (fb : finK .f64 b = true) (na : ngK .f64 a = false) (nb : ngK .f64 b = false) (h : resK .add .f64 a b r) : ngK .f64 r = false := by
  have e := res_is h (add_spec .f64 a b fa fb)
  rw [e, ngK_word _ _ _ (Nat.min_le_right _ _), na, nb]
  have h1 : 0 ≤ svK .f64 a := by unfold svK; rw [na]; simp
  have h2 : 0 ≤ svK .f64 b := by unfold svK; rw [nb]; simp
  split
  · rfl
  · exact decide_eq_false (by omega)
theorem sign_mul {a b r : Nat} (fa : finK .f64 a = true) (fb : finK .f64 b = true) (na : ngK .f64 a = false) (nb : ngK .f64 b = false) (h : resK .mul .f64 a b r) : ngK .f64 r = false := by
  have e := res_is h (mul_spec a b fa fb)
  rw [e, ngK_word _ _ _ (Nat.min_le_right _ _), na, nb]
  rfl
def tenW : Nat := 4436045632959938560
theorem tenW_fin : finK .f64 tenW = true := by decide +kernel
theorem tenW_ng : ngK .f64 tenW = false := by decide +kernel
theorem tenW_rv : rv tenW = 32768 * epR := by decide +kernel
theorem M_low {M : Rat} (h : 1 / 2 ^ 300 ≤ M) : etR ≤ epR * epR * M ∧ etR ≤ epR * M := by
  have e0 : 0 ≤ epR := by decide +kernel
  have k : etR ≤ epR * epR * (1 / 2 ^ 300) := by decide +kernel
  have k2 : etR ≤ epR * (1 / 2 ^ 300) := by decide +kernel
  exact ⟨Rat.le_trans k (rmul h (Rat.mul_nonneg e0 e0)), Rat.le_trans k2 (rmul h e0)⟩
theorem M_high {M : Rat} (h : M ≤ 2 ^ 300) : M * 4096 + 2 ≤ 2 ^ 1000 ∧ (M * 65536) * 2 + 2 ≤ 2 ^ 1000 := by
  have k : (2 : Rat) ^ 300 * 4096 + 2 ≤ 2 ^ 1000 := by decide +kernel
  have k2 : ((2 : Rat) ^ 300 * 65536) * 2 + 2 ≤ 2 ^ 1000 := by decide +kernel
  generalize (2 : Rat) ^ 300 = H at *
  generalize (2 : Rat) ^ 1000 = K at *
  exact ⟨by grind, by grind⟩
/-- one part: it is back up to the bound, all rounded -/
theorem part_back {C u d m0 most s0 s1 : Nat} {M : Rat} (ou : okK .f64 u) (fC : finK .f64 C = true) (fu : finK .f64 u = true) (hM1 : 1 / 2 ^ 300 ≤ M) (hM2 : M ≤ 2 ^ 300) (bu : av u ≤ M) (b : ab (rv C - rv u) ≤ 9000 * (epR * M))
    (f0 : finK .f64 s0 = true) (f1 : finK .f64 s1 = true) (n0 : ngK .f64 s0 = false) (n1 : ngK .f64 s1 = false) (b0 : av s0 ≤ M) (b1 : av s1 ≤ M) (hs : M ≤ av s0 + av s1) (hm : resK .add .f64 s0 s1 m0) (hq : resK .mul .f64 tenW m0 most) (hd : resK .sub .f64 C u d) :
    ltK .f64 most (rgK .f64 d) = false := by
  have e0 : 0 ≤ epR := by decide +kernel
  have M0 : 0 ≤ M := Rat.le_trans (by decide +kernel) hM1
  obtain ⟨k1, k2⟩ := M_low hM1
  obtain ⟨k3, k4⟩ := M_high hM2
  have eM : 9000 * (epR * M) ≤ M := by
    have q : epR * 9000 ≤ 1 := by decide +kernel
    have := Rat.mul_le_mul_of_nonneg_left q M0
    generalize epR = e at *
    grind
  have bC : av C ≤ 2 * M := by
    have t1 := ab_add (rv C - rv u) (rv u)
    rw [show rv C - rv u + rv u = rv C by grind, ab_rv, ab_rv] at t1
    generalize epR = e at *
    grind
  have fd : finK .f64 d = true := sub_small2 ou fC fu hd (B := M * 65536) k4 (by generalize epR = e at *; grind)
  have nd := sub_rv ou fC fu fd hd
  have fm : finK .f64 m0 = true := add_small2 f0 f1 hm (B := M * 65536) k4 (by grind)
  have nm := add_rv f0 f1 fm hm
  have sm := sign_add f0 f1 n0 n1 hm
  have bm : av m0 ≤ 4 * M := by
    have t := nm
    unfold nrS at t
    rw [rv_pos n0, rv_pos n1, rv_pos sm, ab_pos (av_nn m0)] at t
    have t2 := (ab_two t).2
    have q : epR * 16 ≤ 1 := by decide +kernel
    have q1 := Rat.mul_le_mul_of_nonneg_left q (av_nn m0)
    have q2 := Rat.mul_le_mul_of_nonneg_left q M0
    have a0 := av_nn s0
    generalize epR = e at *
    generalize etR = h at *
    grind
  have aT : av tenW = 32768 * epR := by rw [← tenW_rv, rv_pos tenW_ng]
  have fq : finK .f64 most = true := by
    refine mul_small2 tenW_fin fm hq (B := M * 65536) k4 ?_
    rw [aT]
    have q : 32768 * epR ≤ 1 := by decide +kernel
    have q1 := Rat.mul_le_mul_of_nonneg_right q (av_nn m0)
    generalize epR = e at *
    grind
  have nq := mul_rv tenW_fin fm fq hq
  have sq := sign_mul tenW_fin fm tenW_ng sm hq
  refine le_not_lt fd fq sq ?_
  rw [← ab_rv d, ← rv_pos sq]
  refine back_last (M := M) (C := rv C) (u := rv u) (m0 := rv m0) (s := rv s0 + rv s1) (t := rv tenW) e0 (by decide +kernel) (by decide +kernel) k1 M0 b nd (by rw [rv_pos n0, rv_pos n1]; exact hs) nm (by rw [rv_pos sm]; exact av_nn m0) tenW_rv nq (by rw [rv_pos sq]; exact av_nn most)

theorem turn_back {x y u v s A B C D m0 most d1 d2 : Nat} (ou : okK .f64 u) (ov : okK .f64 v) (oy : okK .f64 y) (hx : DotR x y x y s) (c : chk s = true) (su : smallK u = true) (sv : smallK v = true) (hm : resK .add .f64 (rgK .f64 u) (rgK .f64 v) m0) (hq : resK .mul .f64 tenW m0 most)
    (h1 : ThenR x y u v A B) (h2 : ThenR x (Op.negFloat .f64 y) A B C D) (g1 : resK .sub .f64 C u d1) (g2 : resK .sub .f64 D v d2) :
    ltK .f64 most (rgK .f64 d1) = false ∧ ltK .f64 most (rgK .f64 d2) = false ∧ nanK .f64 C = false ∧ nanK .f64 D = false := by
  obtain ⟨fu, lu, bu⟩ := small_num su
  obtain ⟨fv, lv, bv⟩ := small_num sv
  obtain ⟨fx, fy, bx, b_y⟩ := turn_two hx c
  by_cases z : rgK .f64 u = 0 ∧ rgK .f64 v = 0
  · obtain ⟨zu, zv⟩ := z
    obtain ⟨zA, zB⟩ := nought_then fx fy zu zv h1
    obtain ⟨zC, zD⟩ := nought_then fx (by rw [fin_neg _ oy]; exact fy) zA zB h2
    rw [zu, zv] at hm
    have e1 := res_is hm (v := 0) (by decide +kernel)
    rw [e1] at hq
    have e2 := res_is hq (v := 0) (by decide +kernel)
    rw [e2, nought_sub ou zC zu g1, nought_sub ov zD zv g2]
    exact ⟨by decide +kernel, by decide +kernel, rg_zero_nan _ _ zC, rg_zero_nan _ _ zD⟩
  · obtain ⟨M, hM⟩ : ∃ M, M = if av u ≤ av v then av v else av u := ⟨_, rfl⟩
    obtain ⟨p1, p2, p3, p4⟩ := mostOf hM (av_nn u) (av_nn v)
    have low : 1 / 2 ^ 300 ≤ M := by
      rcases lu with a | a
      · rcases lv with b | b
        · exact absurd ⟨a, b⟩ z
        · exact Rat.le_trans b p2
      · exact Rat.le_trans a p1
    have high : M ≤ 2 ^ 300 := by rcases p4 with e | e <;> rw [e] <;> assumption
    unfold chk at c
    rw [Bool.and_eq_true] at c
    obtain ⟨k1, k2⟩ := M_low low
    obtain ⟨k3, k4⟩ := M_high high
    obtain ⟨fC, fD, b1, b2⟩ := there_back (M := M) hx c.1 c.2 fu fv (by rw [ab_rv]; exact p1) (by rw [ab_rv]; exact p2) k2 k3 (then_apply h1) (then_undo oy h2)
    have w1 := rgw u
    have w2 := rgw v
    refine ⟨?_, ?_, fin_num fC, fin_num fD⟩
    · exact part_back ou fC fu low high p1 b1 (by rw [rg_fin]; exact fu) (by rw [rg_fin]; exact fv) w1.2.1 w2.2.1 (by rw [rg_av]; exact p1) (by rw [rg_av]; exact p2) (by rw [rg_av, rg_av]; exact p3) hm hq g1
    · exact part_back ov fD fv low high p2 b2 (by rw [rg_fin]; exact fu) (by rw [rg_fin]; exact fv) w1.2.1 w2.2.1 (by rw [rg_av]; exact p1) (by rw [rg_av]; exact p2) (by rw [rg_av, rg_av]; exact p3) hm hq g2
end Go.Proofs.Ytoljkokcgmigeaa
