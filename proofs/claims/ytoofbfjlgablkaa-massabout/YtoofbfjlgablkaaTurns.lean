/-
  Plain facts on floats, more: rounding to the nearest rung, sums and products of finite floats, signs turned. No program is named here.
-/
import Derived.Test.YtoofbfjlgablkaaRndz
namespace Go.Proofs.Ytoofbfjlgablkaa
open Ieee Go.RowKit
set_option linter.unusedSimpArgs false
set_option linter.unusedVariables false

theorem dot_is {ax ay bx b_y r : Nat} (h : DotR ax ay bx b_y r) (f1 : finK .f64 ax = true) (f2 : finK .f64 ay = true) (f3 : finK .f64 bx = true) (f4 : finK .f64 b_y = true) (g1 : finK .f64 (Dv .mul ax bx) = true) (g2 : finK .f64 (Dv .mul ay b_y) = true) : r = Dv .add (Dv .mul ax bx) (Dv .mul ay b_y) := by
  obtain ⟨p, q, h1, h2, h3⟩ := h
  rw [res_dv h1 (some_mul f1 f3), res_dv h2 (some_mul f2 f4)] at h3
  exact res_dv h3 (some_add g1 g2)
theorem cross_is {ax ay bx b_y r : Nat} (h : CrossR ax ay bx b_y r) (f1 : finK .f64 ax = true) (f2 : finK .f64 ay = true) (f3 : finK .f64 bx = true) (f4 : finK .f64 b_y = true) (g1 : finK .f64 (Dv .mul ax b_y) = true) (g2 : finK .f64 (Dv .mul ay bx) = true) (o : okK .f64 (Dv .mul ay bx)) : r = Dv .sub (Dv .mul ax b_y) (Dv .mul ay bx) := by
  obtain ⟨p, q, h1, h2, h3⟩ := h
  rw [res_dv h1 (some_mul f1 f4), res_dv h2 (some_mul f2 f3)] at h3
  exact res_dv h3 (some_sub g1 g2 o)

/-- the whole: two ways, and both so many times as great -/
structure Scaled (s x0 y0 x1 y1 : Nat) : Prop where
  px : Part s x0 x1
  py : Part s y0 y1
  fs : finK .f64 s = true
  dot : Two .add s (Dv .mul x0 x1) (Dv .mul y0 y1) (Dv .mul (Dv .mul x0 s) (Dv .mul x1 s)) (Dv .mul (Dv .mul y0 s) (Dv .mul y1 s))
  cross : Two .sub s (Dv .mul x0 y1) (Dv .mul y0 x1) (Dv .mul (Dv .mul x0 s) (Dv .mul y1 s)) (Dv .mul (Dv .mul y0 s) (Dv .mul x1 s))
  square : Two .add s (Dv .mul x0 x0) (Dv .mul y0 y0) (Dv .mul (Dv .mul x0 s) (Dv .mul x0 s)) (Dv .mul (Dv .mul y0 s) (Dv .mul y0 s))
  long : ngK .f64 (Dv .add (Dv .mul x0 x0) (Dv .mul y0 y0)) = false ∧ ngK .f64 (Dv .add (Dv .mul (Dv .mul x0 s) (Dv .mul x0 s)) (Dv .mul (Dv .mul y0 s) (Dv .mul y0 s))) = false ∧
    finK .f64 (Dv .add (Dv .mul (Dv .mul x0 s) (Dv .mul x0 s)) (Dv .mul (Dv .mul y0 s) (Dv .mul y0 s))) = true ∧
    finK .f64 (Sq (Dv .add (Dv .mul x0 x0) (Dv .mul y0 y0))) = true ∧
    Sq (Dv .add (Dv .mul (Dv .mul x0 s) (Dv .mul x0 s)) (Dv .mul (Dv .mul y0 s) (Dv .mul y0 s))) = Dv .mul (Sq (Dv .add (Dv .mul x0 x0) (Dv .mul y0 y0))) s
  unit : ∀ xu yu xv yv bu bv, UnitR x0 y0 xu yu bu → UnitR (Dv .mul x0 s) (Dv .mul y0 s) xv yv bv → bv = bu ∧ smK .f64 xu xv = true ∧ smK .f64 yu yv = true

theorem scaled_of {s x0 y0 x1 y1 : Nat} {e : Int} (h1 : -100 ≤ e) (h2 : e ≤ 100) (hs : s = pw e) (o0 : okK .f64 x0) (o1 : okK .f64 y0) (o2 : okK .f64 x1) (o3 : okK .f64 y1) (p0 : plB x0 = true) (p1 : plB y0 = true) (p2 : plB x1 = true) (p3 : plB y1 = true) : Scaled s x0 y0 x1 y1 := by
  obtain ⟨j, sc, rs, fs, os⟩ := pw_sc h1 h2
  rw [← hs] at sc rs fs os
  obtain ⟨f0, r0⟩ := plain_rg o0 p0
  obtain ⟨f1, r1⟩ := plain_rg o1 p1
  obtain ⟨f2, r2⟩ := plain_rg o2 p2
  obtain ⟨f3, r3⟩ := plain_rg o3 p3
  have px := part_of o0 o2 os fs sc rs f0 r0 f2 r2
  have py := part_of o1 o3 os fs sc rs f1 r1 f3 r3
  have cs : ∀ {x : Nat}, finK .f64 x = true → okK .f64 x → Rg 874 1274 x → Sc 100 j x (Dv .mul x s) ∧ Rg 774 1374 (Dv .mul x s) := fun {x} fx ox rx => by
    obtain ⟨k1, k2⟩ := scale_sc fx ox sc (dv_res (some_mul fx fs)) rx rs (by omega) (by omega) (by omega) (by omega)
    exact ⟨k1, Rg.wide k2 (by omega) (by omega)⟩
  obtain ⟨c0, g0⟩ := cs f0 o0 r0
  obtain ⟨c1, g1⟩ := cs f1 o1 r1
  obtain ⟨c2, g2⟩ := cs f2 o2 r2
  obtain ⟨c3, g3⟩ := cs f3 o3 r3
  obtain ⟨m1, a1, b1⟩ := prod_of c0 c2 r0 r2 g0 g2
  obtain ⟨m2, a2, b2⟩ := prod_of c1 c3 r1 r3 g1 g3
  obtain ⟨m3, a3, b3⟩ := prod_of c0 c3 r0 r3 g0 g3
  obtain ⟨m4, a4, b4⟩ := prod_of c1 c2 r1 r2 g1 g2
  obtain ⟨m5, a5, b5⟩ := prod_of c0 c0 r0 r0 g0 g0
  obtain ⟨m6, a6, b6⟩ := prod_of c1 c1 r1 r1 g1 g1
  obtain ⟨dot, _, _, _⟩ := two_add os fs sc rs m1 m2 a1 a2 b1 b2
  have cross := two_sub os fs sc rs m3 m4 a3 a4 b3 b4
  obtain ⟨square, sq, w1, w2⟩ := two_add os fs sc rs m5 m6 a5 a6 b5 b6
  have hd : DotR x0 y0 x0 y0 (Dv .add (Dv .mul x0 x0) (Dv .mul y0 y0)) := ⟨_, _, dv_res (some_mul f0 f0), dv_res (some_mul f1 f1), dv_res (some_add m5.1 m6.1)⟩
  have nr : ngK .f64 (Dv .add (Dv .mul x0 x0) (Dv .mul y0 y0)) = false := by
    rcases square_cases hd with h | h
    · rw [fin_num sq.1] at h; cases h
    · exact h
  have nr' := sq.2.2.2.2.1.trans nr
  have ln := len_of os fs sc rs sq nr w1 w2
  refine ⟨px, py, fs, dot, cross, square, ⟨nr, nr', sq.2.1, ?_, ?_⟩, ?_⟩
  · rcases ln with ⟨_, _, z, _, _⟩ | ⟨_, _, z, _, _⟩
    · rw [z]; decide +kernel
    · exact z.1
  · rcases ln with ⟨_, _, z, z', z2⟩ | ⟨_, _, _, z, _⟩
    · rw [z, z', z2]
    · exact z
  · intro xu yu xv yv bu bv hu hv
    obtain ⟨n, ⟨t, hd1, hn⟩, e1, k1⟩ := hu
    obtain ⟨n', ⟨t', hd2, hn'⟩, e2, k2⟩ := hv
    have ht := dot_is hd1 f0 f1 f0 f1 m5.1 m6.1
    have ht' := dot_is hd2 c0.2.1 c1.2.1 c0.2.1 c1.2.1 m5.2.1 m6.2.1
    subst ht; subst ht'
    have hn := sqR_is hn (sqr_some sq.1 nr)
    have hn' := sqR_is hn' (sqr_some sq.2.1 nr')
    rcases ln with ⟨_, _, z, z', _⟩ | ⟨l1, l2, sn, _, pn⟩
    · rw [hn, z] at e1 k1
      rw [hn', z'] at e2 k2
      have eb : bv = bu := e2.trans e1.symm
      have ef : bu = false := e1.trans (by decide +kernel)
      subst eb
      rw [ef] at k1 k2
      simp only [Bool.false_eq_true, if_false] at k1 k2
      rw [k1.1, k1.2, k2.1, k2.2]
      exact ⟨rfl, smK_self _ _, smK_self _ _⟩
    · rw [← hn, ← hn'] at *
      have t1 : ∀ {m : Nat}, finK .f64 m = true → ngK .f64 m = false → 2 ^ 52 ≤ mg m → (ltK .f64 0 m && finK .f64 m) = true := fun {m} fm nm lm => by
        rw [lt_zero, fm, fin_num fm, nm]
        have : rgK .f64 m ≠ 0 := fun h => by
          have := mg_zero.2 h
          have := ne_of_pow lm
          omega
        simp [this]
      rw [t1 sn.1 pn l1] at e1
      rw [t1 sn.2.1 (sn.2.2.2.2.1.trans pn) l2] at e2
      subst e1; subst e2
      simp only [if_true] at k1 k2
      have big : ∀ {x : Nat}, Sc 100 j x (Dv .mul x s) → Rg 874 1274 x → Rg 774 1374 (Dv .mul x s) → mg x = 0 ∨ (2 ^ 52 ≤ mg x ∧ 2 ^ 52 ≤ mg (Dv .mul x s)) := fun {x} hsc h1 h2 => by
        rcases h1 with h1 | h1
        · exact .inl h1
        · refine .inr ⟨pow_tr (show 52 ≤ 874 by omega) h1.1, pow_tr (show 52 ≤ 774 by omega) (h2.resolve_left fun z => ?_).1⟩
          have := (hsc.zero).1 z
          have := ne_of_pow h1.1
          omega
      have q1 := quo_same (a := 0) (b := 0) c0 sn (big c0 r0 g0) l1 l2
      have q2 := quo_same (a := 0) (b := 0) c1 sn (big c1 r1 g1) l1 l2
      have cg : ∀ {a b a' b' r r' : Nat}, floatBits .quo .f64 a' b' = floatBits .quo .f64 a b → resK .quo .f64 a b r → resK .quo .f64 a' b' r' → smK .f64 r r' = true := fun {a b a' b' r r'} he h1 h2 => by
        have h3 : resK .quo .f64 a b r' := by unfold resK at *; rwa [he] at h2
        exact res_congr (smK_self _ _) (smK_self _ _) h1 h3
      exact ⟨rfl, cg q1 k1.1 k2.1, cg q2 k1.2 k2.2⟩
end Go.Proofs.Ytoofbfjlgablkaa
namespace Go.Proofs.Ytoofbfjlgablkaa
open Ieee Go.RowKit
set_option linter.unusedSimpArgs false
set_option linter.unusedVariables false

/-! ### Floats as numbers with their signs, and how far off an operation is -/
def rv (x : Nat) : Rat := if ngK .f64 x then -av x else av x
def ab (a : Rat) : Rat := if a < 0 then -a else a
theorem ab_nn (a : Rat) : 0 ≤ ab a := by unfold ab; split <;> grind
theorem ab_le (a : Rat) : a ≤ ab a ∧ -a ≤ ab a := by unfold ab; split <;> grind
theorem ab_neg (a : Rat) : ab (-a) = ab a := by unfold ab; split <;> split <;> grind
theorem ab_pos {a : Rat} (h : 0 ≤ a) : ab a = a := by unfold ab; split <;> grind
theorem ab_of {a b : Rat} (h1 : a ≤ b) (h2 : -a ≤ b) : ab a ≤ b := by unfold ab; split <;> grind
theorem ab_mul (a b : Rat) : ab (a * b) = ab a * ab b := by
  rcases Rat.le_total (a := 0) (b := a) with ha | ha <;> rcases Rat.le_total (a := 0) (b := b) with hb | hb
  · rw [ab_pos ha, ab_pos hb, ab_pos (Rat.mul_nonneg ha hb)]
  · rw [ab_pos ha, ← ab_neg b, ab_pos (show 0 ≤ -b by grind), ← ab_neg, ab_pos (show 0 ≤ -(a * b) by have := Rat.mul_nonneg ha (show 0 ≤ -b by grind); grind)]; grind
  · rw [ab_pos hb, ← ab_neg a, ab_pos (show 0 ≤ -a by grind), ← ab_neg, ab_pos (show 0 ≤ -(a * b) by have := Rat.mul_nonneg (show 0 ≤ -a by grind) hb; grind)]; grind
  · rw [← ab_neg a, ← ab_neg b, ab_pos (show 0 ≤ -a by grind), ab_pos (show 0 ≤ -b by grind), ab_pos (show 0 ≤ a * b by have := Rat.mul_nonneg (show 0 ≤ -a by grind) (show 0 ≤ -b by grind); grind)]; grind
theorem ab_add (a b : Rat) : ab (a + b) ≤ ab a + ab b := by
  have h1 := ab_le a
  have h2 := ab_le b
  exact ab_of (by grind) (by grind)

/-- A is q rounded -/
def nrS (q A : Rat) : Prop := ab (q - A) ≤ epR * ab A + etR
theorem nrS_of_near {q A : Rat} (h : nearR q A) (hA : 0 ≤ A) : nrS q A := by
  unfold nrS
  rw [ab_pos hA]
  obtain ⟨h1, h2⟩ := h
  exact ab_of (by grind) (by grind)
theorem nrS_neg {q A : Rat} (h : nrS q A) : nrS (-q) (-A) := by
  unfold nrS at *
  rw [ab_neg A, show -q - -A = -(q - A) by grind, ab_neg]
  exact h
theorem rv_pos {x : Nat} (h : ngK .f64 x = false) : rv x = av x := by unfold rv; rw [h]; rfl
theorem rv_neg {x : Nat} (h : ngK .f64 x = true) : rv x = -av x := by unfold rv; rw [h]; rfl
theorem ab_rv (x : Nat) : ab (rv x) = av x := by
  unfold rv
  split
  · rw [ab_neg, ab_pos (av_nn x)]
  · exact ab_pos (av_nn x)
theorem rv_turned {x : Nat} (o : okK .f64 x) : rv (Op.negFloat .f64 x) = -rv x := by
  obtain ⟨h1, h2, _⟩ := neg_facts .f64 x o
  have e : av (Op.negFloat .f64 x) = av x := by unfold av mg; rw [h1]
  unfold rv
  rw [h2, e]
  cases ngK .f64 x <;> simp <;> grind

theorem mul_rv {x y r : Nat} (hx : finK .f64 x = true) (hy : finK .f64 y = true) (hr : finK .f64 r = true) (h : resK .mul .f64 x y r) : nrS (rv x * rv y) (rv r) := by
  obtain ⟨h1, h2⟩ := mul_near hx hy h hr
  have h3 := nrS_of_near h1 (av_nn r)
  unfold rv
  rw [h2]
  cases ngK .f64 x <;> cases ngK .f64 y <;> simp only [Bool.false_bne, Bool.true_bne, Bool.bne_false, Bool.bne_true, Bool.not_true, Bool.not_false, Bool.xor_false, Bool.xor_true, Bool.false_xor, Bool.true_xor, Bool.false_eq_true, if_false, if_true]
  · exact h3
  · rw [show av x * -av y = -(av x * av y) by grind]; exact nrS_neg h3
  · rw [show -av x * av y = -(av x * av y) by grind]; exact nrS_neg h3
  · rw [show -av x * -av y = av x * av y by grind]; exact h3

theorem rv_sv (x : Nat) : rv x = (svK .f64 x : Rat) / 2 ^ 1074 := by
  unfold rv svK av mg
  cases ngK .f64 x
  · simp only [Bool.false_eq_true, if_false, Rat.intCast_natCast]
  · simp only [if_true, Rat.intCast_neg, Rat.intCast_natCast]
    rw [Rat.div_def, Rat.div_def]; grind

theorem cast_neg {T : Int} (h : T < 0) : (T : Rat) = -(T.natAbs : Rat) := by
  have e : T = -(T.natAbs : Int) := by omega
  have := congrArg (fun z : Int => (z : Rat)) e
  simpa only [Rat.intCast_neg, Rat.intCast_natCast] using this
theorem cast_pos {T : Int} (h : ¬ T < 0) : (T : Rat) = (T.natAbs : Rat) := by
  have e : T = (T.natAbs : Int) := by omega
  have := congrArg (fun z : Int => (z : Rat)) e
  simpa only [Rat.intCast_natCast] using this
theorem add_rv {x y r : Nat} (hx : finK .f64 x = true) (hy : finK .f64 y = true) (hr : finK .f64 r = true) (h : resK .add .f64 x y r) : nrS (rv x + rv y) (rv r) := by
  have e := res_is h (add_spec .f64 x y hx hy)
  rw [e, fin_word] at hr
  have hr := of_decide_eq_true hr
  have hW := W_pos
  have hs : rv x + rv y = ((svK .f64 x + svK .f64 y : Int) : Rat) / 2 ^ 1074 := by
    rw [rv_sv, rv_sv, Rat.intCast_add, Rat.div_def, Rat.div_def, Rat.div_def]; grind
  rw [hs]
  generalize svK .f64 x + svK .f64 y = T at *
  have hm : mg r = vl FloatKind.f64.format (rr FloatKind.f64.format T.natAbs 0) := by rw [e]; exact mg_word _ _ hr
  have hn : nearR ((T.natAbs : Rat) / 2 ^ 1074) (av r) := by
    unfold av
    rw [hm]
    refine near_rr _ _ _ ?_
    rw [Rat.pow_zero, Rat.mul_one]
    exact Rat.div_mul_cancel (Rat.ne_of_gt hW)
  have h3 := nrS_of_near hn (av_nn r)
  by_cases hz : T = 0
  · subst hz
    have : av r = 0 := by unfold av; rw [hm]; simp only [Int.natAbs_zero, rr_zero, vl_zero]; rw [Rat.div_def]; exact Rat.zero_mul _
    have hr0 : rv r = av r := by unfold rv; rw [this]; split <;> grind
    rw [hr0]
    exact h3
  · have hg : ngK .f64 r = decide (T < 0) := by rw [e, if_neg hz, ngK_word _ _ _ (Nat.min_le_right _ _)]
    by_cases hl : T < 0
    · rw [rv_neg (by rw [hg]; exact decide_eq_true hl)]
      have e1 : (T : Rat) / 2 ^ 1074 = -((T.natAbs : Rat) / 2 ^ 1074) := by
        rw [cast_neg hl, Rat.div_def, Rat.div_def, Rat.neg_mul]
      rw [e1]
      exact nrS_neg h3
    · rw [rv_pos (by rw [hg]; exact decide_eq_false hl)]
      rw [cast_pos hl]
      exact h3
theorem sub_rv {x y r : Nat} (oy : okK .f64 y) (hx : finK .f64 x = true) (hy : finK .f64 y = true) (hr : finK .f64 r = true) (h : resK .sub .f64 x y r) : nrS (rv x - rv y) (rv r) := by
  have e : resK .add .f64 x (Op.negFloat .f64 y) r := by unfold resK at *; rwa [sub_is_add .f64 x y oy] at h
  have := add_rv hx (by rw [fin_neg _ oy]; exact hy) hr e
  rw [rv_turned oy] at this
  rw [show rv x - rv y = rv x + -rv y by grind]
  exact this
end Go.Proofs.Ytoofbfjlgablkaa
namespace Go.Proofs.Ytoofbfjlgablkaa
open Ieee Go.RowKit
set_option linter.unusedSimpArgs false
set_option linter.unusedVariables false

/-! ### Turns: how far off one behind the other is, and there and back (e: the part by which a rounding may err; h: half a least place) -/
def ns (e h q A : Rat) : Prop := ab (q - A) ≤ e * ab A + h
theorem ab_two {a b : Rat} (h : ab a ≤ b) : a ≤ b ∧ -a ≤ b := by have := ab_le a; grind
theorem ns_err {e h q A M : Rat} (he : 0 ≤ e) (he1 : e * 4 ≤ 1) (h0 : 0 ≤ h) (hM : ab q ≤ M) (hh : h ≤ e * M) (n : ns e h q A) : ab (q - A) ≤ 3 * (e * M) ∧ ab A ≤ 2 * M := by
  unfold ns at n
  have t : ab A ≤ ab q + ab (q - A) := by
    have := ab_add q (-(q - A))
    rw [ab_neg, show q + -(q - A) = A by grind] at this
    exact this
  have hM0 : 0 ≤ M := by have := ab_nn q; grind
  have hA0 := ab_nn A
  have z := Rat.mul_nonneg he hM0
  have hA : ab A ≤ 2 * M := by
    refine Rat.le_of_mul_le_mul_right (c := 1 - e) ?_ (by grind)
    have m1 := rmul he1 hM0
    grind
  have m2 := rmul hA he
  exact ⟨by grind, hA⟩
/-- a product with a bounded factor -/
theorem ab_mul_le {x y a b : Rat} (hx : ab x ≤ a) (hy : ab y ≤ b) : ab (x * y) ≤ a * b := by
  rw [ab_mul]
  have h1 := rmul hy (ab_nn x)
  have h2 := Rat.mul_le_mul_of_nonneg_right hx (Rat.le_trans (ab_nn y) hy)
  grind
theorem ab_sub (a b : Rat) : ab (a - b) ≤ ab a + ab b := by
  have := ab_add a (-b)
  rw [ab_neg] at this
  rw [show a - b = a + -b by grind]
  exact this
/-- two products and their sum or difference -/
theorem two_prods {e h x y u v a b r M K : Rat} (he : 0 ≤ e) (he1 : e * 4 ≤ 1) (h0 : 0 ≤ h) (hx : ab x ≤ 2) (hy : ab y ≤ 2) (hu : ab u ≤ M) (hv : ab v ≤ M) (hh : h ≤ e * M)
    (n1 : ns e h (x * u) a) (n2 : ns e h (y * v) b) (sg : Rat) (hs : sg = 1 ∨ sg = -1) (n3 : ns e h (a + sg * b) r) : ab (r - (x * u + sg * (y * v))) ≤ 36 * (e * M) ∧ ab r ≤ 16 * M := by
  have hM0 : 0 ≤ M := by have := ab_nn u; grind
  have z := Rat.mul_nonneg he hM0
  obtain ⟨a1, a2⟩ := ns_err (M := 2 * M) he he1 h0 (ab_mul_le hx hu) (by grind) n1
  obtain ⟨b1, b2⟩ := ns_err (M := 2 * M) he he1 h0 (ab_mul_le hy hv) (by grind) n2
  have q : ab (a + sg * b) ≤ 8 * M := by
    rcases hs with rfl | rfl
    · have := ab_add a (1 * b); rw [Rat.one_mul] at this ⊢; grind
    · have := ab_sub a b; rw [show a + -1 * b = a - b by grind]; grind
  obtain ⟨c1, c2⟩ := ns_err (M := 8 * M) he he1 h0 q (by grind) n3
  refine ⟨?_, by grind⟩
  have t1 := ab_two a1
  have t2 := ab_two b1
  have t3 := ab_two c1
  rcases hs with rfl | rfl
  · exact ab_of (by grind) (by grind)
  · exact ab_of (by grind) (by grind)

/-- **there and back**: (x, y) a turn nearly as long as 1, (u, v) a way -/
theorem back_rat {e h x y u v a1 a2 b1 b2 A B c1 c2 C M D : Rat} (he : 0 ≤ e) (he1 : e * 64 ≤ 1) (h0 : 0 ≤ h) (hx : ab x ≤ 2) (hy : ab y ≤ 2) (hu : ab u ≤ M) (hv : ab v ≤ M) (hh : h ≤ e * M)
    (n1 : ns e h (x * u) a1) (n2 : ns e h (y * v) a2) (n3 : ns e h (a1 + -1 * a2) A)
    (n4 : ns e h (y * u) b1) (n5 : ns e h (x * v) b2) (n6 : ns e h (b1 + 1 * b2) B)
    (n7 : ns e h (x * A) c1) (n8 : ns e h (y * B) c2) (n9 : ns e h (c1 + 1 * c2) C)
    (hd : ab (x * x + y * y - 1) ≤ D) : ab (C - u) ≤ D * M + 720 * (e * M) := by
  have hM0 : 0 ≤ M := by have := ab_nn u; grind
  have z := Rat.mul_nonneg he hM0
  obtain ⟨p1, p2⟩ := two_prods (K := 0) he (by grind) h0 hx hy hu hv hh n1 n2 (-1) (.inr rfl) n3
  obtain ⟨q1, q2⟩ := two_prods (K := 0) he (by grind) h0 hy hx hu hv hh n4 n5 1 (.inl rfl) n6
  obtain ⟨r1, _⟩ := two_prods (M := 16 * M) (K := 0) he (by grind) h0 hx hy p2 q2 (by grind) n7 n8 1 (.inl rfl) n9
  -- what the errors of A and B come to
  have s1 := ab_mul_le hx p1
  have s2 := ab_mul_le hy q1
  have s3 := ab_mul_le hd hu
  have t1 := ab_two r1
  have t2 := ab_two s1
  have t3 := ab_two s2
  have t4 := ab_two s3
  have key : C - u = (C - (x * A + 1 * (y * B))) + x * (A - (x * u + -1 * (y * v))) + y * (B - (y * u + 1 * (x * v))) + (x * x + y * y - 1) * u := by grind
  rw [key]
  refine ab_of ?_ ?_ <;> grind

theorem sq_part {a b : Rat} (h : a * a + b * b ≤ 4) : ab a ≤ 3 := by
  have hbb := rsq b
  refine ab_of ?_ ?_
  · apply Decidable.byContradiction
    intro g
    have := sq_le (a := 3) (b := a) (by decide) (by grind)
    grind
  · apply Decidable.byContradiction
    intro g
    have := sq_le (a := 3) (b := -a) (by decide) (by grind)
    grind
theorem sq_near {e A R : Rat} (he : 0 ≤ e) (he1 : e * 1024 ≤ 1) (h1 : ab R ≤ 3) (h2 : ab (A - R) ≤ 36 * (e * 2)) : ab (A * A - R * R) ≤ 600 * e := by
  have h2 : ab (A - R) ≤ 72 * e := by grind
  have h3 : ab (A + R) ≤ 7 := by
    have := ab_add (A - R) (2 * R)
    have h4 : ab (2 * R) = 2 * ab R := by rw [ab_mul, ab_pos (show (0 : Rat) ≤ 2 by decide)]
    rw [show A - R + 2 * R = A + R by grind] at this
    grind
  have := ab_mul_le h2 h3
  rw [show A * A - R * R = (A - R) * (A + R) by grind]
  grind

/-- **one behind the other**: the length of a product of two turns nearly as long as 1 -/
theorem then_rat {e h x y u v a1 a2 b1 b2 A B D : Rat} (he : 0 ≤ e) (he1 : e * 1024 ≤ 1) (h0 : 0 ≤ h) (hh : h ≤ e) (hx : ab x ≤ 2) (hy : ab y ≤ 2) (hu : ab u ≤ 1 + 1 / 4) (hv : ab v ≤ 1 + 1 / 4)
    (n1 : ns e h (x * u) a1) (n2 : ns e h (y * v) a2) (n3 : ns e h (a1 + -1 * a2) A)
    (n4 : ns e h (x * v) b1) (n5 : ns e h (y * u) b2) (n6 : ns e h (b1 + 1 * b2) B)
    (hd : ab (x * x + y * y - 1) ≤ D) (hd' : ab (u * u + v * v - 1) ≤ D) (hD : D * 4 ≤ 1) : ab (A * A + B * B - 1) ≤ 2 * D + D * D + 1200 * e := by
  have hu2 : ab u ≤ 2 := by grind
  have hv2 : ab v ≤ 2 := by grind
  obtain ⟨p1, _⟩ := two_prods (M := 2) (K := 0) he (by grind) h0 hx hy hu2 hv2 (by grind) n1 n2 (-1) (.inr rfl) n3
  obtain ⟨q1, _⟩ := two_prods (M := 2) (K := 0) he (by grind) h0 hx hy hv2 hu2 (by grind) n4 n5 1 (.inl rfl) n6
  have hD0 : 0 ≤ D := by have := ab_nn (x * x + y * y - 1); grind
  -- the exact product
  have ex : (x * u + -1 * (y * v)) * (x * u + -1 * (y * v)) + (x * v + 1 * (y * u)) * (x * v + 1 * (y * u)) = (x * x + y * y) * (u * u + v * v) := by grind
  have w1 := ab_mul_le hd hd'
  have k0 : ab ((x * x + y * y) * (u * u + v * v) - 1) ≤ 2 * D + D * D := by
    have t1 := ab_two hd
    have t2 := ab_two hd'
    have t3 := ab_two w1
    have key : (x * x + y * y) * (u * u + v * v) - 1 = (x * x + y * y - 1) * (u * u + v * v - 1) + (x * x + y * y - 1) + (u * u + v * v - 1) := by grind
    rw [key]
    exact ab_of (by grind) (by grind)
  have t0 := ab_two k0
  have hDD : D * D ≤ D := by have := rmul hD hD0; grind
  have le4 : (x * x + y * y) * (u * u + v * v) ≤ 4 := by grind
  rw [← ex] at le4 t0
  have c1 := sq_part le4
  have c2 := sq_part (a := x * v + 1 * (y * u)) (b := x * u + -1 * (y * v)) (by grind)
  generalize x * u + -1 * (y * v) = R at *
  generalize x * v + 1 * (y * u) = I at *
  have f1 := ab_two (sq_near he he1 c1 p1)
  have f2 := ab_two (sq_near he he1 c2 q1)
  exact ab_of (by grind) (by grind)
end Go.Proofs.Ytoofbfjlgablkaa
namespace Go.Proofs.Ytoofbfjlgablkaa
open Ieee Go.RowKit
set_option linter.unusedSimpArgs false
set_option linter.unusedVariables false

/-- a quotient, with its sign: near some Q that times the divisor is nearly what was divided -/
theorem quo_rv {x y r : Nat} (hx : finK .f64 x = true) (hy : finK .f64 y = true) (y0 : mg y ≠ 0) (hr : finK .f64 r = true) (h : resK .quo .f64 x y r) :
    ∃ Q : Rat, ab (Q * rv y - rv x) ≤ epR * ab (rv x) ∧ nrS Q (rv r) := by
  obtain ⟨Q, k, q0, q1, q2, e, hn, _⟩ := quo_near hx hy y0
  have ex := res_is h e
  rw [ex, fin_word] at hr
  have hk := of_decide_eq_true hr
  have hg : ngK .f64 r = (ngK .f64 x ^^ ngK .f64 y) := by rw [ex]; exact ngK_word .f64 _ _ (Nat.min_le_right _ _)
  have ha : av r = (vl FloatKind.f64.format k : Rat) / 2 ^ 1074 := by rw [ex]; exact av_word _ _ hk
  rw [← ha] at hn
  have h3 := nrS_of_near hn (av_nn r)
  have hb : ab (Q * av y - av x) ≤ epR * av x := ab_of (by grind) (by grind)
  rw [ab_rv x]
  unfold rv
  rw [hg]
  cases ngK .f64 x <;> cases ngK .f64 y <;> simp only [Bool.xor_false, Bool.xor_true, Bool.false_xor, Bool.true_xor, Bool.not_true, Bool.not_false, Bool.false_bne, Bool.true_bne, Bool.bne_false, Bool.bne_true, Bool.false_eq_true, if_false, if_true]
  · exact ⟨Q, hb, h3⟩
  · exact ⟨-Q, by rw [show -Q * -av y - av x = Q * av y - av x by grind]; exact hb, nrS_neg h3⟩
  · exact ⟨-Q, by rw [show -Q * av y - -av x = -(Q * av y - av x) by grind, ab_neg]; exact hb, nrS_neg h3⟩
  · exact ⟨Q, by rw [show Q * -av y - -av x = -(Q * av y - av x) by grind, ab_neg]; exact hb, h3⟩

/-- one part of a turn by a tangent, times the divisor -/
theorem part_by {e h g d c Q X K : Rat} (he : 0 ≤ e) (he1 : e * 1024 ≤ 1) (h0 : 0 ≤ h) (hh : h ≤ e) (hg : 1 ≤ g) (hK : 1 ≤ K) (d1 : g ≤ 2 * d) (d2 : d ≤ 2 * g) (hc : ab c ≤ K * g) (hq : ab (Q * d - c) ≤ e * ab c) (hx : ns e h Q X) :
    ab (X * d - c) ≤ 25 * (e * (K * g)) := by
  have hd : 0 < d := by grind
  have hKg : 0 ≤ K * g := Rat.mul_nonneg (by grind) (by grind)
  have z := Rat.mul_nonneg he hKg
  have a1 := rmul hc he
  have m1 := rmul he1 hKg
  -- Q is at most 4 K
  have hQd : ab (Q * d) ≤ 2 * (K * g) := by
    have := ab_add (Q * d - c) c
    rw [show Q * d - c + c = Q * d by grind] at this
    grind
  have hQ : ab Q ≤ 4 * K := by
    rw [ab_mul, ab_pos (Rat.le_of_lt hd)] at hQd
    refine Rat.le_of_mul_le_mul_right (c := d) ?_ hd
    have := rmul d1 (show 0 ≤ K by grind)
    grind
  obtain ⟨b1, _⟩ := ns_err (M := 4 * K) he (by grind) h0 hQ (by have := rmul hK he; grind) hx
  have t := Rat.mul_le_mul_of_nonneg_right b1 (Rat.le_of_lt hd)
  have hm : ab ((X - Q) * d) ≤ 12 * (e * K) * d := by
    rw [ab_mul, ab_pos (Rat.le_of_lt hd), show X - Q = -(Q - X) by grind, ab_neg]
    grind
  have hz := rmul d2 (Rat.mul_nonneg he (show 0 ≤ K by grind))
  have := ab_add ((X - Q) * d) (Q * d - c)
  rw [show (X - Q) * d + (Q * d - c) = X * d - c by grind] at this
  grind

theorem sq_near2 {A R E M : Rat} (hE : 0 ≤ E) (h1 : ab R ≤ M) (h2 : ab (A - R) ≤ E) (hM : E ≤ M) : ab (A * A - R * R) ≤ 3 * (E * M) := by
  have h3 : ab (A + R) ≤ 3 * M := by
    have := ab_add (A - R) (2 * R)
    have h4 : ab (2 * R) = 2 * ab R := by rw [ab_mul, ab_pos (show (0 : Rat) ≤ 2 by decide)]
    rw [show A - R + 2 * R = A + R by grind] at this
    grind
  have := ab_mul_le h2 h3
  rw [show A * A - R * R = (A - R) * (A + R) by grind]
  grind

/-- **by a tangent**: what comes of it is nearly as long as 1 -/
theorem by_rat {e h t s d c H Q1 Q2 X Y : Rat} (he : 0 ≤ e) (he1 : e * 4096 ≤ 1) (h0 : 0 ≤ h) (hh : h ≤ e) (hs : 0 ≤ s)
    (n1 : ns e h (t * t) s) (n2 : ns e h (1 + s) d) (n3 : ns e h (1 - s) c) (n4 : ns e h (t + t) H)
    (q1 : ab (Q1 * d - c) ≤ e * ab c) (x1 : ns e h Q1 X) (q2 : ab (Q2 * d - H) ≤ e * ab H) (x2 : ns e h Q2 Y) : ab (X * X + Y * Y - 1) ≤ 8000 * e := by
  obtain ⟨g, hgd⟩ : ∃ g, g = 1 + s := ⟨_, rfl⟩
  have hg : 1 ≤ g := by grind
  have hg0 : 0 ≤ g := by grind
  have z := Rat.mul_nonneg he hg0
  have eg : e ≤ e * g := by have := rmul hg he; grind
  have hheg : h ≤ e * g := by grind
  have egs : e * g * 4096 ≤ g := by have := rmul he1 hg0; grind
  -- the divisor
  have m2 : ab (1 + s) ≤ g := by rw [ab_pos (by grind)]; grind
  obtain ⟨d1, _⟩ := ns_err (M := g) he (by grind) h0 m2 hheg n2
  have d1 := ab_two d1
  have dlo : g ≤ 2 * d := by grind
  have dhi : d ≤ 2 * g := by grind
  -- the two that are divided
  have m3 : ab (1 - s) ≤ g := ab_of (by grind) (by grind)
  obtain ⟨c1, c2⟩ := ns_err (M := g) he (by grind) h0 m3 hheg n3
  have hts : ab (t * t - s) ≤ 2 * (e * g) := by
    unfold ns at n1
    rw [ab_pos hs] at n1
    have : e * s ≤ e * g := rmul (show s ≤ g by grind) he
    grind
  have ht2 := ab_two hts
  have ht : ab t ≤ 2 * g := by
    have gg : g ≤ g * g := by have := rmul hg hg0; grind
    refine ab_of ?_ ?_
    · apply Decidable.byContradiction
      intro k
      have := sq_le (a := 2 * g) (b := t) (by grind) (by grind)
      grind
    · apply Decidable.byContradiction
      intro k
      have := sq_le (a := 2 * g) (b := -t) (by grind) (by grind)
      grind
  have m4 : ab (t + t) ≤ 4 * g := by have := ab_add t t; grind
  obtain ⟨h1, h2⟩ := ns_err (M := 4 * g) he (by grind) h0 m4 (by grind) n4
  have px := part_by (K := 2) he (by grind) h0 hh hg (by decide) dlo dhi c2 q1 x1
  have py := part_by (K := 8) he (by grind) h0 hh hg (by decide) dlo dhi (by grind) q2 x2
  -- to what the two should be
  have ex : ab (X * d - (1 - s)) ≤ 53 * (e * g) := by
    have := ab_add (X * d - c) (-((1 - s) - c))
    rw [ab_neg, show X * d - c + -(1 - s - c) = X * d - (1 - s) by grind] at this
    grind
  have ey : ab (Y * d - (t + t)) ≤ 212 * (e * g) := by
    have := ab_add (Y * d - H) (-((t + t) - H))
    rw [ab_neg, show Y * d - H + -(t + t - H) = Y * d - (t + t) by grind] at this
    grind
  have f1 := sq_near2 (M := g) (Rat.mul_nonneg (by decide) z) m3 ex (by grind)
  have f2 := sq_near2 (M := 4 * g) (Rat.mul_nonneg (by decide) z) m4 ey (by grind)
  have f3 := sq_near2 (A := d) (R := 1 + s) (E := 3 * (e * g)) (M := g) (Rat.mul_nonneg (by decide) z) m2 (by rw [show d - (1 + s) = -((1 + s) - d) by grind, ab_neg]; exact ab_of d1.1 d1.2) (by grind)
  have f1 := ab_two f1
  have f2 := ab_two f2
  have f3 := ab_two f3
  have gg : e * g ≤ e * (g * g) := by have := rmul hg z; grind
  -- (X X + Y Y - 1) d d
  have hd : 0 < d := by grind
  have key : ab ((X * X + Y * Y - 1) * (d * d)) ≤ 2800 * (e * (g * g)) := by
    have e1 : (X * X + Y * Y - 1) * (d * d) = (X * d * (X * d) - (1 - s) * (1 - s)) + (Y * d * (Y * d) - (t + t) * (t + t)) - (d * d - (1 + s) * (1 + s)) + 4 * (t * t - s) := by grind
    rw [e1]
    clear e1
    refine ab_of ?_ ?_ <;> grind
  have dd : 0 < d * d := Rat.mul_pos hd hd
  have dg : g * g ≤ 2 * (d * d) := by
    have k1 := f3.2
    rw [← hgd] at k1
    have k2 := Rat.mul_le_mul_of_nonneg_right egs hg0
    clear key f1 f2 f3 px py q1 q2 ex ey
    grind
  rw [ab_mul, ab_pos (Rat.le_of_lt dd)] at key
  refine Rat.le_of_mul_le_mul_right (c := d * d) ?_ dd
  have := rmul dg he
  grind
end Go.Proofs.Ytoofbfjlgablkaa
namespace Go.Proofs.Ytoofbfjlgablkaa
open Ieee Go.RowKit
set_option linter.unusedSimpArgs false
set_option linter.unusedVariables false

/-! ### Turns, as floats -/
theorem abs_sv (u : Nat) : (svK .f64 u).natAbs = mg u := by unfold svK mg; split <;> simp
/-- a sum that comes out small is finite, whatever the signs -/
theorem add_small2 {x y r : Nat} (hx : finK .f64 x = true) (hy : finK .f64 y = true) (h : resK .add .f64 x y r) {B : Rat} (hB : B * 2 + 2 ≤ 2 ^ 1000) (hb : av x + av y ≤ B) : finK .f64 r = true := by
  have e := res_is h (add_spec .f64 x y hx hy)
  rw [e]
  refine fin_of _ (rung_fin ?_)
  have hT : (svK .f64 x + svK .f64 y).natAbs ≤ mg x + mg y := by
    have := Int.natAbs_add_le (svK .f64 x) (svK .f64 y)
    rwa [abs_sv, abs_sv] at this
  generalize (svK .f64 x + svK .f64 y).natAbs = T at *
  have hW := W_pos
  have hq : (T : Rat) / 2 ^ 1074 ≤ B := by
    refine Rat.le_trans ?_ hb
    refine Rat.le_of_mul_le_mul_right (c := 2 ^ 1074) ?_ hW
    have e1 : (av x + av y) * 2 ^ 1074 = ((mg x + mg y : Nat) : Rat) := by
      unfold av
      rw [Rat.add_mul, Rat.div_mul_cancel (Rat.ne_of_gt hW), Rat.div_mul_cancel (Rat.ne_of_gt hW), Rat.natCast_add]
    rw [e1, Rat.div_mul_cancel (Rat.ne_of_gt hW)]
    exact Rat.natCast_le_natCast.2 hT
  have hn : nearR ((T : Rat) / 2 ^ 1074) ((vl FloatKind.f64.format (rr FloatKind.f64.format T 0) : Rat) / 2 ^ 1074) := by
    refine near_rr _ _ _ ?_
    rw [Rat.pow_zero, Rat.mul_one]
    exact Rat.div_mul_cancel (Rat.ne_of_gt hW)
  have hn := hn.2
  have a1 : epR ≤ 1 / 4 := by decide +kernel
  have a2 : etR ≤ 1 := by decide +kernel
  have a4 : (0 : Rat) ≤ (vl FloatKind.f64.format (rr FloatKind.f64.format T 0) : Rat) / 2 ^ 1074 := by
    rw [Rat.div_def]; exact Rat.mul_nonneg Rat.natCast_nonneg (Rat.le_of_lt (Rat.inv_pos.2 W_pos))
  have a3 : (2 : Rat) ^ 100 * 2 + 2 ≤ 2 ^ 9000 := by decide +kernel
  generalize (vl FloatKind.f64.format (rr FloatKind.f64.format T 0) : Rat) / 2 ^ 1074 = A at *
  have a5 := rmul a1 a4
  generalize (T : Rat) / 2 ^ 1074 = q at *
  generalize (2 : Rat) ^ 100 = H at *
  generalize (2 : Rat) ^ 1000 = K at *
  grind
theorem sub_small2 {x y r : Nat} (oy : okK .f64 y) (hx : finK .f64 x = true) (hy : finK .f64 y = true) (h : resK .sub .f64 x y r) {B : Rat} (hB : B * 2 + 2 ≤ 2 ^ 1000) (hb : av x + av y ≤ B) : finK .f64 r = true := by
  have e : resK .add .f64 x (Op.negFloat .f64 y) r := by unfold resK at *; rwa [sub_is_add .f64 x y oy] at h
  refine add_small2 hx (by rw [fin_neg _ oy]; exact hy) e hB ?_
  have : av (Op.negFloat .f64 y) = av y := by unfold av mg; rw [(neg_facts .f64 y oy).1]
  rw [this]; exact hb

theorem rv_sq (x : Nat) : rv x * rv x = av x * av x := by unfold rv; split <;> grind
/-- what 'at least' and 'at most' say of numbers above nought -/
theorem av_of_le {a b : Nat} (na : ngK .f64 a = false) (za : rgK .f64 a ≠ 0) (h : leK .f64 a b = true) : ngK .f64 b = false ∧ av a ≤ av b := by
  unfold leK at h
  simp only [Bool.and_eq_true, decide_eq_true_eq] at h
  have h := h.2
  rw [woK_eq, woK_eq, na] at h
  cases hb : ngK .f64 b
  · rw [hb] at h
    simp only [Bool.false_eq_true, if_false] at h
    exact ⟨rfl, mg_le_av (mg_rg.2 (by omega))⟩
  · rw [hb] at h
    simp only [Bool.false_eq_true, if_false, if_true] at h
    exfalso
    omega
theorem fin_of_le {a b : Nat} (fb : finK .f64 b = true) (na : ngK .f64 a = false) (nb : ngK .f64 b = false) (h : leK .f64 a b = true) : finK .f64 a = true ∧ av a ≤ av b := by
  unfold leK at h
  simp only [Bool.and_eq_true, decide_eq_true_eq] at h
  have h := h.2
  rw [woK_eq, woK_eq, na, nb] at h
  simp only [Bool.false_eq_true, if_false] at h
  have h1 : rgK .f64 a ≤ rgK .f64 b := by omega
  exact ⟨decide_eq_true (Nat.lt_of_le_of_lt h1 (of_decide_eq_true fb)), mg_le_av (mg_rg.2 h1)⟩

/-- the square of finite parts, told to the numbers -/
theorem square_num {x y s : Nat} (fs : finK .f64 s = true) (h : DotR x y x y s) (h9 : 1 / 2 ^ 900 ≤ av s) :
    finK .f64 x = true ∧ finK .f64 y = true ∧ rv x * rv x + rv y * rv y ≤ av s + 3 * (epR * av s) ∧ av s ≤ rv x * rv x + rv y * rv y + 3 * (epR * av s) := by
  obtain ⟨p, q, k1, k2, k3⟩ := h
  obtain ⟨fp, fq⟩ := add_fin k3 fs
  have fx := square_fin k1 fp
  have fy := square_fin k2 fq
  obtain ⟨a1, sp⟩ := mul_near fx fx k1 fp
  obtain ⟨a2, sq⟩ := mul_near fy fy k2 fq
  rw [Bool.xor_self] at sp sq
  obtain ⟨a3, _⟩ := add_near fp fq sp sq k3 fs
  have e0 : 0 ≤ epR := by decide +kernel
  have hh1 : etR ≤ epR * epR * av s := by
    have k : etR ≤ epR * epR * (1 / 2 ^ 900) := by decide +kernel
    exact Rat.le_trans k (rmul h9 (Rat.mul_nonneg e0 e0))
  obtain ⟨t1, t2⟩ := sum_up (T := 0) e0 (by decide +kernel) (av_nn s) hh1 (by decide +kernel) a1 a2 a3
  rw [rv_sq, rv_sq]
  exact ⟨fx, fy, t1, t2⟩

def lo40 : Nat := 4607182418800009216
def hi40 : Nat := 4607182418800021504
/-- what a turn is, told to the numbers -/
theorem turn_num {x y s : Nat} (h : DotR x y x y s) (l : leK .f64 lo40 s = true) (u : leK .f64 s hi40 = true) :
    finK .f64 x = true ∧ finK .f64 y = true ∧ ab (rv x * rv x + rv y * rv y - 1) ≤ 8200 * epR ∧ ab (rv x) ≤ 1 + 1 / 4 ∧ ab (rv y) ≤ 1 + 1 / 4 := by
  obtain ⟨ns, l1⟩ := av_of_le (by decide +kernel) (by decide +kernel) l
  obtain ⟨fs, u1⟩ := fin_of_le (by decide +kernel) ns (by decide +kernel) u
  have v1 : av lo40 = 1 - 8192 * epR := by decide +kernel
  have v2 : av hi40 = 1 + 8192 * epR := by decide +kernel
  have w1 : (1 : Rat) / 2 ^ 900 ≤ 1 - 8192 * epR := by decide +kernel
  have w2 : epR * 16384 ≤ 1 := by decide +kernel
  have w0 : 0 ≤ epR := by decide +kernel
  have w3 : epR * 1048576 ≤ 1 := by decide +kernel
  rw [v1] at l1
  rw [v2] at u1
  obtain ⟨fx, fy, t1, t2⟩ := square_num fs h (Rat.le_trans w1 l1)
  have m1 : epR * av s ≤ epR * 2 := rmul (show av s ≤ 2 by grind) w0
  have part : ∀ {a b S : Rat}, a * a + b * b ≤ S → S ≤ 25 / 16 → ab a ≤ 1 + 1 / 4 := by
    intro a b S h1 h2
    have hb := rsq b
    refine ab_of ?_ ?_
    · apply Decidable.byContradiction
      intro g
      have g : 1 + 1 / 4 < a := by grind
      have := Rat.mul_lt_mul_of_pos_left g (show (0 : Rat) < a by grind)
      grind
    · apply Decidable.byContradiction
      intro g
      have g : 1 + 1 / 4 < -a := by grind
      have := Rat.mul_lt_mul_of_pos_left g (show (0 : Rat) < -a by grind)
      grind
  generalize av s = S at *
  generalize epR = e at *
  refine ⟨fx, fy, ab_of (by grind) (by grind), part t1 (by grind), part (b := rv x) (S := S + 3 * (e * S)) (by grind) (by grind)⟩
end Go.Proofs.Ytoofbfjlgablkaa
