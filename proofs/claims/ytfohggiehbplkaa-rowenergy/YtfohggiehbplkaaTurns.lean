/-
  Plain facts on floats, more: rounding to the nearest rung, sums and products of finite floats, signs turned. No program is named here.
-/
import Derived.Test.YtfohggiehbplkaaRndz
namespace Go.Proofs.Ytfohggiehbplkaa
open Ieee Go.RowKit
set_option linter.unusedSimpArgs false
set_option linter.unusedVariables false

end Go.Proofs.Ytfohggiehbplkaa
namespace Go.Proofs.Ytfohggiehbplkaa
open Ieee Go.RowKit
set_option linter.unusedSimpArgs false
set_option linter.unusedVariables false

def rv (x : Nat) : Rat := if ngK .f64 x then -av x else av x
def ab (a : Rat) : Rat := if a < 0 then -a else a
theorem ab_nn (a : Rat) : 0 ≤ ab a := by unfold ab; split <;> grind
theorem ab_le (a : Rat) : a ≤ ab a ∧ -a ≤ ab a := by unfold ab; split <;> grind
theorem ab_neg (a : Rat) : ab (-a) = ab a := by unfold ab; split <;> split <;> grind
theorem ab_pos {a : Rat} (h : 0 ≤ a) : ab a = a := by unfold ab; split <;> grind
theorem ab_of {a b : Rat} (h1 : a ≤ b) (h2 : -a ≤ b) : ab a ≤ b := by unfold ab; split <;> grind
theorem ab_mul (a b : Rat) : ab (a * b) = ab a * ab b := by
  rcases Rat.le_total (a := 0) (b := a) with ha | ha <;> rcases Rat.le_total (a := 0) (b := b) with hb | hb
  · rw [ab_pos ha, ab_pos hb, ab_pos (Rat.mul_nonneg ha hb)]
  · rw [ab_pos ha, ← ab_neg b, ab_pos (show 0 ≤ -b by grind), ← ab_neg, ab_pos (show 0 ≤ -(a * b) by have := Rat.mul_nonneg ha (show 0 ≤ -b by grind); grind)]; grind
  · rw [ab_pos hb, ← ab_neg a, ab_pos (show 0 ≤ -a by grind), ← ab_neg, ab_pos (show 0 ≤ -(a * b) by have := Rat.mul_nonneg (show 0 ≤ -a by grind) hb; grind)]; grind
  · rw [← ab_neg a, ← ab_neg b, ab_pos (show 0 ≤ -a by grind), ab_pos (show 0 ≤ -b by grind), ab_pos (show 0 ≤ a * b by have := Rat.mul_nonneg (show 0 ≤ -a by grind) (show 0 ≤ -b by grind); grind)]; grind
theorem ab_add (a b : Rat) : ab (a + b) ≤ ab a + ab b := by
  have h1 := ab_le a
  have h2 := ab_le b
  exact ab_of (by grind) (by grind)

/-- A is q rounded -/
def nrS (q A : Rat) : Prop := ab (q - A) ≤ epR * ab A + etR
theorem nrS_of_near {q A : Rat} (h : nearR q A) (hA : 0 ≤ A) : nrS q A := by
  unfold nrS
  rw [ab_pos hA]
  obtain ⟨h1, h2⟩ := h
  exact ab_of (by grind) (by grind)
theorem nrS_neg {q A : Rat} (h : nrS q A) : nrS (-q) (-A) := by
  unfold nrS at *
  rw [ab_neg A, show -q - -A = -(q - A) by grind, ab_neg]
  exact h
theorem rv_pos {x : Nat} (h : ngK .f64 x = false) : rv x = av x := by unfold rv; rw [h]; rfl
theorem rv_neg {x : Nat} (h : ngK .f64 x = true) : rv x = -av x := by unfold rv; rw [h]; rfl
theorem ab_rv (x : Nat) : ab (rv x) = av x := by
  unfold rv
  split
  · rw [ab_neg, ab_pos (av_nn x)]
  · exact ab_pos (av_nn x)
theorem rv_turned {x : Nat} (o : okK .f64 x) : rv (Op.negFloat .f64 x) = -rv x := by
  obtain ⟨h1, h2, _⟩ := neg_facts .f64 x o
  have e : av (Op.negFloat .f64 x) = av x := by unfold av mg; rw [h1]
  unfold rv
  rw [h2, e]
  cases ngK .f64 x <;> simp <;> grind

theorem mul_rv {x y r : Nat} (hx : finK .f64 x = true) (hy : finK .f64 y = true) (hr : finK .f64 r = true) (h : resK .mul .f64 x y r) : nrS (rv x * rv y) (rv r) := by
  obtain ⟨h1, h2⟩ := mul_near hx hy h hr
  have h3 := nrS_of_near h1 (av_nn r)
  unfold rv
  rw [h2]
  cases ngK .f64 x <;> cases ngK .f64 y <;> simp only [Bool.false_bne, Bool.true_bne, Bool.bne_false, Bool.bne_true, Bool.not_true, Bool.not_false, Bool.xor_false, Bool.xor_true, Bool.false_xor, Bool.true_xor, Bool.false_eq_true, if_false, if_true]
  · exact h3
  · rw [show av x * -av y = -(av x * av y) by grind]; exact nrS_neg h3
  · rw [show -av x * av y = -(av x * av y) by grind]; exact nrS_neg h3
  · rw [show -av x * -av y = av x * av y by grind]; exact h3

theorem rv_sv (x : Nat) : rv x = (svK .f64 x : Rat) / 2 ^ 1074 := by
  unfold rv svK av mg
  cases ngK .f64 x
  · simp only [Bool.false_eq_true, if_false, Rat.intCast_natCast]
  · simp only [if_true, Rat.intCast_neg, Rat.intCast_natCast]
    rw [Rat.div_def, Rat.div_def]; grind

theorem cast_neg {T : Int} (h : T < 0) : (T : Rat) = -(T.natAbs : Rat) := by
  have e : T = -(T.natAbs : Int) := by omega
  have := congrArg (fun z : Int => (z : Rat)) e
  simpa only [Rat.intCast_neg, Rat.intCast_natCast] using this
theorem cast_pos {T : Int} (h : ¬ T < 0) : (T : Rat) = (T.natAbs : Rat) := by
  have e : T = (T.natAbs : Int) := by omega
  have := congrArg (fun z : Int => (z : Rat)) e
  simpa only [Rat.intCast_natCast] using this
theorem add_rv {x y r : Nat} (hx : finK .f64 x = true) (hy : finK .f64 y = true) (hr : finK .f64 r = true) (h : resK .add .f64 x y r) : nrS (rv x + rv y) (rv r) := by
  have e := res_is h (add_spec .f64 x y hx hy)
  rw [e, fin_word] at hr
  have hr := of_decide_eq_true hr
  have hW := W_pos
  have hs : rv x + rv y = ((svK .f64 x + svK .f64 y : Int) : Rat) / 2 ^ 1074 := by
    rw [rv_sv, rv_sv, Rat.intCast_add, Rat.div_def, Rat.div_def, Rat.div_def]; grind
  rw [hs]
  generalize svK .f64 x + svK .f64 y = T at *
  have hm : mg r = vl FloatKind.f64.format (rr FloatKind.f64.format T.natAbs 0) := by rw [e]; exact mg_word _ _ hr
  have hn : nearR ((T.natAbs : Rat) / 2 ^ 1074) (av r) := by
    unfold av
    rw [hm]
    refine near_rr _ _ _ ?_
    rw [Rat.pow_zero, Rat.mul_one]
    exact Rat.div_mul_cancel (Rat.ne_of_gt hW)
  have h3 := nrS_of_near hn (av_nn r)
  by_cases hz : T = 0
  · subst hz
    have : av r = 0 := by unfold av; rw [hm]; simp only [Int.natAbs_zero, rr_zero, vl_zero]; rw [Rat.div_def]; exact Rat.zero_mul _
    have hr0 : rv r = av r := by unfold rv; rw [this]; split <;> grind
    rw [hr0]
    exact h3
  · have hg : ngK .f64 r = decide (T < 0) := by rw [e, if_neg hz, ngK_word _ _ _ (Nat.min_le_right _ _)]
    by_cases hl : T < 0
    · rw [rv_neg (by rw [hg]; exact decide_eq_true hl)]
      have e1 : (T : Rat) / 2 ^ 1074 = -((T.natAbs : Rat) / 2 ^ 1074) := by
        rw [cast_neg hl, Rat.div_def, Rat.div_def, Rat.neg_mul]
      rw [e1]
      exact nrS_neg h3
    · rw [rv_pos (by rw [hg]; exact decide_eq_false hl)]
      rw [cast_pos hl]
      exact h3
theorem sub_rv {x y r : Nat} (oy : okK .f64 y) (hx : finK .f64 x = true) (hy : finK .f64 y = true) (hr : finK .f64 r = true) (h : resK .sub .f64 x y r) : nrS (rv x - rv y) (rv r) := by
  have e : resK .add .f64 x (Op.negFloat .f64 y) r := by unfold resK at *; rwa [sub_is_add .f64 x y oy] at h
  have := add_rv hx (by rw [fin_neg _ oy]; exact hy) hr e
  rw [rv_turned oy] at this
  rw [show rv x - rv y = rv x + -rv y by grind]
  exact this
end Go.Proofs.Ytfohggiehbplkaa
namespace Go.Proofs.Ytfohggiehbplkaa
open Ieee Go.RowKit
set_option linter.unusedSimpArgs false
set_option linter.unusedVariables false

def ns (e h q A : Rat) : Prop := ab (q - A) ≤ e * ab A + h
theorem ab_two {a b : Rat} (h : ab a ≤ b) : a ≤ b ∧ -a ≤ b := by have := ab_le a; grind
theorem ns_err {e h q A M : Rat} (he : 0 ≤ e) (he1 : e * 4 ≤ 1) (h0 : 0 ≤ h) (hM : ab q ≤ M) (hh : h ≤ e * M) (n : ns e h q A) : ab (q - A) ≤ 3 * (e * M) ∧ ab A ≤ 2 * M := by
  unfold ns at n
  have t : ab A ≤ ab q + ab (q - A) := by
    have := ab_add q (-(q - A))
    rw [ab_neg, show q + -(q - A) = A by grind] at this
    exact this
  have hM0 : 0 ≤ M := by have := ab_nn q; grind
  have hA0 := ab_nn A
  have z := Rat.mul_nonneg he hM0
  have hA : ab A ≤ 2 * M := by
    refine Rat.le_of_mul_le_mul_right (c := 1 - e) ?_ (by grind)
    have m1 := rmul he1 hM0
    grind
  have m2 := rmul hA he
  exact ⟨by grind, hA⟩
/-- a product with a bounded factor -/
theorem ab_mul_le {x y a b : Rat} (hx : ab x ≤ a) (hy : ab y ≤ b) : ab (x * y) ≤ a * b := by
  rw [ab_mul]
  have h1 := rmul hy (ab_nn x)
  have h2 := Rat.mul_le_mul_of_nonneg_right hx (Rat.le_trans (ab_nn y) hy)
  grind
theorem ab_sub (a b : Rat) : ab (a - b) ≤ ab a + ab b := by
  have := ab_add a (-b)
  rw [ab_neg] at this
  rw [show a - b = a + -b by grind]
  exact this
end Go.Proofs.Ytfohggiehbplkaa
namespace Go.Proofs.Ytfohggiehbplkaa
open Ieee Go.RowKit
set_option linter.unusedSimpArgs false
set_option linter.unusedVariables false

/-- a quotient, with its sign: near some Q that times the divisor is nearly what was divided -/
theorem quo_rv {x y r : Nat} (hx : finK .f64 x = true) (hy : finK .f64 y = true) (y0 : mg y ≠ 0) (hr : finK .f64 r = true) (h : resK .quo .f64 x y r) :
    ∃ Q : Rat, ab (Q * rv y - rv x) ≤ epR * ab (rv x) ∧ nrS Q (rv r) := by
  obtain ⟨Q, k, q0, q1, q2, e, hn, _⟩ := quo_near hx hy y0
  have ex := res_is h e
  rw [ex, fin_word] at hr
  have hk := of_decide_eq_true hr
  have hg : ngK .f64 r = (ngK .f64 x ^^ ngK .f64 y) := by rw [ex]; exact ngK_word .f64 _ _ (Nat.min_le_right _ _)
  have ha : av r = (vl FloatKind.f64.format k : Rat) / 2 ^ 1074 := by rw [ex]; exact av_word _ _ hk
  rw [← ha] at hn
  have h3 := nrS_of_near hn (av_nn r)
  have hb : ab (Q * av y - av x) ≤ epR * av x := ab_of (by grind) (by grind)
  rw [ab_rv x]
  unfold rv
  rw [hg]
  cases ngK .f64 x <;> cases ngK .f64 y <;> simp only [Bool.xor_false, Bool.xor_true, Bool.false_xor, Bool.true_xor, Bool.not_true, Bool.not_false, Bool.false_bne, Bool.true_bne, Bool.bne_false, Bool.bne_true, Bool.false_eq_true, if_false, if_true]
  · exact ⟨Q, hb, h3⟩
  · exact ⟨-Q, by rw [show -Q * -av y - av x = Q * av y - av x by grind]; exact hb, nrS_neg h3⟩
  · exact ⟨-Q, by rw [show -Q * av y - -av x = -(Q * av y - av x) by grind, ab_neg]; exact hb, nrS_neg h3⟩
  · exact ⟨Q, by rw [show Q * -av y - -av x = -(Q * av y - av x) by grind, ab_neg]; exact hb, h3⟩

end Go.Proofs.Ytfohggiehbplkaa
namespace Go.Proofs.Ytfohggiehbplkaa
open Ieee Go.RowKit
set_option linter.unusedSimpArgs false
set_option linter.unusedVariables false

theorem abs_sv (u : Nat) : (svK .f64 u).natAbs = mg u := by unfold svK mg; split <;> simp
/-- a sum that comes out small is finite, whatever the signs -/
theorem add_small2 {x y r : Nat} (hx : finK .f64 x = true) (hy : finK .f64 y = true) (h : resK .add .f64 x y r) {B : Rat} (hB : B * 2 + 2 ≤ 2 ^ 1000) (hb : av x + av y ≤ B) : finK .f64 r = true := by
  have e := res_is h (add_spec .f64 x y hx hy)
  rw [e]
  refine fin_of _ (rung_fin ?_)
  have hT : (svK .f64 x + svK .f64 y).natAbs ≤ mg x + mg y := by
    have := Int.natAbs_add_le (svK .f64 x) (svK .f64 y)
    rwa [abs_sv, abs_sv] at this
  generalize (svK .f64 x + svK .f64 y).natAbs = T at *
  have hW := W_pos
  have hq : (T : Rat) / 2 ^ 1074 ≤ B := by
    refine Rat.le_trans ?_ hb
    refine Rat.le_of_mul_le_mul_right (c := 2 ^ 1074) ?_ hW
    have e1 : (av x + av y) * 2 ^ 1074 = ((mg x + mg y : Nat) : Rat) := by
      unfold av
      rw [Rat.add_mul, Rat.div_mul_cancel (Rat.ne_of_gt hW), Rat.div_mul_cancel (Rat.ne_of_gt hW), Rat.natCast_add]
    rw [e1, Rat.div_mul_cancel (Rat.ne_of_gt hW)]
    exact Rat.natCast_le_natCast.2 hT
  have hn : nearR ((T : Rat) / 2 ^ 1074) ((vl FloatKind.f64.format (rr FloatKind.f64.format T 0) : Rat) / 2 ^ 1074) := by
    refine near_rr _ _ _ ?_
    rw [Rat.pow_zero, Rat.mul_one]
    exact Rat.div_mul_cancel (Rat.ne_of_gt hW)
  have hn := hn.2
  have a1 : epR ≤ 1 / 4 := by decide +kernel
  have a2 : etR ≤ 1 := by decide +kernel
  have a4 : (0 : Rat) ≤ (vl FloatKind.f64.format (rr FloatKind.f64.format T 0) : Rat) / 2 ^ 1074 := by
    rw [Rat.div_def]; exact Rat.mul_nonneg Rat.natCast_nonneg (Rat.le_of_lt (Rat.inv_pos.2 W_pos))
  have a3 : (2 : Rat) ^ 100 * 2 + 2 ≤ 2 ^ 9000 := by decide +kernel
  generalize (vl FloatKind.f64.format (rr FloatKind.f64.format T 0) : Rat) / 2 ^ 1074 = A at *
  have a5 := rmul a1 a4
  generalize (T : Rat) / 2 ^ 1074 = q at *
  generalize (2 : Rat) ^ 100 = H at *
  generalize (2 : Rat) ^ 1000 = K at *
  grind
theorem sub_small2 {x y r : Nat} (oy : okK .f64 y) (hx : finK .f64 x = true) (hy : finK .f64 y = true) (h : resK .sub .f64 x y r) {B : Rat} (hB : B * 2 + 2 ≤ 2 ^ 1000) (hb : av x + av y ≤ B) : finK .f64 r = true := by
  have e : resK .add .f64 x (Op.negFloat .f64 y) r := by unfold resK at *; rwa [sub_is_add .f64 x y oy] at h
  refine add_small2 hx (by rw [fin_neg _ oy]; exact hy) e hB ?_
  have : av (Op.negFloat .f64 y) = av y := by unfold av mg; rw [(neg_facts .f64 y oy).1]
  rw [this]; exact hb

theorem fin_of_le {a b : Nat} (fb : finK .f64 b = true) (na : ngK .f64 a = false) (nb : ngK .f64 b = false) (h : leK .f64 a b = true) : finK .f64 a = true ∧ av a ≤ av b := by
  unfold leK at h
  simp only [Bool.and_eq_true, decide_eq_true_eq] at h
  have h := h.2
  rw [woK_eq, woK_eq, na, nb] at h
  simp only [Bool.false_eq_true, if_false] at h
  have h1 : rgK .f64 a ≤ rgK .f64 b := by omega
  exact ⟨decide_eq_true (Nat.lt_of_le_of_lt h1 (of_decide_eq_true fb)), mg_le_av (mg_rg.2 h1)⟩

end Go.Proofs.Ytfohggiehbplkaa
