/-
  Plain facts on floats, more: rounding to the nearest rung, sums and products of finite floats, signs turned. No program is named here.
-/
import Derived.Test.YtfohggiehbplkaaShp
import Derived.Test.YtfohggiehbplkaaWrow
namespace Go.Proofs.Ytfohggiehbplkaa
open Ieee Go.RowKit
end Go.Proofs.Ytfohggiehbplkaa
namespace Go.Proofs.Ytfohggiehbplkaa
open Ieee Go.RowKit
set_option linter.unusedSimpArgs false
set_option linter.unusedVariables false

theorem wo_sv (x y : Nat) : woK .f64 x ≤ woK .f64 y ↔ svK .f64 x ≤ svK .f64 y := by
  have hx := woK_eq .f64 x
  have hy := woK_eq .f64 y
  have vz : vl FloatKind.f64.format 0 = 0 := vl_zero _
  have le : ∀ {r s : Nat}, vl FloatKind.f64.format r ≤ vl FloatKind.f64.format s ↔ r ≤ s := fun {r s} => by
    rw [← Nat.not_lt, ← Nat.not_lt, vl_lt_iff]
  have pos : ∀ r, vl FloatKind.f64.format r = 0 ↔ r = 0 := fun r => ⟨fun h => vl_inj _ (h.trans vz.symm), fun h => by rw [h]; exact vz⟩
  rw [hx, hy]
  show (if ngK .f64 x then -(rgK .f64 x : Int) else (rgK .f64 x : Int)) ≤ (if ngK .f64 y then -(rgK .f64 y : Int) else (rgK .f64 y : Int)) ↔ (if ngK .f64 x then -(vl FloatKind.f64.format (rgK .f64 x) : Int) else (vl FloatKind.f64.format (rgK .f64 x) : Int)) ≤ (if ngK .f64 y then -(vl FloatKind.f64.format (rgK .f64 y) : Int) else (vl FloatKind.f64.format (rgK .f64 y) : Int))
  generalize rgK .f64 x = a
  generalize rgK .f64 y = b
  have l1 := @le a b
  have l2 := @le b a
  have p1 := pos a
  have p2 := pos b
  generalize vl FloatKind.f64.format a = u at *
  generalize vl FloatKind.f64.format b = v at *
  cases ngK .f64 x <;> cases ngK .f64 y <;> simp <;> omega
theorem rv_le (x y : Nat) : rv x ≤ rv y ↔ svK .f64 x ≤ svK .f64 y := by
  rw [rv_sv, rv_sv]
  constructor
  · intro h
    have := Rat.mul_le_mul_of_nonneg_right h (Rat.le_of_lt W_pos)
    rw [Rat.div_mul_cancel (Rat.ne_of_gt W_pos), Rat.div_mul_cancel (Rat.ne_of_gt W_pos)] at this
    exact Rat.intCast_le_intCast.1 this
  · intro h
    rw [Rat.div_def, Rat.div_def]
    exact Rat.mul_le_mul_of_nonneg_right (Rat.intCast_le_intCast.2 h) (Rat.le_of_lt (Rat.inv_pos.2 W_pos))
theorem le_rv {x y : Nat} (hx : nanK .f64 x = false) (hy : nanK .f64 y = false) : leK .f64 x y = true ↔ rv x ≤ rv y := by
  unfold leK
  rw [hx, hy, rv_le, ← wo_sv]
  simp
theorem lt_rv {x y : Nat} (hx : nanK .f64 x = false) (hy : nanK .f64 y = false) : ltK .f64 x y = true ↔ rv x < rv y := by
  have h := rv_le y x
  have g := wo_sv y x
  unfold ltK
  rw [hx, hy]
  simp
  rw [← Rat.not_le, h, ← g]
  omega
end Go.Proofs.Ytfohggiehbplkaa
namespace Go.Proofs.Ytfohggiehbplkaa
open Ieee Go.RowKit
set_option linter.unusedVariables false
theorem sv_word (s : Bool) {r : Nat} (h : r < infK .f64) : finK .f64 (FloatKind.f64.format.word s r) = true ∧ svK .f64 (FloatKind.f64.format.word s r) = if s then -(vl FloatKind.f64.format r : Int) else (vl FloatKind.f64.format r : Int) := by
  have h' := Nat.le_of_lt h
  refine ⟨by unfold finK; rw [rgK_word _ _ _ h']; exact decide_eq_true h, by unfold svK; rw [ngK_word _ _ _ h', rgK_word _ _ _ h']⟩
theorem sv_abs (c : Nat) : (svK .f64 c).natAbs = vl FloatKind.f64.format (rgK .f64 c) := by unfold svK; split <;> simp
theorem add_exact {p q r c : Nat} (fp : finK .f64 p = true) (fq : finK .f64 q = true) (fc : finK .f64 c = true) (h : resK .add .f64 p q r) (e : svK .f64 p + svK .f64 q = svK .f64 c) : finK .f64 r = true ∧ svK .f64 r = svK .f64 c := by
  have k := add_spec .f64 p q fp fq
  rw [e, sv_abs] at k
  have re := rr_exact FloatKind.f64.format fb1 (rgK .f64 c) 0
  rw [Nat.pow_zero, Nat.mul_one] at re
  have hc : rgK .f64 c < infK .f64 := of_decide_eq_true fc
  rw [re, Nat.min_eq_left (Nat.le_of_lt hc)] at k
  have e2 := res_is h k
  obtain ⟨k1, k2⟩ := sv_word (if svK .f64 c = 0 then ngK .f64 p && ngK .f64 q else decide (svK .f64 c < 0)) hc
  rw [← e2] at k1 k2
  refine ⟨k1, ?_⟩
  rw [k2, ← sv_abs]
  by_cases z : svK .f64 c = 0
  · rw [z]; simp
  · rw [if_neg z]
    by_cases l : svK .f64 c < 0
    · rw [if_pos (decide_eq_true l)]; omega
    · rw [if_neg (by simpa using l)]; omega
end Go.Proofs.Ytfohggiehbplkaa
namespace Go.Proofs.Ytfohggiehbplkaa
open Ieee Go.RowKit
set_option linter.unusedSimpArgs false

theorem fin_nan {x : Nat} (h : finK .f64 x = true) : nanK .f64 x = false := by
  have h1 := h
  unfold finK at h1
  rw [nanK_eq]
  simp only [decide_eq_true_eq] at h1
  simp only [decide_eq_false_iff_not]
  exact Nat.not_lt.2 (Nat.le_of_lt h1)
theorem oF_dv {op : BinOp} {n x y : Nat} (s : (floatBits op .f64 x y).isSome = true) (h : Bd n (Dv op x y)) : oF op x y = Dv op x y := by
  have e := res_dv (res_o op x y) s
  unfold oF
  rw [e, bits_num (fin_nan h.2.1)]
def BdP (n : Nat) (p : Vp) : Prop := Bd n p.1 ∧ Bd n p.2
theorem BdP.mono {m n : Nat} {p : Vp} (h : BdP m p) (hn : m ≤ n) : BdP n p := ⟨bd_mono h.1 hn, bd_mono h.2 hn⟩
end Go.Proofs.Ytfohggiehbplkaa
namespace Go.Proofs.Ytfohggiehbplkaa
open Ieee Go.RowKit
set_option linter.unusedSimpArgs false
set_option linter.unusedVariables false

def usB (x : Nat) : Bool := eqK .f64 x 0 || (leK .f64 4427038433705197568 (rgK .f64 x) && leK .f64 (rgK .f64 x) 4787326403894837248)
/-- a float of a usual size -/
structure Us (x : Nat) : Prop where
  ok : okK .f64 x
  bd : Bd 40 x
  low : rv x = 0 ∨ 1 ≤ av x * 2 ^ 40
theorem rg_av (x : Nat) : rv (rgK .f64 x) = av x := by
  have r1 : rgK .f64 (rgK .f64 x) = rgK .f64 x := by rw [rg64, rg64]; omega
  have r2 : ngK .f64 (rgK .f64 x) = false := by rw [ng64, rg64, beq_eq_false_iff_ne]; omega
  rw [rv_pos r2]
  unfold av mg
  rw [r1]
theorem rg_fin {x : Nat} (h : finK .f64 x = true) : finK .f64 (rgK .f64 x) = true := by
  have r1 : rgK .f64 (rgK .f64 x) = rgK .f64 x := by rw [rg64, rg64]; omega
  unfold finK at h ⊢
  rw [r1]; exact h
theorem rg_ok (x : Nat) : okK .f64 (rgK .f64 x) := by rw [okK64, rg64]; omega
theorem z_rv0 {r : Nat} (h : eqK .f64 r 0 = true) : rv r = 0 ∧ finK .f64 r = true := by
  rw [eqK_nought] at h
  have h0 := of_decide_eq_true h
  constructor
  · have : av r = 0 := by unfold av mg; rw [h0]; decide +kernel
    have a := ab_rv r
    rw [this] at a
    have := ab_le (rv r)
    grind
  · unfold finK; rw [h0]; decide +kernel
theorem us_num {x : Nat} (o : okK .f64 x) (h : usB x = true) : Us x := by
  unfold usB at h
  rw [Bool.or_eq_true, Bool.and_eq_true] at h
  rcases h with h | ⟨h1, h2⟩
  · exact ⟨o, eq_zero_bd o h 40, .inl (z_rv0 h).1⟩
  · have n1 := (le_nums h1).2
    have a1 := (le_rv (by decide +kernel) n1).1 h1
    have a2 := (le_rv n1 (by decide +kernel)).1 h2
    rw [rg_av] at a1 a2
    have c1 : rv 4427038433705197568 * 2 ^ 40 = 1 := by decide +kernel
    have c2 : rv 4787326403894837248 = 2 ^ 40 := by decide +kernel
    have hf : finK .f64 x = true := by
      cases hf : finK .f64 x
      · exfalso
        have e : rgK .f64 x = infK .f64 := fin_inf hf (by
          have r1 : rgK .f64 (rgK .f64 x) = rgK .f64 x := by rw [rg64, rg64]; omega
          rw [nanK_eq] at n1 ⊢
          rw [r1] at n1; exact n1)
        rw [e] at h2
        exact absurd h2 (by decide +kernel)
      · rfl
    refine ⟨o, ⟨o, hf, by rw [← c2]; exact a2⟩, .inr ?_⟩
    have := rmul a1 (c := 2 ^ 40) (by decide +kernel)
    grind
theorem mul_o {m n x y : Nat} (hx : Bd m x) (hy : Bd n y) (hn : m + n ≤ 900) : Bd (m + n + 1) (oF .mul x y) ∧ nrS (rv x * rv y) (rv (oF .mul x y)) := by
  have r := bd_mul hx hy hn
  rw [oF_dv (some_mul hx.2.1 hy.2.1) r]
  exact ⟨r, mul_rv hx.2.1 hy.2.1 r.2.1 (dv_res (some_mul hx.2.1 hy.2.1))⟩
theorem sub_oB {n x y : Nat} (hx : Bd n x) (hy : Bd n y) (hn : n ≤ 900) : Bd (n + 2) (oF .sub x y) ∧ nrS (rv x - rv y) (rv (oF .sub x y)) := by
  have r := bd_sub hx hy hn
  rw [oF_dv (some_sub hx.2.1 hy.2.1 hy.1) r]
  exact ⟨r, sub_rv hy.1 hx.2.1 hy.2.1 r.2.1 (dv_res (some_sub hx.2.1 hy.2.1 hy.1))⟩
theorem add_oB {n x y : Nat} (hx : Bd n x) (hy : Bd n y) (hn : n ≤ 900) : Bd (n + 2) (oF .add x y) ∧ nrS (rv x + rv y) (rv (oF .add x y)) := by
  have r := bd_add hx hy hn
  rw [oF_dv (some_add hx.2.1 hy.2.1) r]
  exact ⟨r, add_rv hx.2.1 hy.2.1 r.2.1 (dv_res (some_add hx.2.1 hy.2.1))⟩
theorem rg_bd {n x : Nat} (h : Bd n x) : Bd n (rgK .f64 x) := ⟨rg_ok x, rg_fin h.2.1, by
  have e := rg_av x
  have g := ab_rv (rgK .f64 x)
  rw [e, ab_pos (av_nn x)] at g
  rw [← g]; exact h.2.2⟩
theorem ns_q {e h q A : Rat} (he : 0 ≤ e) (he1 : e * 4 ≤ 1) (h0 : 0 ≤ h) (n : ns e h q A) : ab (q - A) ≤ 2 * (e * ab q) + 2 * h := by
  unfold ns at n
  have t : ab A ≤ ab q + ab (q - A) := by
    have := ab_add q (-(q - A))
    rw [ab_neg, show q + -(q - A) = A by grind] at this
    exact this
  have d0 := ab_nn (q - A)
  have m1 := rmul he1 d0
  have m2 := rmul t he
  have m3 := Rat.mul_nonneg he (ab_nn q)
  grind
/-- three factors, rounded twice -/
theorem prod3 {e h m p g f k M D : Rat} (he : 0 ≤ e) (he1 : e * 4096 ≤ 1) (h0 : 0 ≤ h) (hg : ab g ≤ D) (hD : 1 ≤ D) (hh : 8 * (D * h) ≤ e * M) (hM : ab (m * p * g) ≤ M) (n1 : ns e h (m * p) f) (n2 : ns e h (f * g) k) : ab (k - m * p * g) ≤ 8 * (e * M) := by
  have a1 := ns_q he (by grind) h0 n1
  have a2 := ns_q he (by grind) h0 n2
  have M0 : 0 ≤ M := Rat.le_trans (ab_nn _) hM
  have eM := Rat.mul_nonneg he M0
  have eMM := rmul he1 (Rat.mul_nonneg he M0)
  have g0 := ab_nn g
  -- f * g against m * p * g
  have b1 : ab (f * g - m * p * g) ≤ 2 * (e * M) + 2 * (D * h) := by
    rw [show f * g - m * p * g = (f - m * p) * g by grind, ab_mul]
    have c1 : ab (f - m * p) ≤ 2 * (e * ab (m * p)) + 2 * h := by
      rw [show f - m * p = -(m * p - f) by grind, ab_neg]; exact a1
    have c2 := Rat.mul_le_mul_of_nonneg_right c1 g0
    have c3 : ab (m * p) * ab g ≤ M := by rw [← ab_mul]; exact hM
    have c4 := rmul c3 he
    have c5 := rmul hg h0
    grind
  have b2 : ab (f * g) ≤ M + 2 * (e * M) + 2 * (D * h) := by
    have := ab_add (m * p * g) (f * g - m * p * g)
    rw [show m * p * g + (f * g - m * p * g) = f * g by grind] at this
    grind
  have b3 := rmul b2 he
  have b4 : h ≤ D * h := by have := Rat.mul_le_mul_of_nonneg_right hD h0; grind
  have Dh : 0 ≤ D * h := Rat.le_trans h0 b4
  have eDh := rmul he1 Dh
  have b5 : ab (f * g - k) ≤ 2 * (e * (M + 2 * (e * M) + 2 * (D * h))) + 2 * (D * h) := by grind
  have t1 := ab_two b1
  have t2 := ab_two b5
  refine ab_of ?_ ?_ <;> grind
end Go.Proofs.Ytfohggiehbplkaa
namespace Go.Proofs.Ytfohggiehbplkaa
open Ieee Go.RowKit
set_option linter.unusedSimpArgs false
set_option linter.unusedVariables false

theorem ep_pos : (0 : Rat) ≤ epR := by decide +kernel
theorem ep_4096 : epR * 4096 ≤ 1 := by decide +kernel
theorem et_pos : (0 : Rat) ≤ etR := by decide +kernel
theorem tiny_zero {r : Nat} (h : nrS 0 (rv r)) : rv r = 0 := by
  unfold nrS at h
  rw [show (0 : Rat) - rv r = -rv r by grind, ab_neg] at h
  rw [rv_sv] at h ⊢
  have e : ab ((svK .f64 r : Rat) / 2 ^ 1074) = (((svK .f64 r).natAbs : Nat) : Rat) / 2 ^ 1074 := by
    by_cases g : svK .f64 r < 0
    · rw [cast_neg g, show -((svK .f64 r).natAbs : Rat) / 2 ^ 1074 = -(((svK .f64 r).natAbs : Rat) / 2 ^ 1074) by grind, ab_neg, ab_pos]
      rw [Rat.div_def]; exact Rat.mul_nonneg (by exact_mod_cast Nat.zero_le _) (by decide +kernel)
    · rw [cast_pos g, ab_pos]
      rw [Rat.div_def]; exact Rat.mul_nonneg (by exact_mod_cast Nat.zero_le _) (by decide +kernel)
  rw [e] at h
  have hz : (svK .f64 r).natAbs = 0 := by
    rcases Nat.eq_zero_or_pos (svK .f64 r).natAbs with g | g
    · exact g
    · exfalso
      have g1 : (1 : Rat) ≤ ((svK .f64 r).natAbs : Rat) := by exact_mod_cast g
      have c : etR * 2 ^ 1074 = 1 / 2 := by decide +kernel
      have c2 : epR ≤ 1 / 4 := by decide +kernel
      have m := rmul h (c := 2 ^ 1074) (by decide +kernel)
      generalize ((svK .f64 r).natAbs : Rat) = z at *
      have d : (2 : Rat) ^ 1074 * (z / 2 ^ 1074) = z := by
        rw [Rat.div_def, ← Rat.mul_assoc, Rat.mul_comm (2 ^ 1074) z, Rat.mul_assoc, Rat.mul_inv_cancel _ (by decide +kernel), Rat.mul_one]
      generalize hT : (2 : Rat) ^ 1074 = T at *
      generalize z / T = y at *
      have m2 : T * (epR * y + etR) = epR * (T * y) + etR * T := by grind
      rw [m2, d, c] at m
      have m3 := Rat.mul_le_mul_of_nonneg_right c2 (show (0 : Rat) ≤ z by grind)
      grind
  have : svK .f64 r = 0 := by omega
  rw [this]
  decide +kernel
theorem mul_z {m n x y : Nat} (hx : Bd m x) (hy : Bd n y) (hn : m + n ≤ 900) (h : rv x * rv y = 0) : rv (oF .mul x y) = 0 := by
  have g := (mul_o hx hy hn).2
  rw [h] at g
  exact tiny_zero g
theorem add_z {n x y : Nat} (hx : Bd n x) (hy : Bd n y) (hn : n ≤ 900) (h : rv x + rv y = 0) : rv (oF .add x y) = 0 := by
  have g := (add_oB hx hy hn).2
  rw [h] at g
  exact tiny_zero g
theorem sub_z {n x y : Nat} (hx : Bd n x) (hy : Bd n y) (hn : n ≤ 900) (h : rv x - rv y = 0) : rv (oF .sub x y) = 0 := by
  have g := (sub_oB hx hy hn).2
  rw [h] at g
  exact tiny_zero g
end Go.Proofs.Ytfohggiehbplkaa
