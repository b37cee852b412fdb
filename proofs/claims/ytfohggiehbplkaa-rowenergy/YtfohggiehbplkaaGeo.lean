/-
  Plain facts on floats, more: rounding to the nearest rung, sums and products of finite floats, signs turned. No program is named here.
-/
import Derived.Test.YtfohggiehbplkaaTurns
namespace Go.Proofs.Ytfohggiehbplkaa
open Ieee Go.RowKit
set_option linter.unusedSimpArgs false
set_option linter.unusedVariables false

theorem mul_small2 {x y r : Nat} (hx : finK .f64 x = true) (hy : finK .f64 y = true) (h : resK .mul .f64 x y r) {B : Rat} (hB : B * 2 + 2 ≤ 2 ^ 1000) (hb : av x * av y ≤ B) : finK .f64 r = true := by
  have e := res_is h (mul_spec x y hx hy)
  rw [e]
  refine fin_of _ (rung_fin ?_)
  have hn : nearR (av x * av y) ((vl FloatKind.f64.format (rr FloatKind.f64.format (mg x * mg y) 1074) : Rat) / 2 ^ 1074) := by
    refine near_rr _ _ _ ?_
    have hW := W_pos
    unfold av
    push_cast
    generalize (2 : Rat) ^ 1074 = W at *
    grind
  have hn := hn.2
  have a1 : epR ≤ 1 / 4 := by decide +kernel
  have a2 : etR ≤ 1 := by decide +kernel
  have a4 : (0 : Rat) ≤ (vl FloatKind.f64.format (rr FloatKind.f64.format (mg x * mg y) 1074) : Rat) / 2 ^ 1074 := by
    rw [Rat.div_def]; exact Rat.mul_nonneg Rat.natCast_nonneg (Rat.le_of_lt (Rat.inv_pos.2 W_pos))
  show (vl FloatKind.f64.format (rr FloatKind.f64.format (mg x * mg y) 1074) : Rat) / 2 ^ 1074 ≤ _
  generalize (vl FloatKind.f64.format (rr FloatKind.f64.format (mg x * mg y) 1074) : Rat) / 2 ^ 1074 = A at *
  have a5 := rmul a1 a4
  generalize av x * av y = q at *
  generalize (2 : Rat) ^ 1000 = K at *
  grind
def Bd (n x : Nat) : Prop := okK .f64 x ∧ finK .f64 x = true ∧ av x ≤ 2 ^ n
theorem two_le {m n : Nat} (h : m ≤ n) : (2 : Rat) ^ m ≤ 2 ^ n := by
  obtain ⟨d, rfl⟩ := Nat.le.dest h
  rw [← pow2_cast, ← pow2_cast]
  exact Rat.natCast_le_natCast.2 (Nat.pow_le_pow_right (by decide) (by omega))
theorem two_ge1 (n : Nat) : (1 : Rat) ≤ 2 ^ n := by have := two_le (Nat.zero_le n); rwa [Rat.pow_zero] at this
theorem bd_mono {m n x : Nat} (h : Bd m x) (hn : m ≤ n) : Bd n x := ⟨h.1, h.2.1, Rat.le_trans h.2.2 (two_le hn)⟩
theorem two_900 {n : Nat} (hn : n ≤ 900) : (2 : Rat) ^ n * 8 + 2 ≤ 2 ^ 1000 := by
  have h1 := two_le hn
  have h2 : (2 : Rat) ^ 900 * 8 + 2 ≤ 2 ^ 1000 := by decide +kernel
  generalize (2 : Rat) ^ 900 = A at *
  generalize (2 : Rat) ^ 1000 = B at *
  generalize (2 : Rat) ^ n = C at *
  grind
theorem two_s1 (n : Nat) : (2 : Rat) ^ (n + 1) = 2 * 2 ^ n := by rw [Rat.pow_succ]; grind
theorem two_s2 (n : Nat) : (2 : Rat) ^ (n + 2) = 4 * 2 ^ n := by rw [two_s1, two_s1]; grind
theorem near_bd {q A B : Rat} (h : nrS q A) (hq : ab q ≤ B) (hB : 1 ≤ B) : ab A ≤ 2 * B := by
  unfold nrS at h
  have a1 : epR ≤ 1 / 4 := by decide +kernel
  have a2 : etR ≤ 1 / 8 := by decide +kernel
  have a5 := rmul a1 (ab_nn A)
  have h1 : ab A ≤ ab (q - A) + ab q := by
    have := ab_add (A - q) q
    have e : ab (A - q) = ab (q - A) := by rw [← ab_neg]; congr 1; grind
    rw [e] at this
    have e2 : A - q + q = A := by grind
    rwa [e2] at this
  grind
theorem okDv (op : BinOp) {x y : Nat} (h : (floatBits op .f64 x y).isSome = true) : okK .f64 (Dv op x y) := (dv_res h).1
theorem bd_add {n x y : Nat} (hx : Bd n x) (hy : Bd n y) (hn : n ≤ 900) : Bd (n + 2) (Dv .add x y) := by
  have s := some_add hx.2.1 hy.2.1
  have r := dv_res s
  have hb : av x + av y ≤ 2 * 2 ^ n := by have := hx.2.2; have := hy.2.2; grind
  have f := add_small2 hx.2.1 hy.2.1 r (B := 2 * 2 ^ n) (by have := two_900 hn; have := two_ge1 n; grind) hb
  refine ⟨okDv _ s, f, ?_⟩
  rw [← ab_rv, two_s2]
  have := near_bd (add_rv hx.2.1 hy.2.1 f r) (Rat.le_trans (ab_add _ _) (by rw [ab_rv, ab_rv]; exact hb)) (by have := two_ge1 n; grind)
  grind
theorem bd_sub {n x y : Nat} (hx : Bd n x) (hy : Bd n y) (hn : n ≤ 900) : Bd (n + 2) (Dv .sub x y) := by
  have s := some_sub hx.2.1 hy.2.1 hy.1
  have r := dv_res s
  have hb : av x + av y ≤ 2 * 2 ^ n := by have := hx.2.2; have := hy.2.2; grind
  have f := sub_small2 hy.1 hx.2.1 hy.2.1 r (B := 2 * 2 ^ n) (by have := two_900 hn; have := two_ge1 n; grind) hb
  refine ⟨okDv _ s, f, ?_⟩
  rw [← ab_rv, two_s2]
  have := near_bd (sub_rv hy.1 hx.2.1 hy.2.1 f r) (B := 2 * 2 ^ n) (by
    have h1 := ab_add (rv x) (-rv y)
    rw [ab_neg, ab_rv, ab_rv] at h1
    have e : rv x + -rv y = rv x - rv y := by grind
    rw [e] at h1
    exact Rat.le_trans h1 hb) (by have := two_ge1 n; grind)
  grind
theorem bd_mul {m n x y : Nat} (hx : Bd m x) (hy : Bd n y) (hn : m + n ≤ 900) : Bd (m + n + 1) (Dv .mul x y) := by
  have s := some_mul hx.2.1 hy.2.1
  have r := dv_res s
  have hb : av x * av y ≤ 2 ^ (m + n) := by
    rw [rp_add]
    exact Rat.le_trans (Rat.mul_le_mul_of_nonneg_right hx.2.2 (av_nn y)) (Rat.mul_le_mul_of_nonneg_left hy.2.2 (Rat.le_trans (by decide) (two_ge1 m)))
  have f := mul_small2 hx.2.1 hy.2.1 r (B := 2 ^ (m + n)) (by have := two_900 hn; have := two_ge1 (m + n); grind) hb
  refine ⟨okDv _ s, f, ?_⟩
  rw [← ab_rv, two_s1]
  exact near_bd (mul_rv hx.2.1 hy.2.1 f r) (by rw [ab_mul, ab_rv, ab_rv]; exact hb) (two_ge1 _)
end Go.Proofs.Ytfohggiehbplkaa
namespace Go.Proofs.Ytfohggiehbplkaa
open Ieee Go.RowKit
set_option linter.unusedSimpArgs false
set_option linter.unusedVariables false

def crK (ax ay bx b_y : Nat) : Nat := Dv .sub (Dv .mul ax b_y) (Dv .mul ay bx)
theorem some_quo {x y : Nat} (hx : finK .f64 x = true) (hy : finK .f64 y = true) (h0 : mg y ≠ 0) : (floatBits .quo .f64 x y).isSome = true := by
  obtain ⟨Q, r, _, _, _, e, _⟩ := quo_near hx hy h0
  rw [e]; rfl
end Go.Proofs.Ytfohggiehbplkaa
namespace Go.Proofs.Ytfohggiehbplkaa
open Ieee Go.RowKit
set_option linter.unusedSimpArgs false
set_option linter.unusedVariables false

/-- a triangle of a fan: twice its area, and the way to its middle by that -/
def tA (fx fy px p_y qx qy : Nat) : Nat := crK (Dv .sub px fx) (Dv .sub p_y fy) (Dv .sub qx fx) (Dv .sub qy fy)
/-- sums of the first k + 1 triangles -/
def sA (xs ys : Nat → Nat) : Nat → Nat
  | 0 => tA (xs 0) (ys 0) (xs 1) (ys 1) (xs 2) (ys 2)
  | k + 1 => Dv .add (sA xs ys k) (tA (xs 0) (ys 0) (xs (k + 2)) (ys (k + 2)) (xs (k + 3)) (ys (k + 3)))
theorem run_add_dv (P : Program) (t : TypeId) (x y : Nat) (w : World) (hx : finK .f64 x = true) (hy : finK .f64 y = true) : (binOp .add t (.float .f64 x) (.float .f64 y)).run P w = .ok (.float .f64 (Dv .add x y)) w := by
  obtain ⟨v, hv⟩ := Option.isSome_iff_exists.1 (some_add hx hy)
  rw [run_add, show fd .add .f64 x y = 0 by unfold fd; rw [hv]; rfl]
  unfold fv Dv
  rw [hv]; rfl
theorem run_quo_dv (P : Program) (t : TypeId) (x y : Nat) (w : World) (hx : finK .f64 x = true) (hy : finK .f64 y = true) (h0 : mg y ≠ 0) : (binOp .quo t (.float .f64 x) (.float .f64 y)).run P w = .ok (.float .f64 (Dv .quo x y)) w := by
  obtain ⟨v, hv⟩ := Option.isSome_iff_exists.1 (some_quo hx hy h0)
  rw [run_quo, show fd .quo .f64 x y = 0 by unfold fd; rw [hv]; rfl]
  unfold fv Dv
  rw [hv]; rfl
end Go.Proofs.Ytfohggiehbplkaa
namespace Go.Proofs.Ytfohggiehbplkaa
open Ieee Go.RowKit
set_option linter.unusedSimpArgs false
set_option linter.unusedVariables false

/-- a quotient by what is not too small -/
theorem bd_quo {m k l x y : Nat} (hx : Bd m x) (hy : Bd l y) (h1 : 1 ≤ av y * 2 ^ k) (hn : m + k ≤ 800) : Bd (m + k + 3) (Dv .quo x y) ∧ resK .quo .f64 x y (Dv .quo x y) := by
  have y0 : mg y ≠ 0 := by
    intro h
    have : av y = 0 := by unfold av; rw [h]; decide +kernel
    rw [this] at h1
    have : (0 : Rat) * 2 ^ k = 0 := Rat.zero_mul _
    rw [this] at h1
    exact absurd h1 (by decide)
  have s := some_quo hx.2.1 hy.2.1 y0
  have r := dv_res s
  obtain ⟨Q, c, q0, q1, q2, e, hnr, _⟩ := quo_near hx.2.1 hy.2.1 y0
  have hQ : Q ≤ 2 * 2 ^ (m + k) := by
    have a1 : epR ≤ 1 := by decide +kernel
    have a2 := rmul a1 (av_nn x)
    have a3 : Q * av y ≤ 2 * av x := by grind
    have a4 : Q ≤ Q * (av y * 2 ^ k) := by
      have := Rat.mul_le_mul_of_nonneg_left h1 q0
      rwa [Rat.mul_one] at this
    have a5 : (0 : Rat) ≤ 2 ^ k := Rat.le_trans (by decide) (two_ge1 k)
    have a6 := Rat.mul_le_mul_of_nonneg_right a3 a5
    have a7 := Rat.mul_le_mul_of_nonneg_right hx.2.2 a5
    rw [rp_add]
    grind
  have hv : (vl FloatKind.f64.format c : Rat) / 2 ^ 1074 ≤ 4 * 2 ^ (m + k) := by
    have h2 := hnr.2
    have a1 : epR ≤ 1 / 4 := by decide +kernel
    have a2 : etR ≤ 1 := by decide +kernel
    have a4 : (0 : Rat) ≤ (vl FloatKind.f64.format c : Rat) / 2 ^ 1074 := by
      rw [Rat.div_def]; exact Rat.mul_nonneg Rat.natCast_nonneg (Rat.le_of_lt (Rat.inv_pos.2 W_pos))
    have a5 := rmul a1 a4
    have a6 := two_ge1 (m + k)
    generalize (vl FloatKind.f64.format c : Rat) / 2 ^ 1074 = A at *
    grind
  have hc : c < infK .f64 := rung_fin (Rat.le_trans hv (by
    have := two_900 (n := m + k) (by omega)
    have := two_ge1 (m + k)
    generalize (2 : Rat) ^ 1000 = K at *
    grind))
  have er := res_is r e
  refine ⟨⟨okDv _ s, by rw [er]; exact fin_of _ hc, ?_⟩, r⟩
  rw [er, av_word _ _ hc]
  refine Rat.le_trans hv ?_
  rw [show m + k + 3 = (m + k) + 1 + 2 by omega, two_s2, two_s1]
  have := two_ge1 (m + k)
  grind
end Go.Proofs.Ytfohggiehbplkaa
