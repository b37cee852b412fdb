/-
  Plain facts on floats, more: rounding to the nearest rung, sums and products of finite floats, signs turned. No program is named here.
-/
import Derived.Test.YtpedpgpgcmhnoaaClq
namespace Go.Proofs.Ytpedpgpgcmhnoaa
open Ieee Go.RowKit
set_option linter.unusedSimpArgs false
set_option linter.unusedVariables false

/-! ### A ray's quotient, near to what it stands for -/
theorem ab_tri (a b c : Rat) : ab (a - c) ≤ ab (a - b) + ab (b - c) := by
  have := ab_add (a - b) (b - c)
  rwa [show a - b + (b - c) = a - c by grind] at this
theorem ab_turn (a b : Rat) : ab (a - b) = ab (b - a) := by rw [← ab_neg]; congr 1; grind
theorem quo_rat2 {A D P W Q e h M N : Rat} (he : 0 ≤ e) (he1 : e * 1024 ≤ 1) (hh : 0 ≤ h) (hW : ab W ≤ N) (hD : ab D ≤ M) (hhe : h * N ≤ e * M) (hhM : h ≤ e * M) (h1 : ab (A - D) ≤ e * ab D + h) (h2 : ab (Q * W - D) ≤ e * ab D) (h3 : ab (Q - P) ≤ e * ab P + h) : ab (P * W - A) ≤ 8 * (e * M) := by
  have w0 := ab_nn W
  have d0 := ab_nn D
  have p0 := ab_nn P
  have e1 : ab (P * W) = ab P * ab W := ab_mul P W
  have e2 : ab (P * W - Q * W) = ab (Q - P) * ab W := by rw [show P * W - Q * W = (P - Q) * W by grind, ab_mul, ab_turn]
  have e3 : ab (Q - P) * ab W ≤ (e * ab P + h) * ab W := Rat.mul_le_mul_of_nonneg_right h3 w0
  have e4 : (e * ab P + h) * ab W = e * (ab P * ab W) + h * ab W := by grind
  have e5 : h * ab W ≤ h * N := Rat.mul_le_mul_of_nonneg_left hW hh
  have e6 : e * ab D ≤ e * M := Rat.mul_le_mul_of_nonneg_left hD he
  have t1 := ab_tri (P * W) (Q * W) D
  have t2 := ab_tri (P * W) D A
  have t3 : ab (P * W) ≤ ab (P * W - D) + ab D := by
    have := ab_add (P * W - D) D
    rwa [show P * W - D + D = P * W by grind] at this
  have t4 := ab_turn D A
  have x0 : 0 ≤ ab P * ab W := Rat.mul_nonneg p0 w0
  have m0 : 0 ≤ M := Rat.le_trans d0 hD
  generalize hX : ab P * ab W = X at *
  have t5 : e * X * 1024 ≤ X := by
    have := Rat.mul_le_mul_of_nonneg_right he1 x0
    grind
  have t6 : X ≤ 4 * M := by
    have : e * M * 1024 ≤ M := by
      have := Rat.mul_le_mul_of_nonneg_right he1 m0
      grind
    grind
  have t7 : e * X ≤ e * (4 * M) := Rat.mul_le_mul_of_nonneg_left t6 he
  grind
theorem ep_facts : (0 : Rat) ≤ epR ∧ epR * 1024 ≤ 1 ∧ (0 : Rat) ≤ etR ∧ etR * 2 ^ 20 ≤ epR * 2 ^ 22 ∧ etR ≤ epR * 2 ^ 22 ∧ 8 * (epR * 2 ^ 22) ≤ 1 / 2 ^ 28 := by
  refine ⟨?_, ?_, ?_, ?_, ?_, ?_⟩ <;> decide +kernel
/-- a ray's quotient times the way is what leads to the box's end, up to 2 ^ -28 -/
theorem ax_quo {low frm way d p : Nat} (h1 : Bd 20 low) (h2 : Bd 20 frm) (h3 : Bd 20 way) (hw : 1 ≤ av way * 2 ^ 20) (hd : resK .sub .f64 low frm d) (hp : resK .quo .f64 d way p) : Bd 45 p ∧ ab (rv p * rv way - (rv low - rv frm)) ≤ 1 / 2 ^ 28 := by
  have ed := res_dv hd (some_sub h1.2.1 h2.2.1 h2.1)
  have bd : Bd 22 d := by rw [ed]; exact bd_sub h1 h2 (by decide)
  have y0 : mg way ≠ 0 := by
    intro h
    have : av way = 0 := by unfold av; rw [h]; decide +kernel
    rw [this] at hw
    exact absurd hw (by decide +kernel)
  have ep := res_dv hp (some_quo bd.2.1 h3.2.1 y0)
  have bp : Bd 45 p := by rw [ep]; exact (bd_quo bd h3 hw (by decide)).1
  refine ⟨bp, ?_⟩
  have r1 := sub_rv h2.1 h1.2.1 h2.2.1 bd.2.1 hd
  obtain ⟨Q, r2, r3⟩ := quo_rv bd.2.1 h3.2.1 y0 bp.2.1 hp
  obtain ⟨a1, a2, a3, a4, a5, a6⟩ := ep_facts
  refine Rat.le_trans (quo_rat2 a1 a2 a3 (by rw [ab_rv]; exact h3.2.2) (by rw [ab_rv]; exact bd.2.2) a4 a5 r1 r2 r3) a6
end Go.Proofs.Ytpedpgpgcmhnoaa
namespace Go.Proofs.Ytpedpgpgcmhnoaa
open Ieee Go.RowKit
set_option linter.unusedSimpArgs false
set_option linter.unusedVariables false

/-! ### What is cut lies on the plane, but for rounding -/
theorem op_err {q A B : Rat} (h : nrS q A) (hq : ab q ≤ B) (hB : 1 ≤ B) : ab A ≤ 2 * B ∧ ab (q - A) ≤ 3 * (epR * B) := by
  have h1 := near_bd h hq hB
  refine ⟨h1, ?_⟩
  have e0 : (0 : Rat) ≤ epR := by decide +kernel
  have e1 : etR ≤ epR := by decide +kernel
  have a1 := rmul h1 e0
  have a2 := rmul hB e0
  unfold nrS at h
  grind
theorem ab_bd {n x : Nat} (h : Bd n x) : ab (rv x) ≤ 2 ^ n := by rw [ab_rv]; exact h.2.2
/-- how far a place lies beyond a plane, and what it stands for -/
theorem far_err {k : Nat} {p : Pn} {a : Pt} {B : Rat} (hp : PnB p) (ha : PtB k a) (hk : k ≤ 600) (hB : 1 ≤ B) (n1 : ab (rv p.1) ≤ 2) (n2 : ab (rv p.2.1) ≤ 2) (hf : ab (rv p.2.2) ≤ B) (h1 : ab (rv a.1) ≤ B) (h2 : ab (rv a.2) ≤ B) :
    ab (rv (frK p a)) ≤ 34 * B ∧ ab (rv p.1 * rv a.1 + rv p.2.1 * rv a.2 - rv p.2.2 - rv (frK p a)) ≤ 87 * (epR * B) := by
  have e0 : (0 : Rat) ≤ epR := by decide +kernel
  have bx := bd_mul hp.1 ha.1 (by omega)
  have b_y := bd_mul hp.2.1 ha.2 (by omega)
  have bs := bd_add bx b_y (by omega)
  have bf := fr_bd hp ha hk
  have rx := mul_rv hp.1.2.1 ha.1.2.1 bx.2.1 (dv_res (some_mul hp.1.2.1 ha.1.2.1))
  have ry := mul_rv hp.2.1.2.1 ha.2.2.1 b_y.2.1 (dv_res (some_mul hp.2.1.2.1 ha.2.2.1))
  have rs := add_rv bx.2.1 b_y.2.1 bs.2.1 (dv_res (some_add bx.2.1 b_y.2.1))
  have rf := sub_rv hp.2.2.1 bs.2.1 hp.2.2.2.1 bf.2.1 (dv_res (some_sub bs.2.1 hp.2.2.2.1 hp.2.2.1))
  obtain ⟨x1, x2⟩ := op_err (B := 2 * B) rx (ab_mul_le n1 h1) (by grind)
  obtain ⟨y1, y2⟩ := op_err (B := 2 * B) ry (ab_mul_le n2 h2) (by grind)
  obtain ⟨s1, s2⟩ := op_err (B := 8 * B) rs (Rat.le_trans (ab_add _ _) (by grind)) (by grind)
  obtain ⟨f1, f2⟩ := op_err (B := 17 * B) rf (Rat.le_trans (ab_sub _ _) (by show ab (rv (Dv .add (Dv .mul p.1 a.1) (Dv .mul p.2.1 a.2))) + _ ≤ _; grind)) (by grind)
  refine ⟨by show ab (rv (frK p a)) ≤ _; have : rv (frK p a) = rv (Dv .sub (Dv .add (Dv .mul p.1 a.1) (Dv .mul p.2.1 a.2)) p.2.2) := rfl; grind, ?_⟩
  have ef : rv (frK p a) = rv (Dv .sub (Dv .add (Dv .mul p.1 a.1) (Dv .mul p.2.1 a.2)) p.2.2) := rfl
  rw [ef]
  generalize rv (Dv .sub (Dv .add (Dv .mul p.1 a.1) (Dv .mul p.2.1 a.2)) p.2.2) = U at *
  generalize rv (Dv .add (Dv .mul p.1 a.1) (Dv .mul p.2.1 a.2)) = S at *
  generalize rv (Dv .mul p.1 a.1) = X1 at *
  generalize rv (Dv .mul p.2.1 a.2) = Y1 at *
  have t1 := ab_add (rv p.1 * rv a.1 - X1) (rv p.2.1 * rv a.2 - Y1)
  have t2 := ab_add (X1 + Y1 - S) (S - rv p.2.2 - U)
  have t3 := ab_add (rv p.1 * rv a.1 - X1 + (rv p.2.1 * rv a.2 - Y1)) (X1 + Y1 - S + (S - rv p.2.2 - U))
  rw [show rv p.1 * rv a.1 - X1 + (rv p.2.1 * rv a.2 - Y1) + (X1 + Y1 - S + (S - rv p.2.2 - U)) = rv p.1 * rv a.1 + rv p.2.1 * rv a.2 - rv p.2.2 - U by grind] at t3
  grind
/-- a cut's part -/
theorem cut_part {k a b t : Nat} {M : Rat} (ha : Bd k a) (hb : Bd k b) (ht : Bd 3 t) (hk : k ≤ 600) (hM : 1 ≤ M) (h1 : ab (rv a) ≤ M) (h2 : ab (rv b) ≤ M) :
    ab (rv (Dv .add a (Dv .mul t (Dv .sub b a)))) ≤ 130 * M ∧ ab (rv a + rv t * (rv b - rv a) - rv (Dv .add a (Dv .mul t (Dv .sub b a)))) ≤ 339 * (epR * M) := by
  have e0 : (0 : Rat) ≤ epR := by decide +kernel
  have bd := bd_sub hb ha (by omega)
  have bm := bd_mul ht bd (by omega)
  rw [show 3 + (k + 2) + 1 = k + 6 by omega] at bm
  have ba := bd_add (bd_mono ha (by omega : k ≤ k + 6)) bm (by omega)
  have rd := sub_rv ha.1 hb.2.1 ha.2.1 bd.2.1 (dv_res (some_sub hb.2.1 ha.2.1 ha.1))
  have rm := mul_rv ht.2.1 bd.2.1 bm.2.1 (dv_res (some_mul ht.2.1 bd.2.1))
  have ra := add_rv ha.2.1 bm.2.1 ba.2.1 (dv_res (some_add ha.2.1 bm.2.1))
  have t8 : ab (rv t) ≤ 8 := by have := ab_bd ht; rwa [show (2 : Rat) ^ 3 = 8 by decide +kernel] at this
  obtain ⟨d1, d2⟩ := op_err (B := 2 * M) rd (Rat.le_trans (ab_sub _ _) (by grind)) (by grind)
  obtain ⟨m1, m2⟩ := op_err (B := 32 * M) rm (Rat.le_trans (ab_mul_le t8 d1) (by grind)) (by grind)
  obtain ⟨a1, a2⟩ := op_err (B := 65 * M) ra (Rat.le_trans (ab_add _ _) (by grind)) (by grind)
  refine ⟨by grind, ?_⟩
  generalize rv (Dv .add a (Dv .mul t (Dv .sub b a))) = C at *
  generalize rv (Dv .mul t (Dv .sub b a)) = Mm at *
  generalize rv (Dv .sub b a) = D at *
  have t1 := ab_mul_le t8 d2
  have t2 := ab_add (rv t * (rv b - rv a - D)) (rv t * D - Mm)
  have t3 := ab_add (rv t * (rv b - rv a - D) + (rv t * D - Mm)) (rv a + Mm - C)
  rw [show rv t * (rv b - rv a - D) + (rv t * D - Mm) + (rv a + Mm - C) = rv a + rv t * (rv b - rv a) - C by grind] at t3
  grind
theorem far_mix {N1 N2 F a1 a2 b1 b2 t C1 C2 u w d e M : Rat} (e0 : 0 ≤ e * M) (t8 : ab t ≤ 8) (n1 : ab N1 ≤ 2) (n2 : ab N2 ≤ 2)
    (hu : ab (N1 * a1 + N2 * a2 - F - u) ≤ 87 * (e * M)) (hw : ab (N1 * b1 + N2 * b2 - F - w) ≤ 87 * (e * M)) (hd : ab (u - w - d) ≤ 204 * (e * M)) (ht : ab (t * d - u) ≤ 1258 * (e * M))
    (h1 : ab (a1 + t * (b1 - a1) - C1) ≤ 339 * (e * M)) (h2 : ab (a2 + t * (b2 - a2) - C2) ≤ 339 * (e * M)) : ab (N1 * C1 + N2 * C2 - F) ≤ 5725 * (e * M) := by
  have k1 := ab_mul_le n1 h1
  have k2 := ab_mul_le n2 h2
  have k3 := ab_mul_le t8 hd
  have k4 := ab_mul_le t8 hu
  have k5 := ab_mul_le t8 hw
  -- N.C - F = (N.a - F - u) - t (N.a - F - u) + t (N.b - F - w) + (u - t d) - t (u - w - d) - N (..)
  have s1 := ab_sub (N1 * a1 + N2 * a2 - F - u) (t * (N1 * a1 + N2 * a2 - F - u))
  have s2 := ab_sub (t * (N1 * b1 + N2 * b2 - F - w)) (t * d - u)
  have s3 := ab_add (N1 * a1 + N2 * a2 - F - u - t * (N1 * a1 + N2 * a2 - F - u)) (t * (N1 * b1 + N2 * b2 - F - w) - (t * d - u))
  have s4 := ab_sub (N1 * a1 + N2 * a2 - F - u - t * (N1 * a1 + N2 * a2 - F - u) + (t * (N1 * b1 + N2 * b2 - F - w) - (t * d - u))) (t * (u - w - d))
  have s5 := ab_add (N1 * (a1 + t * (b1 - a1) - C1)) (N2 * (a2 + t * (b2 - a2) - C2))
  have s6 := ab_sub (N1 * a1 + N2 * a2 - F - u - t * (N1 * a1 + N2 * a2 - F - u) + (t * (N1 * b1 + N2 * b2 - F - w) - (t * d - u)) - t * (u - w - d)) (N1 * (a1 + t * (b1 - a1) - C1) + N2 * (a2 + t * (b2 - a2) - C2))
  rw [show N1 * a1 + N2 * a2 - F - u - t * (N1 * a1 + N2 * a2 - F - u) + (t * (N1 * b1 + N2 * b2 - F - w) - (t * d - u)) - t * (u - w - d) - (N1 * (a1 + t * (b1 - a1) - C1) + N2 * (a2 + t * (b2 - a2) - C2)) = N1 * C1 + N2 * C2 - F by grind] at s6
  grind
/-- 2 ^ -38 of what is greatest, as it is rounded -/
theorem most_low {m : Nat} (hm : Bd 43 m) (h1 : 1 ≤ rv m) : Bd 10 (Dv .mul 4436045632959938560 m) ∧ 32000 * (epR * rv m) ≤ rv (Dv .mul 4436045632959938560 m) := by
  have b0 : Bd 0 4436045632959938560 := ⟨by rw [okK64]; decide, by decide +kernel, by decide +kernel⟩
  have bm := bd_mul b0 hm (by decide)
  have r := mul_rv b0.2.1 hm.2.1 bm.2.1 (dv_res (some_mul b0.2.1 hm.2.1))
  have ev : rv 4436045632959938560 = 1 / 2 ^ 38 := by decide +kernel
  rw [ev] at r
  have am : ab (rv m) ≤ 2 ^ 43 := ab_bd hm
  have hn := ab_pos (show 0 ≤ rv m by grind)
  have hs : ab (1 / 2 ^ 38 * rv m) = 1 / 2 ^ 38 * rv m := ab_pos (Rat.mul_nonneg (by decide +kernel) (by grind))
  have e1 : etR * 2 ^ 60 ≤ epR := by decide +kernel
  have e2 : epR * 32768 = 1 / 2 ^ 38 := by decide +kernel
  have e3 : (0 : Rat) ≤ epR := by decide +kernel
  have e4 : epR * 1024 ≤ 1 := by decide +kernel
  have e5 : etR ≤ epR := by decide +kernel
  have key : 32000 * (epR * rv m) ≤ rv (Dv .mul 4436045632959938560 m) ∧ rv (Dv .mul 4436045632959938560 m) ≤ 2 * (1 / 2 ^ 38 * rv m) := by
    have h := r
    unfold nrS at h
    generalize rv (Dv .mul 4436045632959938560 m) = P at *
    have a1 := (ab_le (1 / 2 ^ 38 * rv m - P)).1
    have a2 := (ab_le (1 / 2 ^ 38 * rv m - P)).2
    have q := rmul h1 e3
    have t1 := ab_add (P - 1 / 2 ^ 38 * rv m) (1 / 2 ^ 38 * rv m)
    rw [show P - 1 / 2 ^ 38 * rv m + 1 / 2 ^ 38 * rv m = P by grind] at t1
    have t2 := ab_neg (1 / 2 ^ 38 * rv m - P)
    rw [show -(1 / 2 ^ 38 * rv m - P) = P - 1 / 2 ^ 38 * rv m by grind] at t2
    have t3 := rmul e4 (ab_nn P)
    generalize (1 : Rat) / 2 ^ 38 = Z at *
    subst e2
    rw [hs] at t1
    have t4 := rmul e4 (show 0 ≤ epR * rv m by grind)
    constructor <;> grind
  refine ⟨⟨bm.1, bm.2.1, ?_⟩, key.1⟩
  rw [← ab_rv, ab_pos (by have := rmul h1 e3; grind)]
  refine Rat.le_trans key.2 ?_
  have : rv m ≤ 2 ^ 43 := Rat.le_trans (ab_le _).1 am
  have e6 : (2 : Rat) * (1 / 2 ^ 38 * 2 ^ 43) ≤ 2 ^ 10 := by decide +kernel
  have e7 := Rat.mul_le_mul_of_nonneg_left this (show (0 : Rat) ≤ 1 / 2 ^ 38 by decide +kernel)
  generalize (1 : Rat) / 2 ^ 38 = Z at *
  grind
theorem cut_in {p : Pn} {a b : Pt} {m : Nat} (hp : PnB p) (ha : PtB 40 a) (hb : PtB 40 b) (hm : Bd 43 m) (hM : 1 ≤ rv m) (n1 : ab (rv p.1) ≤ 2) (n2 : ab (rv p.2.1) ≤ 2) (hf : ab (rv p.2.2) ≤ rv m) (a1 : ab (rv a.1) ≤ rv m) (a2 : ab (rv a.2) ≤ rv m) (b1 : ab (rv b.1) ≤ rv m) (b2 : ab (rv b.2) ≤ rv m) (h : wiB p a ≠ wiB p b) :
    leK .f64 (frK p (cuP p a b)) (Dv .mul 4436045632959938560 m) = true := by
  have e0 : (0 : Rat) ≤ epR := by decide +kernel
  have e5 : etR ≤ epR := by decide +kernel
  obtain ⟨nz, bd, bt, rq⟩ := cuT_bd hp ha hb (by decide) h
  have bc := cu_bd hp ha hb (by decide) h
  have fa := fr_bd hp ha (by decide)
  have fb := fr_bd hp hb (by decide)
  obtain ⟨u1, u2⟩ := far_err hp ha (by decide) hM n1 n2 hf a1 a2
  obtain ⟨w1, w2⟩ := far_err hp hb (by decide) hM n1 n2 hf b1 b2
  have rd := sub_rv fb.1 fa.2.1 fb.2.1 bd.2.1 (dv_res (some_sub fa.2.1 fb.2.1 fb.1))
  obtain ⟨d1, d2⟩ := op_err (B := 68 * rv m) rd (Rat.le_trans (ab_sub _ _) (by grind)) (by grind)
  have t8 : ab (rv (cuT p a b)) ≤ 8 := by have := ab_bd bt; rwa [show (2 : Rat) ^ 3 = 8 by decide +kernel] at this
  obtain ⟨Q, q1, q2⟩ := quo_rv fa.2.1 bd.2.1 nz bt.2.1 rq
  have qM := rmul hM e0
  have ht : ab (rv (cuT p a b) * rv (Dv .sub (frK p a) (frK p b)) - rv (frK p a)) ≤ 1258 * (epR * rv m) := by
    unfold nrS at q2
    have z1 : ab (Q - rv (cuT p a b)) ≤ 9 * epR := by
      have := rmul t8 e0
      grind
    have z2 := ab_mul_le z1 d1
    have z3 := ab_sub (Q * rv (Dv .sub (frK p a) (frK p b)) - rv (frK p a)) ((Q - rv (cuT p a b)) * rv (Dv .sub (frK p a) (frK p b)))
    rw [show Q * rv (Dv .sub (frK p a) (frK p b)) - rv (frK p a) - (Q - rv (cuT p a b)) * rv (Dv .sub (frK p a) (frK p b)) = rv (cuT p a b) * rv (Dv .sub (frK p a) (frK p b)) - rv (frK p a) by grind] at z3
    have z4 := rmul u1 e0
    grind
  obtain ⟨x1, x2⟩ := cut_part ha.1 hb.1 bt (by decide) hM a1 b1
  obtain ⟨y1, y2⟩ := cut_part ha.2 hb.2 bt (by decide) hM a2 b2
  have key := far_mix (e := epR) (M := rv m) (by grind) t8 n1 n2 u2 w2 (by grind) ht x2 y2
  obtain ⟨v1, v2⟩ := far_err (B := 130 * rv m) hp bc (by decide) (by grind) n1 n2 (by grind) x1 y1
  obtain ⟨bl, hl⟩ := most_low hm hM
  have fc := fr_bd hp bc (by decide)
  refine (le_rv (fin_num fc.2.1) (fin_num bl.2.1)).2 ?_
  have g1 := (ab_le (rv p.1 * rv (cuP p a b).1 + rv p.2.1 * rv (cuP p a b).2 - rv p.2.2 - rv (frK p (cuP p a b)))).2
  have g2 := (ab_le (rv p.1 * rv (cuX p a b) + rv p.2.1 * rv (cuY p a b) - rv p.2.2)).1
  have g3 : rv (cuX p a b) = rv (cuP p a b).1 := rfl
  have g4 : rv (cuY p a b) = rv (cuP p a b).2 := rfl
  have g5 : rv (Dv .add a.1 (Dv .mul (cuT p a b) (Dv .sub b.1 a.1))) = rv (cuP p a b).1 := rfl
  have g6 : rv (Dv .add a.2 (Dv .mul (cuT p a b) (Dv .sub b.2 a.2))) = rv (cuP p a b).2 := rfl
  rw [g3, g4] at g2
  rw [g5, g6] at key
  grind
end Go.Proofs.Ytpedpgpgcmhnoaa
namespace Go.Proofs.Ytpedpgpgcmhnoaa
open Ieee Go.RowKit
set_option linter.unusedSimpArgs false
set_option linter.unusedVariables false

/-! ### What a plane leaves of a polygon: each point that lay within, in order; all of them, where all do -/
theorem eqP_symm {p q : Pt} (h : eqP p q = true) : eqP q p = true := by
  unfold eqP eqK at *
  simp only [Bool.and_eq_true, Bool.not_eq_true', decide_eq_true_eq] at *
  obtain ⟨⟨⟨a, b⟩, c⟩, ⟨d, e⟩, f⟩ := h
  exact ⟨⟨⟨b, a⟩, c.symm⟩, ⟨e, d⟩, f.symm⟩
theorem eqP_trans {p q r : Pt} (h : eqP p q = true) (g : eqP q r = true) : eqP p r = true := by
  unfold eqP eqK at *
  simp only [Bool.and_eq_true, Bool.not_eq_true', decide_eq_true_eq] at *
  obtain ⟨⟨⟨a, b⟩, c⟩, ⟨d, e⟩, f⟩ := h
  obtain ⟨⟨⟨a', b'⟩, c'⟩, ⟨d', e'⟩, f'⟩ := g
  exact ⟨⟨⟨a, b'⟩, c.trans c'⟩, ⟨d, e'⟩, f.trans f'⟩
theorem eqP_self {p : Pt} (h1 : nanK .f64 p.1 = false) (h2 : nanK .f64 p.2 = false) : eqP p p = true := by
  unfold eqP eqK
  rw [h1, h2]
  simp
theorem ptl_app1 {A B : List Pt} {i : Nat} (h : i < A.length) : pt (A ++ B) i = pt A i := by
  unfold pt
  rw [List.getD_eq_getElem?_getD, List.getD_eq_getElem?_getD, List.getElem?_append_left h]
theorem ptl_app2 (A B : List Pt) (i : Nat) : pt (A ++ B) (A.length + i) = pt B i := by
  unfold pt
  rw [List.getD_eq_getElem?_getD, List.getD_eq_getElem?_getD, List.getElem?_append_right (by omega), Nat.add_sub_cancel_left]
theorem dd_step (L : List Pt) (i : Nat) : dd L (i + 1) = dd L i ∨ dd L (i + 1) = dd L i ++ [pt L i] := by
  show (if _ then _ else _) = _ ∨ (if _ then _ else _) = _
  split
  · exact .inl rfl
  · exact .inr rfl
theorem dd_len_mono (L : List Pt) : ∀ j i, (dd L i).length ≤ (dd L (i + j)).length := by
  intro j
  induction j with
  | zero => intro i; exact Nat.le_refl _
  | succ j ih =>
    intro i
    refine Nat.le_trans (ih i) ?_
    rw [← Nat.add_assoc]
    rcases dd_step L (i + j) with h | h <;> rw [h]
    · exact Nat.le_refl _
    · simp
theorem dd_keep (L : List Pt) : ∀ j i k, k < (dd L i).length → pt (dd L (i + j)) k = pt (dd L i) k := by
  intro j
  induction j with
  | zero => intro i k _; rfl
  | succ j ih =>
    intro i k hk
    rw [← ih i k hk, ← Nat.add_assoc]
    have := dd_len_mono L j i
    rcases dd_step L (i + j) with h | h <;> rw [h]
    exact ptl_app1 (by omega)
theorem ddl_pos (L : List Pt) (i : Nat) : 1 ≤ (dd L (i + 1)).length := by
  have := dd_len_mono L i 1
  rw [dd_one, Nat.add_comm] at this
  simpa using this
theorem dd_zero (L : List Pt) (i : Nat) : pt (dd L (i + 1)) 0 = pt L 0 := by
  have := dd_keep L i 1 0 (by rw [dd_one]; simp)
  rw [Nat.add_comm 1 i] at this
  rw [this, dd_one]
  rfl
theorem dd_last {L : List Pt} (hn : Nums L) : ∀ i, i < L.length → eqP (pt (dd L (i + 1)) ((dd L (i + 1)).length - 1)) (pt L i) = true := by
  intro i
  induction i with
  | zero => intro h; rw [dd_one]; exact eqP_self (hn _ (pt_mem h)).1 (hn _ (pt_mem h)).2
  | succ i ih =>
    intro h
    by_cases he : eqP (pt L (i + 1)) (pt L i) = true
    · rw [dd_eq (i := i + 1) (by omega) (by simpa using he)]
      exact eqP_trans (ih (by omega)) (eqP_symm he)
    · rw [dd_ne (i := i + 1) (by simpa using he)]
      have e : (dd L (i + 1) ++ [pt L (i + 1)]).length - 1 = (dd L (i + 1)).length + 0 := by simp
      rw [e, ptl_app2]
      exact eqP_self (hn _ (pt_mem h)).1 (hn _ (pt_mem h)).2
theorem rowN_keep (p : Pn) (L : List Pt) : ∀ j i, ∃ T, rowN p L (i + j) = rowN p L i ++ T := by
  intro j
  induction j with
  | zero => intro i; exact ⟨[], (List.append_nil _).symm⟩
  | succ j ih =>
    intro i
    obtain ⟨T, h⟩ := ih i
    rw [← Nat.add_assoc]
    exact ⟨T ++ sideL p (pt L (i + j)) (pt L ((i + j + 1) % L.length)), by simp only [rowN]; rw [h, List.append_assoc]⟩
/-- where a point that lies within comes to stand in the row -/
theorem rowN_at {p : Pn} {L : List Pt} {i n : Nat} (hi : i < n) (hw : wiB p (pt L i) = true) : (rowN p L i).length < (rowN p L n).length ∧ pt (rowN p L n) (rowN p L i).length = pt L i := by
  obtain ⟨T, h⟩ := rowN_keep p L (n - (i + 1)) (i + 1)
  rw [show i + 1 + (n - (i + 1)) = n by omega] at h
  have e : rowN p L (i + 1) = rowN p L i ++ sideL p (pt L i) (pt L ((i + 1) % L.length)) := rfl
  have e2 : sideL p (pt L i) (pt L ((i + 1) % L.length)) = [pt L i] ++ (if wiB p (pt L i) != wiB p (pt L ((i + 1) % L.length)) then [cuP p (pt L i) (pt L ((i + 1) % L.length))] else []) := by
    unfold sideL; rw [hw]; rfl
  rw [h, e, e2]
  refine ⟨by simp, ?_⟩
  rw [List.append_assoc]
  exact (ptl_app2 (rowN p L i) _ 0).trans rfl
/-- where it comes to stand in what is left -/
def cI (p : Pn) (L : List Pt) (i : Nat) : Nat := (dd (rowN p L L.length) ((rowN p L i).length + 1)).length - 1
theorem cI_mono (p : Pn) (L : List Pt) {i j : Nat} (h : i ≤ j) : cI p L i ≤ cI p L j := by
  unfold cI
  obtain ⟨T, e⟩ := rowN_keep p L (j - i) i
  rw [show i + (j - i) = j by omega] at e
  have h1 : (rowN p L i).length ≤ (rowN p L j).length := by rw [e]; simp
  have h2 := dd_len_mono (rowN p L L.length) ((rowN p L j).length - (rowN p L i).length) ((rowN p L i).length + 1)
  rw [show (rowN p L i).length + 1 + ((rowN p L j).length - (rowN p L i).length) = (rowN p L j).length + 1 by omega] at h2
  omega
theorem out_at {p : Pn} {L : List Pt} {i : Nat} (hn : Nums (rowN p L L.length)) (hi : i < L.length) (hw : wiB p (pt L i) = true) : cI p L i < (outL p L).length ∧ eqP (pt (outL p L) (cI p L i)) (pt L i) = true := by
  obtain ⟨h1, h2⟩ := rowN_at hi hw
  have hl := dd_last hn _ h1
  rw [h2] at hl
  have hp := ddl_pos (rowN p L L.length) (rowN p L i).length
  have hm := dd_len_mono (rowN p L L.length) ((rowN p L L.length).length - ((rowN p L i).length + 1)) ((rowN p L i).length + 1)
  rw [show (rowN p L i).length + 1 + ((rowN p L L.length).length - ((rowN p L i).length + 1)) = (rowN p L L.length).length by omega] at hm
  have hk := dd_keep (rowN p L L.length) ((rowN p L L.length).length - ((rowN p L i).length + 1)) ((rowN p L i).length + 1) (cI p L i) (by unfold cI; omega)
  rw [show (rowN p L i).length + 1 + ((rowN p L L.length).length - ((rowN p L i).length + 1)) = (rowN p L L.length).length by omega] at hk
  refine ⟨by unfold cI outL; omega, ?_⟩
  unfold outL
  rw [hk]
  exact hl
theorem left_at {p : Pn} {L : List Pt} {i : Nat} (hn : Nums (rowN p L L.length)) (hi : i < L.length) (hw : wiB p (pt L i) = true) (h0 : 0 < (leftL p L).length) :
    (cI p L i < (leftL p L).length ∧ eqP (pt (leftL p L) (cI p L i)) (pt L i) = true) ∨ (cI p L i = (leftL p L).length ∧ eqP (pt (leftL p L) 0) (pt L i) = true) := by
  obtain ⟨h1, h2⟩ := out_at hn hi hw
  have e : leftL p L = lastL (outL p L) := by
    unfold leftL at h0 ⊢
    split
    · rename_i h; rw [if_pos h] at h0; simp at h0
    · rfl
  rw [e] at h0 ⊢
  unfold lastL at h0 ⊢
  split
  · rename_i hd
    rw [if_pos hd] at h0
    have el : ((outL p L).take ((outL p L).length - 1)).length = (outL p L).length - 1 := by simp
    have eg : ∀ k, k < (outL p L).length - 1 → pt ((outL p L).take ((outL p L).length - 1)) k = pt (outL p L) k := fun k hk => by
      unfold pt; rw [List.getD_eq_getElem?_getD, List.getD_eq_getElem?_getD, List.getElem?_take_of_lt hk]
    rw [el] at h0 ⊢
    by_cases hc : cI p L i < (outL p L).length - 1
    · exact .inl ⟨hc, by rw [eg _ hc]; exact h2⟩
    · refine .inr ⟨by omega, ?_⟩
      rw [eg 0 h0]
      have hcc : cI p L i = (outL p L).length - 1 := by omega
      rw [hcc] at h2
      exact eqP_trans (eqP_symm hd.2) h2
  · exact .inl ⟨h1, h2⟩
theorem cI_le {p : Pn} {L : List Pt} {i : Nat} (hn : Nums (rowN p L L.length)) (hi : i < L.length) (hw : wiB p (pt L i) = true) (h0 : 0 < (leftL p L).length) : cI p L i ≤ (leftL p L).length := by
  rcases left_at hn hi hw h0 with h | h <;> omega
/-! all within -/
theorem rowN_all {p : Pn} {L : List Pt} (h : ∀ i, i < L.length → wiB p (pt L i) = true) : ∀ i, i ≤ L.length → rowN p L i = L.take i := by
  intro i
  induction i with
  | zero => intro _; rfl
  | succ i ih =>
    intro hi
    have e : rowN p L (i + 1) = rowN p L i ++ sideL p (pt L i) (pt L ((i + 1) % L.length)) := rfl
    have e2 : sideL p (pt L i) (pt L ((i + 1) % L.length)) = [pt L i] := by
      unfold sideL; rw [h i (by omega), h _ (Nat.mod_lt _ (by omega))]; rfl
    rw [e, e2, ih (by omega)]
    have hp : pt L i = L[i] := by unfold pt; rw [List.getD_eq_getElem?_getD, List.getElem?_eq_getElem (by omega)]; rfl
    rw [hp, List.take_append_getElem]
theorem dd_all {L : List Pt} (h : ∀ i, i + 1 < L.length → eqP (pt L (i + 1)) (pt L i) = false) : ∀ i, i ≤ L.length → dd L i = L.take i := by
  intro i
  induction i with
  | zero => intro _; rfl
  | succ i ih =>
    intro hi
    have hp : pt L i = L[i] := by unfold pt; rw [List.getD_eq_getElem?_getD, List.getElem?_eq_getElem (by omega)]; rfl
    rcases i with _ | i
    · rw [dd_one, hp]
      have := List.take_append_getElem (l := L) (i := 0) (by omega)
      rw [← this]; rfl
    · rw [dd_ne (i := i + 1) (by simpa using h i (by omega)), ih (by omega), hp, List.take_append_getElem]
theorem left_all {p : Pn} {L : List Pt} (h : ∀ i, i < L.length → wiB p (pt L i) = true) (h3 : 3 ≤ L.length) (hne : ∀ i, i < L.length → eqP (pt L ((i + 1) % L.length)) (pt L i) = false) : leftL p L = L := by
  have e : outL p L = L := by
    unfold outL
    rw [rowN_all h _ (Nat.le_refl _), List.take_length]
    rw [dd_all (fun i hi => by have := hne i (by omega); rwa [Nat.mod_eq_of_lt hi] at this) _ (Nat.le_refl _), List.take_length]
  have e2 : lastL L = L := by
    unfold lastL
    rw [if_neg]
    rintro ⟨_, hc⟩
    have := hne (L.length - 1) (by omega)
    rw [show L.length - 1 + 1 = L.length by omega, Nat.mod_self] at this
    rw [eqP_symm hc] at this
    cases this
  unfold leftL
  rw [e, e2, if_neg (by omega)]
/-- the ends of a side that is long enough are not one place -/
theorem eq_rv {x y : Nat} (h : eqK .f64 x y = true) : rv x = rv y := by
  unfold eqK at h
  simp only [Bool.and_eq_true, Bool.not_eq_true', decide_eq_true_eq] at h
  obtain ⟨⟨a, b⟩, c⟩ := h
  have h1 : leK .f64 x y = true := by unfold leK; simp [a, b, c]
  have h2 : leK .f64 y x = true := by unfold leK; simp [a, b, c]
  exact Rat.le_antisymm ((le_rv a b).1 h1) ((le_rv b a).1 h2)
theorem sub_tiny {n x y : Nat} (hx : Bd n x) (hy : Bd n y) (hn : n ≤ 900) (h : rv x = rv y) : av (Dv .sub x y) ≤ 1 / 2 ^ 1074 := by
  have b := bd_sub hx hy hn
  have r := sub_rv hy.1 hx.2.1 hy.2.1 b.2.1 (dv_res (some_sub hx.2.1 hy.2.1 hy.1))
  unfold nrS at r
  rw [h, show rv y - rv y - rv (Dv .sub x y) = -rv (Dv .sub x y) by grind, ab_neg, ab_rv] at r
  have e1 : epR * 2 ≤ 1 := by decide +kernel
  have e2 : etR * 2 = 1 / 2 ^ 1074 := by decide +kernel
  have e3 := rmul e1 (av_nn (Dv .sub x y))
  generalize (1 : Rat) / 2 ^ 1074 = K at *
  grind
theorem near_four {q A U : Rat} (hn : nrS q A) (hq : ab q ≤ U) (hU : etR ≤ U) : ab A ≤ 4 * U := by
  have e1 : epR * 4 ≤ 1 := by decide +kernel
  unfold nrS at hn
  have t := ab_add (A - q) q
  rw [show A - q + q = A by grind] at t
  have t2 := ab_neg (q - A)
  rw [show -(q - A) = A - q by grind] at t2
  have t3 := rmul e1 (ab_nn A)
  have t4 := ab_nn q
  grind
theorem dt_tiny {x y : Nat} (hx : Bd 42 x) (hy : Bd 42 y) (h1 : av x ≤ 1 / 2 ^ 1074) (h2 : av y ≤ 1 / 2 ^ 1074) : av (dtK x y x y) * 2 ^ 63 < 1 := by
  have bx := bd_mul hx hx (by decide)
  have b_y := bd_mul hy hy (by decide)
  have bs := bd_add bx b_y (by decide)
  have rx := mul_rv hx.2.1 hx.2.1 bx.2.1 (dv_res (some_mul hx.2.1 hx.2.1))
  have ry := mul_rv hy.2.1 hy.2.1 b_y.2.1 (dv_res (some_mul hy.2.1 hy.2.1))
  have rs := add_rv bx.2.1 b_y.2.1 bs.2.1 (dv_res (some_add bx.2.1 b_y.2.1))
  have kx : (1 : Rat) / 2 ^ 1074 ≤ 1 / 2 ^ 100 := by decide +kernel
  have k1 : (1 : Rat) / 2 ^ 100 * (1 / 2 ^ 100) ≤ 1 / 2 ^ 100 := by decide +kernel
  have e1 : epR * 4 ≤ 1 := by decide +kernel
  have e2 : etR ≤ 1 / 2 ^ 100 := by decide +kernel
  have e3 : (1 : Rat) / 2 ^ 100 * 64 * 2 ^ 63 < 1 := by decide +kernel
  have e4 : (0 : Rat) < 2 ^ 63 := by decide +kernel
  have q1 : ab (rv x * rv x) ≤ 1 / 2 ^ 100 := by
    rw [ab_mul, ab_rv]
    refine Rat.le_trans (Rat.mul_le_mul_of_nonneg_left (Rat.le_trans h1 kx) (av_nn x)) (Rat.le_trans (Rat.mul_le_mul_of_nonneg_right (Rat.le_trans h1 kx) (by decide +kernel)) k1)
  have q2 : ab (rv y * rv y) ≤ 1 / 2 ^ 100 := by
    rw [ab_mul, ab_rv]
    refine Rat.le_trans (Rat.mul_le_mul_of_nonneg_left (Rat.le_trans h2 kx) (av_nn y)) (Rat.le_trans (Rat.mul_le_mul_of_nonneg_right (Rat.le_trans h2 kx) (by decide +kernel)) k1)
  have s1 := near_four rx q1 e2
  have s2 := near_four ry q2 e2
  have s3 := near_four (U := 8 * (1 / 2 ^ 100)) rs (Rat.le_trans (ab_add _ _) (by grind)) (by grind)
  have s4 : av (dtK x y x y) ≤ 32 * (1 / 2 ^ 100) := by
    have : rv (dtK x y x y) = rv (Dv .add (Dv .mul x x) (Dv .mul y y)) := rfl
    rw [← ab_rv, this]
    grind
  have s5 := Rat.mul_le_mul_of_nonneg_right s4 (Rat.le_of_lt e4)
  generalize (1 : Rat) / 2 ^ 100 = K at *
  generalize (2 : Rat) ^ 63 = T at *
  grind
theorem out_apart {xs ys : Nat → Nat} {n i : Nat} (g : Gd xs ys n) (hi : i < n) (h : outB xs ys n i = true) : eqP (xs ((i + 1) % n), ys ((i + 1) % n)) (xs i, ys i) = false := by
  cases he : eqP (xs ((i + 1) % n), ys ((i + 1) % n)) (xs i, ys i) with
  | false => rfl
  | true =>
    exfalso
    unfold eqP at he
    rw [Bool.and_eq_true] at he
    have hj : (i + 1) % n < n := Nat.mod_lt _ (by omega)
    obtain ⟨w1, w2⟩ := wX_bd g hi
    have t1 := sub_tiny (g _ hj).1 (g _ hi).1 (by decide) (eq_rv he.1)
    have t2 := sub_tiny (g _ hj).2 (g _ hi).2 (by decide) (eq_rv he.2)
    have hd := dt_tiny w1 w2 t1 t2
    have hl := (sq_low w1 w2 (out_len h)).1
    exact absurd hd (by grind)
/-! whence what is left comes -/
theorem row_of {p : Pn} {L : List Pt} {q : Pt} : ∀ i, i ≤ L.length → q ∈ rowN p L i → (∃ j, j < L.length ∧ q = pt L j ∧ wiB p q = true) ∨ ∃ j, j < L.length ∧ wiB p (pt L j) ≠ wiB p (pt L ((j + 1) % L.length)) ∧ q = cuP p (pt L j) (pt L ((j + 1) % L.length)) := by
  intro i
  induction i with
  | zero => intro _ h; cases h
  | succ i ih =>
    intro hi h
    have e : rowN p L (i + 1) = rowN p L i ++ sideL p (pt L i) (pt L ((i + 1) % L.length)) := rfl
    rw [e, List.mem_append] at h
    rcases h with h | h
    · exact ih (by omega) h
    · unfold sideL at h
      rw [List.mem_append] at h
      rcases h with h | h
      · split at h
        · rename_i hw
          rw [List.mem_singleton] at h
          exact .inl ⟨i, by omega, h, by rw [h]; exact hw⟩
        · cases h
      · split at h
        · rename_i hw
          rw [List.mem_singleton] at h
          exact .inr ⟨i, by omega, by simpa using hw, h⟩
        · cases h
theorem left_mem {p : Pn} {L : List Pt} {q : Pt} (h : q ∈ leftL p L) : q ∈ rowN p L L.length := by
  unfold leftL at h
  split at h
  · cases h
  · exact outL_mem (lastL_mem h)
/-- what lies within lies within -/
theorem most_nn {m : Nat} (hm : Bd 43 m) (hM : 1 ≤ rv m) : 0 ≤ rv (Dv .mul 4436045632959938560 m) := by
  obtain ⟨_, h⟩ := most_low hm hM
  have e : (0 : Rat) ≤ epR := by decide +kernel
  have := rmul hM e
  grind
theorem wi_in {p : Pn} {a : Pt} {m k : Nat} (hp : PnB p) (ha : PtB k a) (hk : k ≤ 600) (hm : Bd 43 m) (hM : 1 ≤ rv m) (h : wiB p a = true) : leK .f64 (frK p a) (Dv .mul 4436045632959938560 m) = true := by
  have f := fr_bd hp ha hk
  obtain ⟨bl, _⟩ := most_low hm hM
  have z : rv 0 = 0 := by decide +kernel
  have h1 := (le_rv (fin_num f.2.1) (show nanK .f64 0 = false by decide +kernel)).1 h
  refine (le_rv (fin_num f.2.1) (fin_num bl.2.1)).2 ?_
  have := most_nn hm hM
  rw [z] at h1
  exact Rat.le_trans h1 this
/-- the greatest: at least so great -/
def Grt (m : Nat) (a : Pt) : Prop := ab (rv a.1) ≤ rv m ∧ ab (rv a.2) ≤ rv m
theorem pn_two {p : Pn} (o1 : okK .f64 p.1) (o2 : okK .f64 p.2.1) (o3 : okK .f64 p.2.2) (h : pnB p = true) : ab (rv p.1) ≤ 2 ∧ ab (rv p.2.1) ≤ 2 := by
  obtain ⟨h1, h2, _⟩ := pn_ok o1 o2 o3 h
  have a := ab_bd h1
  have b := ab_bd h2
  rw [show (2 : Rat) ^ 1 = 2 by decide +kernel] at a b
  exact ⟨a, b⟩
theorem cut_in2 {p : Pn} {a b : Pt} {m : Nat} (o1 : okK .f64 p.1) (o2 : okK .f64 p.2.1) (o3 : okK .f64 p.2.2) (hp : pnB p = true) (ha : PtB 40 a) (hb : PtB 40 b) (hm : Bd 43 m) (hM : 1 ≤ rv m) (hf : ab (rv p.2.2) ≤ rv m) (ga : Grt m a) (gb : Grt m b) (h : wiB p a ≠ wiB p b) :
    leK .f64 (frK p (cuP p a b)) (Dv .mul 4436045632959938560 m) = true :=
  cut_in (pn_bd o1 o2 o3 hp) ha hb hm hM (pn_two o1 o2 o3 hp).1 (pn_two o1 o2 o3 hp).2 hf ga.1 ga.2 gb.1 gb.2 h
theorem left_in {p : Pn} {L : List Pt} {m : Nat} (o1 : okK .f64 p.1) (o2 : okK .f64 p.2.1) (o3 : okK .f64 p.2.2) (hp : pnB p = true) (hL : PsB 40 L) (hm : Bd 43 m) (hM : 1 ≤ rv m) (hf : ab (rv p.2.2) ≤ rv m) (hg : ∀ q, q ∈ L → Grt m q) {q : Pt} (hq : q ∈ leftL p L) :
    PtB 48 q ∧ leK .f64 (frK p q) (Dv .mul 4436045632959938560 m) = true := by
  have hb := leftL_bd (pn_bd o1 o2 o3 hp) hL (by decide) q hq
  refine ⟨hb, ?_⟩
  rcases row_of _ (Nat.le_refl _) (left_mem hq) with ⟨j, hj, _, hw⟩ | ⟨j, hj, hne, rfl⟩
  · exact wi_in (pn_bd o1 o2 o3 hp) hb (by decide) hm hM hw
  · have hj2 : (j + 1) % L.length < L.length := Nat.mod_lt _ (by omega)
    exact cut_in2 o1 o2 o3 hp (hL _ (pt_mem hj)) (hL _ (pt_mem hj2)) hm hM hf (hg _ (pt_mem hj)) (hg _ (pt_mem hj2)) hne
end Go.Proofs.Ytpedpgpgcmhnoaa
