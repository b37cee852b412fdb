/-
  Plain facts on floats, more: rounding to the nearest rung, sums and products of finite floats, signs turned. No program is named here.
-/
import Derived.Test.YtoljkokcgmigeaaTurns
namespace Go.Proofs.Ytoljkokcgmigeaa
open Ieee Go.RowKit
set_option linter.unusedSimpArgs false
set_option linter.unusedVariables false

/-! ### Frames: one step after another, as numbers -/
def ToR (X Y x y u v tx ty : Nat) : Prop := ∃ A B, ThenR x y u v A B ∧ resK .add .f64 X A tx ∧ resK .add .f64 Y B ty
def OwnR (X Y x y u v r i : Nat) : Prop := ∃ dx dy, resK .sub .f64 u X dx ∧ resK .sub .f64 v Y dy ∧ UndoR x y dx dy r i

theorem e0R : 0 ≤ epR := by decide +kernel
theorem h0R : 0 ≤ etR := by decide +kernel
theorem turn_rot {x y u v A B : Nat} {M : Rat} (hM : etR ≤ epR * M) (hM2 : M * 64 + 2 ≤ 2 ^ 1000) (fx : finK .f64 x = true) (fy : finK .f64 y = true) (fu : finK .f64 u = true) (fv : finK .f64 v = true)
    (bx : ab (rv x) ≤ 2) (b_y : ab (rv y) ≤ 2) (bu : ab (rv u) ≤ M) (bv : ab (rv v) ≤ M) (h : ThenR x y u v A B) :
    finK .f64 A = true ∧ finK .f64 B = true ∧ ab (rv A - (rv x * rv u - rv y * rv v)) ≤ 36 * (epR * M) ∧ ab (rv B - (rv x * rv v + rv y * rv u)) ≤ 36 * (epR * M) ∧ ab (rv A) ≤ 16 * M ∧ ab (rv B) ≤ 16 * M := by
  have hM0 : 0 ≤ M := by have := ab_nn (rv u); grind
  obtain ⟨a, b, c, d, k1, k2, k3, k4, k5, k6⟩ := h
  obtain ⟨fa, fb, na, nb, sab⟩ := step_num hM hM2 fx fy fu fv bx b_y bu bv k1 k2
  obtain ⟨fc, fd, nc, nd, scd⟩ := step_num hM hM2 fx fy fv fu bx b_y bv bu k3 k4
  have fA := sub_small2 k2.1 fa fb k5 (B := 8 * M) (by grind) sab
  have fB := add_small2 fc fd k6 (B := 8 * M) (by grind) scd
  have nA := sub_rv k2.1 fa fb fA k5
  have nB := add_rv fc fd fB k6
  have nA' : ns epR etR (rv a + -1 * rv b) (rv A) := ns_eq nA (by grind)
  have nB' : ns epR etR (rv c + 1 * rv d) (rv B) := ns_eq nB (by grind)
  obtain ⟨p1, p2⟩ := two_prods (K := 0) e0R (by decide +kernel) h0R bx b_y bu bv hM na nb (-1) (.inr rfl) nA'
  obtain ⟨q1, q2⟩ := two_prods (K := 0) e0R (by decide +kernel) h0R bx b_y bv bu hM nc nd 1 (.inl rfl) nB'
  refine ⟨fA, fB, ?_, ?_, p2, q2⟩
  · rw [show rv x * rv u - rv y * rv v = rv x * rv u + -1 * (rv y * rv v) by grind]; exact p1
  · rw [show rv x * rv v + rv y * rv u = rv x * rv v + 1 * (rv y * rv u) by grind]; exact q1
theorem turn_undo {x y u v A B : Nat} {M : Rat} (hM : etR ≤ epR * M) (hM2 : M * 64 + 2 ≤ 2 ^ 1000) (fx : finK .f64 x = true) (fy : finK .f64 y = true) (fu : finK .f64 u = true) (fv : finK .f64 v = true)
    (bx : ab (rv x) ≤ 2) (b_y : ab (rv y) ≤ 2) (bu : ab (rv u) ≤ M) (bv : ab (rv v) ≤ M) (h : UndoR x y u v A B) :
    finK .f64 A = true ∧ finK .f64 B = true ∧ ab (rv A - (rv x * rv u + rv y * rv v)) ≤ 36 * (epR * M) ∧ ab (rv B - (rv x * rv v - rv y * rv u)) ≤ 36 * (epR * M) ∧ ab (rv A) ≤ 16 * M ∧ ab (rv B) ≤ 16 * M := by
  have hM0 : 0 ≤ M := by have := ab_nn (rv u); grind
  obtain ⟨a, b, c, d, k1, k2, k3, k4, k5, k6⟩ := h
  obtain ⟨fa, fb, na, nb, sab⟩ := step_num hM hM2 fx fy fu fv bx b_y bu bv k1 k2
  obtain ⟨fc, fd, nc, nd, scd⟩ := step_num hM hM2 fx fy fv fu bx b_y bv bu k3 k4
  have fA := add_small2 fa fb k5 (B := 8 * M) (by grind) sab
  have fB := sub_small2 k4.1 fc fd k6 (B := 8 * M) (by grind) scd
  have nA := add_rv fa fb fA k5
  have nB := sub_rv k4.1 fc fd fB k6
  have nA' : ns epR etR (rv a + 1 * rv b) (rv A) := ns_eq nA (by grind)
  have nB' : ns epR etR (rv c + -1 * rv d) (rv B) := ns_eq nB (by grind)
  obtain ⟨p1, p2⟩ := two_prods (K := 0) e0R (by decide +kernel) h0R bx b_y bu bv hM na nb 1 (.inl rfl) nA'
  obtain ⟨q1, q2⟩ := two_prods (K := 0) e0R (by decide +kernel) h0R bx b_y bv bu hM nc nd (-1) (.inr rfl) nB'
  refine ⟨fA, fB, ?_, ?_, p2, q2⟩
  · rw [show rv x * rv u + rv y * rv v = rv x * rv u + 1 * (rv y * rv v) by grind]; exact p1
  · rw [show rv x * rv v - rv y * rv u = rv x * rv v + -1 * (rv y * rv u) by grind]; exact q1
theorem sum_num {a b r : Nat} {M : Rat} (hM : etR ≤ epR * M) (hM2 : M * 64 + 2 ≤ 2 ^ 1000) (fa : finK .f64 a = true) (fb : finK .f64 b = true) (ba : ab (rv a) ≤ M) (bb : ab (rv b) ≤ M) (h : resK .add .f64 a b r) :
    finK .f64 r = true ∧ ab (rv r - (rv a + rv b)) ≤ 6 * (epR * M) ∧ ab (rv r) ≤ 4 * M := by
  have hM0 : 0 ≤ M := by have := ab_nn (rv a); grind
  have z := Rat.mul_nonneg e0R hM0
  have fr := add_small2 fa fb h (B := 2 * M) (by grind) (by rw [← ab_rv a, ← ab_rv b]; grind)
  have n := add_rv fa fb fr h
  obtain ⟨p, q⟩ := ns_err (M := 2 * M) e0R (by decide +kernel) h0R (by have := ab_add (rv a) (rv b); grind) (by grind) n
  refine ⟨fr, ?_, by grind⟩
  rw [← ab_neg, show -(rv r - (rv a + rv b)) = rv a + rv b - rv r by grind]
  grind
theorem dif_num {a b r : Nat} {M : Rat} (ob : okK .f64 b) (hM : etR ≤ epR * M) (hM2 : M * 64 + 2 ≤ 2 ^ 1000) (fa : finK .f64 a = true) (fb : finK .f64 b = true) (ba : ab (rv a) ≤ M) (bb : ab (rv b) ≤ M) (h : resK .sub .f64 a b r) :
    finK .f64 r = true ∧ ab (rv r - (rv a - rv b)) ≤ 6 * (epR * M) ∧ ab (rv r) ≤ 4 * M := by
  have hM0 : 0 ≤ M := by have := ab_nn (rv a); grind
  have z := Rat.mul_nonneg e0R hM0
  have fr := sub_small2 ob fa fb h (B := 2 * M) (by grind) (by rw [← ab_rv a, ← ab_rv b]; grind)
  have n := sub_rv ob fa fb fr h
  obtain ⟨p, q⟩ := ns_err (M := 2 * M) e0R (by decide +kernel) h0R (by have := ab_sub (rv a) (rv b); grind) (by grind) n
  refine ⟨fr, ?_, by grind⟩
  rw [← ab_neg, show -(rv r - (rv a - rv b)) = rv a - rv b - rv r by grind]
  grind

/-- out and back by Own: the numbers -/
theorem own_rat {e x y u v X Y A B wx wy dx dy C M : Rat} (hM0 : 0 ≤ e * M) (hx : ab x ≤ 2) (hy : ab y ≤ 2) (hu : ab u ≤ M)
    (a1 : ab (A - (x * u - y * v)) ≤ 36 * (e * M)) (a2 : ab (B - (x * v + y * u)) ≤ 36 * (e * M)) (w1 : ab (wx - (X + A)) ≤ 96 * (e * M)) (w2 : ab (wy - (Y + B)) ≤ 96 * (e * M))
    (d1 : ab (dx - (wx - X)) ≤ 384 * (e * M)) (d2 : ab (dy - (wy - Y)) ≤ 384 * (e * M)) (c : ab (C - (x * dx + y * dy)) ≤ 9216 * (e * M)) (hd : ab (x * x + y * y - 1) ≤ 8200 * e) : ab (C - u) ≤ 20000 * (e * M) := by
  have s1 := ab_mul_le hx a1
  have s2 := ab_mul_le hy a2
  have s3 := ab_mul_le hx w1
  have s4 := ab_mul_le hy w2
  have s5 := ab_mul_le hx d1
  have s6 := ab_mul_le hy d2
  have s7 := ab_mul_le hd hu
  have t0 := ab_two c
  have t1 := ab_two s1
  have t2 := ab_two s2
  have t3 := ab_two s3
  have t4 := ab_two s4
  have t5 := ab_two s5
  have t6 := ab_two s6
  have t7 := ab_two s7
  have key : C - u = (C - (x * dx + y * dy)) + x * (dx - (wx - X)) + y * (dy - (wy - Y)) + x * (wx - (X + A)) + y * (wy - (Y + B)) + x * (A - (x * u - y * v)) + y * (B - (x * v + y * u)) + (x * x + y * y - 1) * u := by grind
  rw [key]
  refine ab_of ?_ ?_ <;> grind
/-- out, and back by the frame back: the numbers -/
theorem to_rat {e x y u v X Y A B wx wy W P R M : Rat} (hM0 : 0 ≤ e * M) (hx : ab x ≤ 2) (hy : ab y ≤ 2) (hu : ab u ≤ M)
    (a1 : ab (A - (x * u - y * v)) ≤ 36 * (e * M)) (a2 : ab (B - (x * v + y * u)) ≤ 36 * (e * M)) (w1 : ab (wx - (X + A)) ≤ 96 * (e * M)) (w2 : ab (wy - (Y + B)) ≤ 96 * (e * M))
    (b : ab (W - (x * X + y * Y)) ≤ 36 * (e * M)) (p : ab (P - (x * wx + y * wy)) ≤ 2304 * (e * M)) (r : ab (R - (-W + P)) ≤ 6144 * (e * M)) (hd : ab (x * x + y * y - 1) ≤ 8200 * e) : ab (R - u) ≤ 20000 * (e * M) := by
  have s1 := ab_mul_le hx a1
  have s2 := ab_mul_le hy a2
  have s3 := ab_mul_le hx w1
  have s4 := ab_mul_le hy w2
  have s7 := ab_mul_le hd hu
  have t0 := ab_two b
  have t1 := ab_two s1
  have t2 := ab_two s2
  have t3 := ab_two s3
  have t4 := ab_two s4
  have t5 := ab_two p
  have t6 := ab_two r
  have t7 := ab_two s7
  have key : R - u = (R - (-W + P)) + (P - (x * wx + y * wy)) - (W - (x * X + y * Y)) + x * (wx - (X + A)) + y * (wy - (Y + B)) + x * (A - (x * u - y * v)) + y * (B - (x * v + y * u)) + (x * x + y * y - 1) * u := by grind
  rw [key]
  refine ab_of ?_ ?_ <;> grind
end Go.Proofs.Ytoljkokcgmigeaa
namespace Go.Proofs.Ytoljkokcgmigeaa
open Ieee Go.RowKit
set_option linter.unusedSimpArgs false
set_option linter.unusedVariables false

theorem M_scale {M : Rat} {k : Rat} (h : etR ≤ epR * M) (hk : 1 ≤ k) (hM : 0 ≤ M) : etR ≤ epR * (k * M) := by
  have z := Rat.mul_nonneg e0R hM
  have := Rat.mul_le_mul_of_nonneg_left hk z
  grind
theorem rvt {x : Nat} (o : okK .f64 x) : rv (Op.negFloat .f64 x) = -rv x := rv_turned o

/-- what a place is, out by a frame -/
theorem to_num {X Y x y u v tx ty : Nat} {M : Rat} (hM : etR ≤ epR * M) (hM2 : M * 65536 + 2 ≤ 2 ^ 1000) (fx : finK .f64 x = true) (fy : finK .f64 y = true) (fX : finK .f64 X = true) (fY : finK .f64 Y = true) (fu : finK .f64 u = true) (fv : finK .f64 v = true)
    (bx : ab (rv x) ≤ 2) (b_y : ab (rv y) ≤ 2) (bX : ab (rv X) ≤ M) (bY : ab (rv Y) ≤ M) (bu : ab (rv u) ≤ M) (bv : ab (rv v) ≤ M) (h : ToR X Y x y u v tx ty) :
    ∃ A B, finK .f64 tx = true ∧ finK .f64 ty = true ∧ ab (A - (rv x * rv u - rv y * rv v)) ≤ 36 * (epR * M) ∧ ab (B - (rv x * rv v + rv y * rv u)) ≤ 36 * (epR * M) ∧ ab (rv tx - (rv X + A)) ≤ 96 * (epR * M) ∧ ab (rv ty - (rv Y + B)) ≤ 96 * (epR * M) ∧ ab (rv tx) ≤ 64 * M ∧ ab (rv ty) ≤ 64 * M := by
  have hM0 : 0 ≤ M := by have := ab_nn (rv u); grind
  obtain ⟨A, B, h1, h2, h3⟩ := h
  obtain ⟨fA, fB, a1, a2, a3, a4⟩ := turn_rot hM (by grind) fx fy fu fv bx b_y bu bv h1
  obtain ⟨f1, p1, p2⟩ := sum_num (M := 16 * M) (M_scale hM (by decide +kernel) hM0) (by grind) fX fA (by grind) a3 h2
  obtain ⟨f2, q1, q2⟩ := sum_num (M := 16 * M) (M_scale hM (by decide +kernel) hM0) (by grind) fY fB (by grind) a4 h3
  exact ⟨rv A, rv B, f1, f2, a1, a2, by grind, by grind, by grind, by grind⟩
theorem frame_own {X Y x y u v tx ty C D s : Nat} {M : Rat} (oX : okK .f64 X) (oY : okK .f64 Y) (hx : DotR x y x y s) (c : chk s = true) (fX : finK .f64 X = true) (fY : finK .f64 Y = true) (fu : finK .f64 u = true) (fv : finK .f64 v = true)
    (bX : ab (rv X) ≤ M) (bY : ab (rv Y) ≤ M) (bu : ab (rv u) ≤ M) (bv : ab (rv v) ≤ M) (hM : etR ≤ epR * M) (hM2 : M * 65536 + 2 ≤ 2 ^ 1000) (h1 : ToR X Y x y u v tx ty) (h2 : OwnR X Y x y tx ty C D) :
    finK .f64 C = true ∧ finK .f64 D = true ∧ ab (rv C - rv u) ≤ 20000 * (epR * M) ∧ ab (rv D - rv v) ≤ 20000 * (epR * M) := by
  have hM0 : 0 ≤ M := by have := ab_nn (rv u); grind
  have z := Rat.mul_nonneg e0R hM0
  unfold chk at c
  rw [Bool.and_eq_true] at c
  obtain ⟨fx, fy, d0, bx, b_y⟩ := turn_num hx c.1 c.2
  have bx2 : ab (rv x) ≤ 2 := by grind
  have by2 : ab (rv y) ≤ 2 := by grind
  obtain ⟨A, B, f1, f2, a1, a2, w1, w2, b1, b2⟩ := to_num hM hM2 fx fy fX fY fu fv bx2 by2 bX bY bu bv h1
  obtain ⟨dx, dy, k1, k2, k3⟩ := h2
  obtain ⟨f3, p1, p2⟩ := dif_num (M := 64 * M) oX (M_scale hM (by decide +kernel) hM0) (by grind) f1 fX b1 (by grind) k1
  obtain ⟨f4, q1, q2⟩ := dif_num (M := 64 * M) oY (M_scale hM (by decide +kernel) hM0) (by grind) f2 fY b2 (by grind) k2
  obtain ⟨fC, fD, r1, r2, _, _⟩ := turn_undo (M := 256 * M) (M_scale hM (by decide +kernel) hM0) (by grind) fx fy f3 f4 bx2 by2 (by grind) (by grind) k3
  refine ⟨fC, fD, ?_, ?_⟩
  · exact own_rat (dx := rv dx) (dy := rv dy) (C := rv C) z bx2 by2 bu a1 a2 w1 w2 (by grind) (by grind) (by grind) d0
  · have by2' : ab (-rv y) ≤ 2 := by rw [ab_neg]; exact by2
    have d0' : ab (rv x * rv x + -rv y * -rv y - 1) ≤ 8200 * epR := by rw [show -rv y * -rv y = rv y * rv y by grind]; exact d0
    exact own_rat (x := rv x) (y := -rv y) (u := rv v) (v := rv u) (X := rv Y) (Y := rv X) (A := B) (B := A) (wx := rv ty) (wy := rv tx) (dx := rv dy) (dy := rv dx) (C := rv D) z bx2 by2' bv
      (by rw [show rv x * rv v - -rv y * rv u = rv x * rv v + rv y * rv u by grind]; exact a2) (by rw [show rv x * rv u + -rv y * rv v = rv x * rv u - rv y * rv v by grind]; exact a1) w2 w1 (by grind) (by grind)
      (by rw [show rv x * rv dy + -rv y * rv dx = rv x * rv dy - rv y * rv dx by grind]; grind) d0'
theorem frame_to {X Y x y u v tx ty Wx Wy C D s : Nat} {M : Rat} (oy : okK .f64 y) (hx : DotR x y x y s) (c : chk s = true) (fX : finK .f64 X = true) (fY : finK .f64 Y = true) (fu : finK .f64 u = true) (fv : finK .f64 v = true)
    (bX : ab (rv X) ≤ M) (bY : ab (rv Y) ≤ M) (bu : ab (rv u) ≤ M) (bv : ab (rv v) ≤ M) (hM : etR ≤ epR * M) (hM2 : M * 65536 + 2 ≤ 2 ^ 1000) (h1 : ToR X Y x y u v tx ty) (hW : UndoR x y X Y Wx Wy) (h2 : ToR (Op.negFloat .f64 Wx) (Op.negFloat .f64 Wy) x (Op.negFloat .f64 y) tx ty C D) :
    finK .f64 C = true ∧ finK .f64 D = true ∧ ab (rv C - rv u) ≤ 20000 * (epR * M) ∧ ab (rv D - rv v) ≤ 20000 * (epR * M) := by
  have hM0 : 0 ≤ M := by have := ab_nn (rv u); grind
  have z := Rat.mul_nonneg e0R hM0
  unfold chk at c
  rw [Bool.and_eq_true] at c
  obtain ⟨fx, fy, d0, bx, b_y⟩ := turn_num hx c.1 c.2
  have bx2 : ab (rv x) ≤ 2 := by grind
  have by2 : ab (rv y) ≤ 2 := by grind
  have by2' : ab (-rv y) ≤ 2 := by rw [ab_neg]; exact by2
  have oW : okK .f64 Wx ∧ okK .f64 Wy := by obtain ⟨_, _, _, _, _, _, _, _, k5, k6⟩ := hW; exact ⟨k5.1, k6.1⟩
  obtain ⟨A, B, f1, f2, a1, a2, w1, w2, b1, b2⟩ := to_num hM hM2 fx fy fX fY fu fv bx2 by2 bX bY bu bv h1
  obtain ⟨fW, fV, m1, m2, m3, m4⟩ := turn_undo hM (by grind) fx fy fX fY bx2 by2 bX bY hW
  obtain ⟨P, Q, k1, k2, k3⟩ := h2
  obtain ⟨fP, fQ, r1, r2, r3, r4⟩ := turn_rot (M := 64 * M) (M_scale hM (by decide +kernel) hM0) (by grind) fx (by rw [fin_neg _ oy]; exact fy) f1 f2 bx2 (by rw [rvt oy, ab_neg]; exact by2) b1 b2 k1
  rw [rvt oy] at r1 r2
  obtain ⟨fC, p1, _⟩ := sum_num (M := 1024 * M) (M_scale hM (by decide +kernel) hM0) (by grind) (by rw [fin_neg _ oW.1]; exact fW) fP (by rw [rvt oW.1, ab_neg]; grind) (by grind) k2
  obtain ⟨fD, q1, _⟩ := sum_num (M := 1024 * M) (M_scale hM (by decide +kernel) hM0) (by grind) (by rw [fin_neg _ oW.2]; exact fV) fQ (by rw [rvt oW.2, ab_neg]; grind) (by grind) k3
  rw [rvt oW.1] at p1
  rw [rvt oW.2] at q1
  refine ⟨fC, fD, ?_, ?_⟩
  · exact to_rat (P := rv P) (R := rv C) z bx2 by2 bu a1 a2 w1 w2 m1 (by rw [show rv x * rv tx + rv y * rv ty = rv x * rv tx - -rv y * rv ty by grind]; grind) (by grind) d0
  · have d0' : ab (rv x * rv x + -rv y * -rv y - 1) ≤ 8200 * epR := by rw [show -rv y * -rv y = rv y * rv y by grind]; exact d0
    exact to_rat (x := rv x) (y := -rv y) (u := rv v) (v := rv u) (X := rv Y) (Y := rv X) (A := B) (B := A) (wx := rv ty) (wy := rv tx) (W := rv Wy) (P := rv Q) (R := rv D) z bx2 by2' bv
      (by rw [show rv x * rv v - -rv y * rv u = rv x * rv v + rv y * rv u by grind]; exact a2) (by rw [show rv x * rv u + -rv y * rv v = rv x * rv u - rv y * rv v by grind]; exact a1) w2 w1
      (by rw [show rv x * rv Y + -rv y * rv X = rv x * rv Y - rv y * rv X by grind]; exact m2) (by grind) (by grind) d0'

/-! ### The bound, and what is compared with it -/
theorem all_low {e h p q r t s1 s2 s3 M : Rat} (he : 0 ≤ e) (he1 : e * 1048576 ≤ 1) (h0 : 0 ≤ h) (hh : h * 1048576 ≤ M) (hM : M ≤ p + q + r + t) (hr : 0 ≤ r) (ht : 0 ≤ t) (z1 : 0 ≤ s1) (z2 : 0 ≤ s2) (z3 : 0 ≤ s3) (n1 : ns e h (p + q) s1) (n2 : ns e h (s1 + r) s2) (n3 : ns e h (s2 + t) s3) : M ≤ 2 * s3 := by
  unfold ns at *
  rw [ab_pos z1] at n1
  rw [ab_pos z2] at n2
  rw [ab_pos z3] at n3
  have k1 := ab_two n1
  have k2 := ab_two n2
  have k3 := ab_two n3
  have m1 := Rat.mul_le_mul_of_nonneg_left he1 z1
  have m2 := Rat.mul_le_mul_of_nonneg_left he1 z2
  have m3 := Rat.mul_le_mul_of_nonneg_left he1 z3
  grind
theorem near_last {e h M C u d s mo t : Rat} (he : 0 ≤ e) (he1 : e * 1048576 ≤ 1) (h0 : 0 ≤ h) (hh : h ≤ e * e * M) (hM : 0 ≤ M)
    (b : ab (C - u) ≤ 20000 * (e * M)) (hd : ns e h (C - u) d) (hs : M ≤ 2 * s) (s0 : 0 ≤ s) (ht : t = 131072 * e) (hq : ns e h (t * s) mo) (q0 : 0 ≤ mo) : ab d ≤ mo := by
  unfold ns at *
  have eM : 0 ≤ e * M := Rat.mul_nonneg he hM
  have eeM : e * (e * M) * 1048576 ≤ e * M := by
    have := Rat.mul_le_mul_of_nonneg_left he1 eM
    grind
  have d1 : ab d ≤ ab (C - u) + ab (C - u - d) := by
    have := ab_sub (C - u) (C - u - d)
    rw [show C - u - (C - u - d) = d by grind] at this
    exact this
  have hh2 : h * 1048576 ≤ e * M := by grind
  have dn := ab_nn d
  have k1 : e * ab d * 1048576 ≤ ab d := by
    have := Rat.mul_le_mul_of_nonneg_left he1 dn
    grind
  have d2 : ab d ≤ 20002 * (e * M) := by grind
  rw [ab_pos q0] at hq
  obtain ⟨q1, _⟩ := ab_two hq
  have k4 : e * mo * 1048576 ≤ mo := by
    have := Rat.mul_le_mul_of_nonneg_left he1 q0
    grind
  have k5 : e * M ≤ 2 * (e * s) := by
    have := Rat.mul_le_mul_of_nonneg_left hs he
    grind
  subst ht
  grind
end Go.Proofs.Ytoljkokcgmigeaa
namespace Go.Proofs.Ytoljkokcgmigeaa
open Ieee Go.RowKit
set_option linter.unusedSimpArgs false
set_option linter.unusedVariables false

/-! ### There and back by a frame, all rounded -/
def calmK (a : Nat) : Bool := leK .f64 14010698440749613056 a && leK .f64 a 4787326403894837248 && (eqK .f64 a 0 || leK .f64 3256102530588868608 a || leK .f64 a 12479474567443644416)
theorem av_neg_le {a b : Nat} (fb : finK .f64 b = true) (nb : ngK .f64 b = true) (na : ngK .f64 a = true) (h : leK .f64 b a = true) : finK .f64 a = true ∧ av a ≤ av b := by
  unfold leK at h
  simp only [Bool.and_eq_true, decide_eq_true_eq] at h
  have h := h.2
  rw [woK_eq, woK_eq, na, nb] at h
  simp only [if_true] at h
  have h1 : rgK .f64 a ≤ rgK .f64 b := by omega
  exact ⟨decide_eq_true (Nat.lt_of_le_of_lt h1 (of_decide_eq_true fb)), mg_le_av (mg_rg.2 h1)⟩
theorem calm_num {a : Nat} (h : calmK a = true) : finK .f64 a = true ∧ (rgK .f64 a = 0 ∨ 1 / 2 ^ 300 ≤ av a) ∧ av a ≤ 2 ^ 40 := by
  unfold calmK at h
  simp only [Bool.and_eq_true, Bool.or_eq_true] at h
  obtain ⟨⟨h1, h2⟩, h3⟩ := h
  have fa : finK .f64 a = true ∧ av a ≤ 2 ^ 40 := by
    cases na : ngK .f64 a
    · obtain ⟨f, b⟩ := fin_of_le (by decide +kernel) na (by decide +kernel) h2
      exact ⟨f, Rat.le_trans b (by decide +kernel)⟩
    · obtain ⟨f, b⟩ := av_neg_le (by decide +kernel) (by decide +kernel) na h1
      exact ⟨f, Rat.le_trans b (by decide +kernel)⟩
  refine ⟨fa.1, ?_, fa.2⟩
  rcases h3 with (h3 | h3) | h3
  · rw [eqK_nought] at h3
    exact .inl (of_decide_eq_true h3)
  · obtain ⟨_, c⟩ := av_of_le (by decide +kernel) (by decide +kernel) h3
    exact .inr (Rat.le_trans (by decide +kernel) c)
  · right
    unfold leK at h3
    simp only [Bool.and_eq_true, decide_eq_true_eq] at h3
    have h4 := h3.2
    rw [woK_eq, woK_eq, show ngK .f64 12479474567443644416 = true by decide +kernel] at h4
    have k : rgK .f64 12479474567443644416 ≤ rgK .f64 a := by
      cases na : ngK .f64 a
      · rw [na] at h4
        simp only [if_true, Bool.false_eq_true, if_false] at h4
        have : rgK .f64 12479474567443644416 = 3256102530588868608 := by decide +kernel
        omega
      · rw [na] at h4
        simp only [if_true] at h4
        omega
    exact Rat.le_trans (by decide +kernel) (mg_le_av (mg_rg.2 k))

theorem nought_fin {a : Nat} (h : rgK .f64 a = 0) : finK .f64 a = true ∧ svK .f64 a = 0 := by
  refine ⟨by unfold finK; rw [h, inf64]; rfl, ?_⟩
  have k := sv_abs a
  rw [h, vl_nought] at k
  omega
theorem nought_of {a : Nat} (h : svK .f64 a = 0) : rgK .f64 a = 0 := by
  have k := sv_abs a
  rw [h] at k
  exact mg_zero.1 k.symm
theorem zero_fin : finK .f64 0 = true := by decide +kernel
theorem zero_sv : svK .f64 0 = 0 := by decide +kernel
theorem nought_sum {a b d : Nat} (ha : rgK .f64 a = 0) (hb : rgK .f64 b = 0) (h : resK .add .f64 a b d) : rgK .f64 d = 0 := by
  obtain ⟨fa, ea⟩ := nought_fin ha
  obtain ⟨fb, eb⟩ := nought_fin hb
  obtain ⟨_, g⟩ := add_exact fa fb zero_fin h (by rw [ea, eb, zero_sv]; rfl)
  exact nought_of (g.trans zero_sv)
theorem nought_undo {x y u v A B : Nat} (fx : finK .f64 x = true) (fy : finK .f64 y = true) (hu : rgK .f64 u = 0) (hv : rgK .f64 v = 0) (h : UndoR x y u v A B) : rgK .f64 A = 0 ∧ rgK .f64 B = 0 := by
  obtain ⟨p, q, c, d, h1, h2, h3, h4, h5, h6⟩ := h
  obtain ⟨f1, e1⟩ := mul_nought fx hu h1
  obtain ⟨f2, e2⟩ := mul_nought fy hv h2
  obtain ⟨f3, e3⟩ := mul_nought fx hv h3
  obtain ⟨f4, e4⟩ := mul_nought fy hu h4
  exact ⟨nought_sum (nought_of e1) (nought_of e2) h5, nought_sub h4.1 (nought_of e3) (nought_of e4) h6⟩
theorem nought_to {X Y x y u v tx ty : Nat} (fx : finK .f64 x = true) (fy : finK .f64 y = true) (hX : rgK .f64 X = 0) (hY : rgK .f64 Y = 0) (hu : rgK .f64 u = 0) (hv : rgK .f64 v = 0) (h : ToR X Y x y u v tx ty) : rgK .f64 tx = 0 ∧ rgK .f64 ty = 0 := by
  obtain ⟨A, B, h1, h2, h3⟩ := h
  obtain ⟨a, b⟩ := nought_then fx fy hu hv h1
  exact ⟨nought_sum hX a h2, nought_sum hY b h3⟩
theorem nought_own {X Y x y u v r i : Nat} (oX : okK .f64 X) (oY : okK .f64 Y) (fx : finK .f64 x = true) (fy : finK .f64 y = true) (hX : rgK .f64 X = 0) (hY : rgK .f64 Y = 0) (hu : rgK .f64 u = 0) (hv : rgK .f64 v = 0) (h : OwnR X Y x y u v r i) : rgK .f64 r = 0 ∧ rgK .f64 i = 0 := by
  obtain ⟨dx, dy, h1, h2, h3⟩ := h
  exact nought_undo fx fy (nought_sub oX hu hX h1) (nought_sub oY hv hY h2) h3

def tinW : Nat := 4445052832214679552
theorem tinW_fin : finK .f64 tinW = true := by decide +kernel
theorem tinW_ng : ngK .f64 tinW = false := by decide +kernel
theorem tinW_rv : rv tinW = 131072 * epR := by decide +kernel
theorem big_ok {M : Rat} (h : M ≤ 2 ^ 40) : M * 65536 + 2 ≤ 2 ^ 1000 ∧ (M * 65536) * 2 + 2 ≤ 2 ^ 1000 := by
  have k : (2 : Rat) ^ 40 * 65536 + 2 ≤ 2 ^ 1000 := by decide +kernel
  have k2 : ((2 : Rat) ^ 40 * 65536) * 2 + 2 ≤ 2 ^ 1000 := by decide +kernel
  generalize (2 : Rat) ^ 40 = H at *
  generalize (2 : Rat) ^ 1000 = K at *
  exact ⟨by grind, by grind⟩
/-- the four floats together, as the law adds them up -/
def AllR (u v X Y s1 s2 al mo : Nat) : Prop := resK .add .f64 (rgK .f64 u) (rgK .f64 v) s1 ∧ resK .add .f64 s1 (rgK .f64 X) s2 ∧ resK .add .f64 s2 (rgK .f64 Y) al ∧ resK .mul .f64 tinW al mo
theorem all_num {u v X Y s1 s2 al mo : Nat} {M : Rat} (fu : finK .f64 u = true) (fv : finK .f64 v = true) (fX : finK .f64 X = true) (fY : finK .f64 Y = true) (hM1 : 1 / 2 ^ 300 ≤ M) (hM2 : M ≤ 2 ^ 40) (bu : av u ≤ M) (bv : av v ≤ M) (bX : av X ≤ M) (bY : av Y ≤ M) (hs : M ≤ av u + av v + av X + av Y) (h : AllR u v X Y s1 s2 al mo) :
    finK .f64 mo = true ∧ ngK .f64 mo = false ∧ ∃ s, M ≤ 2 * s ∧ 0 ≤ s ∧ ns epR etR (131072 * epR * s) (rv mo) := by
  have M0 : 0 ≤ M := Rat.le_trans (by decide +kernel) hM1
  obtain ⟨k1, k2⟩ := M_low hM1
  obtain ⟨k3, k4⟩ := big_ok hM2
  obtain ⟨h1, h2, h3, h4⟩ := h
  have w1 := rgw u
  have w2 := rgw v
  have w3 := rgw X
  have w4 := rgw Y
  obtain ⟨f1, p1, q1⟩ := sum_num (M := M) k2 (by grind) (by rw [rg_fin]; exact fu) (by rw [rg_fin]; exact fv) (by rw [ab_rv, rg_av]; exact bu) (by rw [ab_rv, rg_av]; exact bv) h1
  obtain ⟨f2, p2, q2⟩ := sum_num (M := 4 * M) (M_scale k2 (by decide +kernel) M0) (by grind) f1 (by rw [rg_fin]; exact fX) q1 (by rw [ab_rv, rg_av]; grind) h2
  obtain ⟨f3, p3, q3⟩ := sum_num (M := 16 * M) (M_scale k2 (by decide +kernel) M0) (by grind) f2 (by rw [rg_fin]; exact fY) (by grind) (by rw [ab_rv, rg_av]; grind) h3
  have g1 := sign_add (by rw [rg_fin]; exact fu) (by rw [rg_fin]; exact fv) w1.2.1 w2.2.1 h1
  have g2 := sign_add f1 (by rw [rg_fin]; exact fX) g1 w3.2.1 h2
  have g3 := sign_add f2 (by rw [rg_fin]; exact fY) g2 w4.2.1 h3
  have n1 := add_rv (by rw [rg_fin]; exact fu) (by rw [rg_fin]; exact fv) f1 h1
  have n2 := add_rv f1 (by rw [rg_fin]; exact fX) f2 h2
  have n3 := add_rv f2 (by rw [rg_fin]; exact fY) f3 h3
  rw [rg_rv, rg_rv] at n1
  rw [rg_rv] at n2 n3
  have low := all_low (e := epR) (h := etR) (p := av u) (q := av v) (r := av X) (t := av Y) (s1 := rv s1) (s2 := rv s2) (s3 := rv al) (M := M) e0R (by decide +kernel) h0R (by
    have q : epR * 1048576 ≤ 1 := by decide +kernel
    have := Rat.mul_le_mul_of_nonneg_right q M0
    grind) hs (av_nn X) (av_nn Y) (by rw [rv_pos g1]; exact av_nn _) (by rw [rv_pos g2]; exact av_nn _) (by rw [rv_pos g3]; exact av_nn _) n1 n2 n3
  have aT : av tinW = 131072 * epR := by rw [← tinW_rv, rv_pos tinW_ng]
  rw [rv_pos g3] at low q3
  rw [ab_pos (av_nn al)] at q3
  have fq : finK .f64 mo = true := by
    refine mul_small2 tinW_fin f3 h4 (B := M * 65536) k4 ?_
    rw [aT]
    have q : 131072 * epR ≤ 1 := by decide +kernel
    have q1 := Rat.mul_le_mul_of_nonneg_right q (av_nn al)
    generalize epR = e at *
    grind
  have nq := mul_rv tinW_fin f3 fq h4
  rw [tinW_rv, rv_pos g3] at nq
  exact ⟨fq, sign_mul tinW_fin f3 tinW_ng g3 h4, av al, low, av_nn _, nq⟩
theorem near_part {C u d mo : Nat} {M s : Rat} (ou : okK .f64 u) (fC : finK .f64 C = true) (fu : finK .f64 u = true) (hM1 : 1 / 2 ^ 300 ≤ M) (hM2 : M ≤ 2 ^ 40) (bu : av u ≤ M) (b : ab (rv C - rv u) ≤ 20000 * (epR * M))
    (fq : finK .f64 mo = true) (sq : ngK .f64 mo = false) (hs : M ≤ 2 * s) (s0 : 0 ≤ s) (nq : ns epR etR (131072 * epR * s) (rv mo)) (hd : resK .sub .f64 C u d) : leK .f64 (rgK .f64 d) mo = true := by
  have M0 : 0 ≤ M := Rat.le_trans (by decide +kernel) hM1
  obtain ⟨k1, k2⟩ := M_low hM1
  obtain ⟨k3, k4⟩ := big_ok hM2
  have eM : 20000 * (epR * M) ≤ M := by
    have q : epR * 20000 ≤ 1 := by decide +kernel
    have := Rat.mul_le_mul_of_nonneg_left q M0
    generalize epR = e at *
    grind
  have bC : av C ≤ 2 * M := by
    have t1 := ab_add (rv C - rv u) (rv u)
    rw [show rv C - rv u + rv u = rv C by grind, ab_rv, ab_rv] at t1
    generalize epR = e at *
    grind
  have fd : finK .f64 d = true := sub_small2 ou fC fu hd (B := M * 65536) k4 (by generalize epR = e at *; grind)
  have nd := sub_rv ou fC fu fd hd
  refine le_of_av (rgw d).2.1 sq (by rw [rg_fin]; exact fd) fq ?_
  rw [rg_av, ← ab_rv d, ← rv_pos sq]
  exact near_last (M := M) (C := rv C) (u := rv u) (s := s) e0R (by decide +kernel) h0R k1 M0 b nd hs s0 rfl nq (by rw [rv_pos sq]; exact av_nn mo)
theorem frame_back {X Y x y u v tx ty Wx Wy C D C' D' s s1 s2 al mo d1 d2 d3 d4 : Nat} (oX : okK .f64 X) (oY : okK .f64 Y) (ou : okK .f64 u) (ov : okK .f64 v) (oy : okK .f64 y) (hx : DotR x y x y s) (c : chk s = true) (cX : calmK X = true) (cY : calmK Y = true) (cu : calmK u = true) (cv : calmK v = true)
    (h1 : ToR X Y x y u v tx ty) (h2 : OwnR X Y x y tx ty C D) (hW : UndoR x y X Y Wx Wy) (h3 : ToR (Op.negFloat .f64 Wx) (Op.negFloat .f64 Wy) x (Op.negFloat .f64 y) tx ty C' D') (ha : AllR u v X Y s1 s2 al mo)
    (g1 : resK .sub .f64 C u d1) (g2 : resK .sub .f64 D v d2) (g3 : resK .sub .f64 C' u d3) (g4 : resK .sub .f64 D' v d4) :
    leK .f64 (rgK .f64 d1) mo = true ∧ leK .f64 (rgK .f64 d2) mo = true ∧ leK .f64 (rgK .f64 d3) mo = true ∧ leK .f64 (rgK .f64 d4) mo = true := by
  obtain ⟨fX, lX, bX⟩ := calm_num cX
  obtain ⟨fY, lY, bY⟩ := calm_num cY
  obtain ⟨fu, lu, bu⟩ := calm_num cu
  obtain ⟨fv, lv, bv⟩ := calm_num cv
  obtain ⟨fx, fy⟩ := chk_fin hx c
  by_cases z : rgK .f64 u = 0 ∧ rgK .f64 v = 0 ∧ rgK .f64 X = 0 ∧ rgK .f64 Y = 0
  · obtain ⟨zu, zv, zX, zY⟩ := z
    obtain ⟨t1, t2⟩ := nought_to fx fy zX zY zu zv h1
    obtain ⟨c1, c2⟩ := nought_own oX oY fx fy zX zY t1 t2 h2
    obtain ⟨w1, w2⟩ := nought_undo fx fy zX zY hW
    have oW : okK .f64 Wx ∧ okK .f64 Wy := by obtain ⟨_, _, _, _, _, _, _, _, k5, k6⟩ := hW; exact ⟨k5.1, k6.1⟩
    obtain ⟨c3, c4⟩ := nought_to fx (by rw [fin_neg _ oy]; exact fy) (by rw [(neg_facts .f64 _ oW.1).1]; exact w1) (by rw [(neg_facts .f64 _ oW.2).1]; exact w2) t1 t2 h3
    obtain ⟨a1, a2, a3, a4⟩ := ha
    rw [zu, zv] at a1
    rw [res_is a1 (v := 0) (by decide +kernel), zX] at a2
    rw [res_is a2 (v := 0) (by decide +kernel), zY] at a3
    rw [res_is a3 (v := 0) (by decide +kernel)] at a4
    have e := res_is a4 (v := 0) (by decide +kernel)
    rw [e, nought_sub ou c1 zu g1, nought_sub ov c2 zv g2, nought_sub ou c3 zu g3, nought_sub ov c4 zv g4]
    decide +kernel
  · obtain ⟨M1, e1⟩ : ∃ M, M = if av u ≤ av v then av v else av u := ⟨_, rfl⟩
    obtain ⟨p1, p2, p3, p4⟩ := mostOf e1 (av_nn u) (av_nn v)
    obtain ⟨M2, e2⟩ : ∃ M, M = if av X ≤ av Y then av Y else av X := ⟨_, rfl⟩
    obtain ⟨q1, q2, q3, q4⟩ := mostOf e2 (av_nn X) (av_nn Y)
    have M10 : 0 ≤ M1 := Rat.le_trans (av_nn u) p1
    have M20 : 0 ≤ M2 := Rat.le_trans (av_nn X) q1
    obtain ⟨M, e3⟩ : ∃ M, M = if M1 ≤ M2 then M2 else M1 := ⟨_, rfl⟩
    obtain ⟨r1, r2, r3, r4⟩ := mostOf e3 M10 M20
    have Bu := Rat.le_trans p1 r1
    have Bv := Rat.le_trans p2 r1
    have BX := Rat.le_trans q1 r2
    have BY := Rat.le_trans q2 r2
    have low : 1 / 2 ^ 300 ≤ M := by
      rcases lu with a | a
      · rcases lv with b | b
        · rcases lX with c | c
          · rcases lY with d | d
            · exact absurd ⟨a, b, c, d⟩ z
            · exact Rat.le_trans d BY
          · exact Rat.le_trans c BX
        · exact Rat.le_trans b Bv
      · exact Rat.le_trans a Bu
    have high : M ≤ 2 ^ 40 := by
      have k1 : M1 ≤ 2 ^ 40 := by rcases p4 with e | e <;> rw [e] <;> assumption
      have k2 : M2 ≤ 2 ^ 40 := by rcases q4 with e | e <;> rw [e] <;> assumption
      rcases r4 with e | e <;> rw [e] <;> assumption
    have sum : M ≤ av u + av v + av X + av Y := by grind
    obtain ⟨k1, k2⟩ := M_low low
    obtain ⟨k3, k4⟩ := big_ok high
    obtain ⟨fq, sq, s', l1, l2, nq⟩ := all_num fu fv fX fY low high Bu Bv BX BY sum ha
    obtain ⟨fC, fD, b1, b2⟩ := frame_own (M := M) oX oY hx c fX fY fu fv (by rw [ab_rv]; exact BX) (by rw [ab_rv]; exact BY) (by rw [ab_rv]; exact Bu) (by rw [ab_rv]; exact Bv) k2 k3 h1 h2
    obtain ⟨fC', fD', b3, b4⟩ := frame_to (M := M) oy hx c fX fY fu fv (by rw [ab_rv]; exact BX) (by rw [ab_rv]; exact BY) (by rw [ab_rv]; exact Bu) (by rw [ab_rv]; exact Bv) k2 k3 h1 hW h3
    exact ⟨near_part ou fC fu low high Bu b1 fq sq l1 l2 nq g1, near_part ov fD fv low high Bv b2 fq sq l1 l2 nq g2, near_part ou fC' fu low high Bu b3 fq sq l1 l2 nq g3, near_part ov fD' fv low high Bv b4 fq sq l1 l2 nq g4⟩
end Go.Proofs.Ytoljkokcgmigeaa
namespace Go.Proofs.Ytoljkokcgmigeaa
open Ieee Go.RowKit
set_option linter.unusedSimpArgs false
set_option linter.unusedVariables false

/-! ### Home -/
theorem one_undo {u v r i y : Nat} (fu : finK .f64 u = true) (fv : finK .f64 v = true) (h : UndoR 4607182418800017408 0 u v r i) : finK .f64 r = true ∧ finK .f64 i = true ∧ svK .f64 r = svK .f64 u ∧ svK .f64 i = svK .f64 v := by
  obtain ⟨a, b, c, d, h1, h2, h3, h4, h5, h6⟩ := h
  obtain ⟨f1, e1⟩ := mulU fu u_one (res_mul_comm h1)
  obtain ⟨f2, e2⟩ := mulU fv u_nought (res_mul_comm h2)
  obtain ⟨f3, e3⟩ := mulU fv u_one (res_mul_comm h3)
  obtain ⟨f4, e4⟩ := mulU fu u_nought (res_mul_comm h4)
  obtain ⟨g1, g2⟩ := add_exact f1 f2 fu h5 (by rw [e1, e2]; omega)
  obtain ⟨g3, g4⟩ := sub_exact h4.1 f3 f4 fv h6 (by rw [e3, e4]; omega)
  exact ⟨g1, g3, g2, g4⟩
theorem to_home {u v tx ty : Nat} (fu : finK .f64 u = true) (fv : finK .f64 v = true) (h : ToR 0 0 4607182418800017408 0 u v tx ty) : eqK .f64 tx u = true ∧ eqK .f64 ty v = true := by
  obtain ⟨A, B, h1, h2, h3⟩ := h
  obtain ⟨f1, f2, e1, e2⟩ := stepO fu fv rfl rfl (then_comm h1)
  obtain ⟨g1, g2⟩ := add_exact zero_fin f1 fu h2 (by rw [zero_sv, e1]; omega)
  obtain ⟨g3, g4⟩ := add_exact zero_fin f2 fv h3 (by rw [zero_sv, e2]; omega)
  exact ⟨sv_eq g1 fu g2, sv_eq g3 fv g4⟩
theorem own_home {u v r i : Nat} (fu : finK .f64 u = true) (fv : finK .f64 v = true) (h : OwnR 0 0 4607182418800017408 0 u v r i) : eqK .f64 r u = true ∧ eqK .f64 i v = true := by
  obtain ⟨dx, dy, h1, h2, h3⟩ := h
  obtain ⟨f1, e1⟩ := sub_exact ok_zero fu zero_fin fu h1 (by rw [zero_sv]; omega)
  obtain ⟨f2, e2⟩ := sub_exact ok_zero fv zero_fin fv h2 (by rw [zero_sv]; omega)
  obtain ⟨g1, g2, g3, g4⟩ := one_undo (y := 0) f1 f2 h3
  exact ⟨sv_eq g1 fu (g3.trans e1), sv_eq g2 fv (g4.trans e2)⟩
theorem then_one {x y r i : Nat} (fx : finK .f64 x = true) (fy : finK .f64 y = true) (h : ThenR x y 4607182418800017408 0 r i) : eqK .f64 r x = true ∧ eqK .f64 i y = true := by
  obtain ⟨f1, f2, e1, e2⟩ := stepO fx fy rfl rfl h
  exact ⟨sv_eq f1 fx e1, sv_eq f2 fy e2⟩
theorem to_nought {X Y x y tx ty : Nat} (fx : finK .f64 x = true) (fy : finK .f64 y = true) (fX : finK .f64 X = true) (fY : finK .f64 Y = true) (h : ToR X Y x y 0 0 tx ty) : eqK .f64 tx X = true ∧ eqK .f64 ty Y = true := by
  obtain ⟨A, B, h1, h2, h3⟩ := h
  obtain ⟨a, b⟩ := nought_then fx fy (nought_rg _) (nought_rg _) h1
  obtain ⟨fA, eA⟩ := nought_fin a
  obtain ⟨fB, eB⟩ := nought_fin b
  obtain ⟨g1, g2⟩ := add_exact fX fA fX h2 (by rw [eA]; omega)
  obtain ⟨g3, g4⟩ := add_exact fY fB fY h3 (by rw [eB]; omega)
  exact ⟨sv_eq g1 fX g2, sv_eq g3 fY g4⟩

/-! ### Moves -/
def halfB : Nat := 4602678819172646912
def TurnMR (x y w t qx qy : Nat) : Prop := ∃ k h bx b_y r i u v, ∃ b : Bool, resK .mul .f64 w t k ∧ resK .mul .f64 k halfB h ∧ TByR h bx b_y ∧ ThenR x y bx b_y r i ∧ TUnitR r i u v b ∧ qx = (if b then u else r) ∧ qy = (if b then v else i)
theorem res_exists (op : BinOp) (x y : Nat) : ∃ r, resK op .f64 x y r := by
  cases h : floatBits op .f64 x y with
  | some r => exact ⟨r, floatBits_ok h, .inl h⟩
  | none => exact ⟨9221120237041090561, by rw [okK64]; omega, .inr ⟨h, by decide +kernel⟩⟩
theorem dot_exists (x y : Nat) : ∃ s, DotR x y x y s := by
  obtain ⟨p, hp⟩ := res_exists .mul x x
  obtain ⟨q, hq⟩ := res_exists .mul y y
  obtain ⟨s, hs⟩ := res_exists .add p q
  exact ⟨s, p, q, hp, hq, hs⟩
theorem ThenR.sm2 {x y u v u' v' r i r' i' : Nat} (hu : smK .f64 u u' = true) (hv : smK .f64 v v' = true) (h : ThenR x y u v r i) (g : ThenR x y u' v' r' i') : smK .f64 r r' = true ∧ smK .f64 i i' = true := by
  obtain ⟨p, q, c, d, h1, h2, h3, h4, h5, h6⟩ := h
  obtain ⟨p', q', c', d', g1, g2, g3, g4, g5, g6⟩ := g
  have S := smK_self .f64
  exact ⟨res_congr (res_congr (S _) hu h1 g1) (res_congr (S _) hv h2 g2) h5 g5, res_congr (res_congr (S _) hv h3 g3) (res_congr (S _) hu h4 g4) h6 g6⟩
theorem LengthR.sm2 {x y x' y' n n' : Nat} (hx : smK .f64 x x' = true) (hy : smK .f64 y y' = true) (h : LengthR x y n) (g : LengthR x' y' n') : smK .f64 n n' = true := by
  obtain ⟨s, h1, h2⟩ := h
  obtain ⟨s', g1, g2⟩ := g
  exact sq_congr (DotR.sm2 hx hy h1 g1) h2 g2
theorem TUnitR.sm2 {x y x' y' u v u' v' : Nat} {b b' : Bool} (hx : smK .f64 x x' = true) (hy : smK .f64 y y' = true) (h : TUnitR x y u v b) (g : TUnitR x' y' u' v' b') : smK .f64 u u' = true ∧ smK .f64 v v' = true ∧ b = b' := by
  obtain ⟨n, p, q, s, h1, h2, h3, h4, h5, h6, h7⟩ := h
  obtain ⟨n', p', q', s', g1, g2, g3, g4, g5, g6, g7⟩ := g
  have hn := LengthR.sm2 hx hy h1 g1
  have hp := res_congr hx hn h2 g2
  have hq := res_congr hy hn h3 g3
  have hb : b = b' := by rw [h5, g5, chk_sm (DotR.sm2 hp hq h4 g4)]
  subst hb
  rw [h6, h7, g6, g7]
  cases b
  · exact ⟨smK_self _ _, smK_self _ _, rfl⟩
  · exact ⟨hp, hq, rfl⟩
theorem TByR.sm2 {t t' x y x' y' : Nat} (ht : smK .f64 t t' = true) (h : TByR t x y) (g : TByR t' x' y') : smK .f64 x x' = true ∧ smK .f64 y y' = true := by
  obtain ⟨s, h1, h2⟩ := h
  obtain ⟨s', g1, g2⟩ := g
  have S := smK_self .f64
  have hs := res_congr ht ht h1 g1
  rw [ltK_sm hs] at h2
  cases e : ltK .f64 9218868437227405311 s' <;> rw [e] at h2 g2
  · simp only [Bool.false_eq_true, if_false] at h2 g2
    obtain ⟨d, c, k, a1, a2, a3, a4, a5⟩ := h2
    obtain ⟨d', c', k', b1, b2, b3, b4, b5⟩ := g2
    have e1 := res_congr (S _) hs a1 b1
    exact ⟨res_congr (res_congr (S _) hs a2 b2) e1 a4 b4, res_congr (res_congr ht ht a3 b3) e1 a5 b5⟩
  · simp only [if_true] at h2 g2
    rw [h2.1, h2.2, g2.1, g2.2]
    exact ⟨S _, S _⟩
/-- the same spin times time, the same turn -/
theorem TurnMR.sm {x y w t w' t' qx qy qx' qy' : Nat} (hk : ∀ k k', resK .mul .f64 w t k → resK .mul .f64 w' t' k' → smK .f64 k k' = true) (h : TurnMR x y w t qx qy) (g : TurnMR x y w' t' qx' qy') : smK .f64 qx qx' = true ∧ smK .f64 qy qy' = true := by
  obtain ⟨k, m, bx, b_y, r, i, u, v, b, h1, h2, h3, h4, h5, h6, h7⟩ := h
  obtain ⟨k', m', bx', b_y', r', i', u', v', b', g1, g2, g3, g4, g5, g6, g7⟩ := g
  have s1 := hk _ _ h1 g1
  have s2 := res_congr s1 (smK_self _ _) h2 g2
  obtain ⟨s3, s4⟩ := TByR.sm2 s2 h3 g3
  obtain ⟨s5, s6⟩ := ThenR.sm2 s3 s4 h4 g4
  obtain ⟨s7, s8, rfl⟩ := TUnitR.sm2 s5 s6 h5 g5
  rw [h6, h7, g6, g7]
  cases b
  · exact ⟨s5, s6⟩
  · exact ⟨s7, s8⟩
theorem turn_unit38 {x y u v s : Nat} {b : Bool} (h : DotR x y x y s) (c1 : leK .f64 lo38 s = true) (c2 : leK .f64 s hi38 = true) (g : TUnitR x y u v b) : b = true := by
  obtain ⟨n, p, q, k, g1, g2, g3, g4, g5, g6, g7⟩ := g
  have U : UnitR x y (if (ltK .f64 0 n && finK .f64 n) then p else 0) (if (ltK .f64 0 n && finK .f64 n) then q else 0) (ltK .f64 0 n && finK .f64 n) := by
    refine ⟨n, g1, rfl, ?_⟩
    cases ltK .f64 0 n && finK .f64 n
    · exact ⟨rfl, rfl⟩
    · exact ⟨g2, g3⟩
  have ok := unit_ok h U
  rw [lt_le_lt (show ltK .f64 0 lo38 = true by decide +kernel) c1, leK_trans c2 (show leK .f64 hi38 9218868437227405311 = true by decide +kernel)] at ok
  rw [ok] at U
  have m := unit_long U h (not_lt_of_le (leK_trans (show leK .f64 553942754166571008 lo38 = true by decide +kernel) c1)) g4
  rw [g5]
  unfold chk
  rw [leK_trans (show leK .f64 lo40 4607182418800017376 = true by decide +kernel) m.1, leK_trans m.2 (show leK .f64 4607182418800017424 hi40 = true by decide +kernel)]
  rfl
theorem calm_mul {w t k : Nat} (cw : calmK w = true) (ct : calmK t = true) (h : resK .mul .f64 w t k) : finK .f64 k = true := by
  obtain ⟨fw, _, bw⟩ := calm_num cw
  obtain ⟨ft, _, bt⟩ := calm_num ct
  refine mul_small fw ft h ?_
  have k : (2 : Rat) ^ 40 * 2 ^ 40 ≤ 2 ^ 100 := by decide +kernel
  have a := Rat.mul_le_mul_of_nonneg_right bw (av_nn t)
  have b := Rat.mul_le_mul_of_nonneg_left bt (show (0 : Rat) ≤ 2 ^ 40 by decide +kernel)
  exact Rat.le_trans a (Rat.le_trans b k)
/-- a move's turn may be a turn -/
theorem move_chk {x y w t qx qy s k : Nat} (hx : DotR x y x y s) (c : chk s = true) (cw : calmK w = true) (ct : calmK t = true) (h : TurnMR x y w t qx qy) (hk : DotR qx qy qx qy k) : chk k = true ∧ finK .f64 qx = true ∧ finK .f64 qy = true := by
  obtain ⟨m, n, bx, b_y, r, i, u, v, b, h1, h2, h3, h4, h5, h6, h7⟩ := h
  have fm := calm_mul cw ct h1
  have nn : nanK .f64 n = false := by
    rw [res_is h2 (mul_spec m halfB fm (by decide +kernel))]
    exact nan_word _ _ _ (Nat.min_le_right _ _)
  obtain ⟨sb, hb⟩ := dot_exists bx b_y
  have cb := by_chk h2.1 nn h3 hb
  obtain ⟨sr, hr⟩ := dot_exists r i
  obtain ⟨l, u'⟩ := then_chk hx c hb cb h4 hr
  have e := turn_unit38 hr l u' h5
  subst e
  simp only [if_true] at h6 h7
  subst h6 h7
  have ck := unit_chk h5 hk
  exact ⟨ck, chk_fin hk ck⟩

/-! ### Twice -/
theorem two_sc : Sc 0 1 oneB twoB := ⟨by decide +kernel, by decide +kernel, by rw [okK64]; decide, by rw [okK64]; decide, by decide +kernel, by decide +kernel⟩
theorem two_rg : Rg 1075 1075 twoB := by
  have e : mg twoB = 2 ^ 1075 := by decide +kernel
  exact .inr ⟨by rw [e]; exact Nat.le_refl _, by rw [e]; exact Nat.le_refl _⟩
theorem calm_rg {a : Nat} (h : calmK a = true) : Rg 774 1114 a := by
  obtain ⟨f, l, b⟩ := calm_num h
  rcases l with z | l
  · exact .inl (mg_zero.2 z)
  · right
    have e1 : mg 3256102530588868608 = 2 ^ 774 := by decide +kernel
    have e2 : mg 4787326403894837248 = 2 ^ 1114 := by decide +kernel
    constructor
    · rw [← e1]; exact av_le_mg (Rat.le_trans (by decide +kernel) l)
    · rw [← e2]; exact av_le_mg (Rat.le_trans b (by decide +kernel))
theorem twice_of {z t a b : Nat} (fz : finK .f64 z = true) (oz : okK .f64 z) (r : Rg a b z) (u1 : 52 ≤ a) (u2 : b ≤ 2090) (h : resK .mul .f64 twoB z t) : Sc 0 1 z t ∧ Rg (a + 1) (b + 1) t := by
  have := scale_sc fz oz two_sc (res_mul_comm h) r two_rg u1 (by omega) (by omega) (by omega)
  rwa [show a + 1075 - 1074 = a + 1 by omega, show b + 1075 - 1074 = b + 1 by omega] at this
theorem zero_sc (i j : Nat) : Sc i j 0 0 := ⟨zero_fin, zero_fin, ok_zero, ok_zero, rfl, by rw [show mg 0 = 0 by decide +kernel]; simp⟩
theorem zero_rg (a b : Nat) : Rg a b 0 := .inl (by decide +kernel)
/-- twice the speed goes twice as far -/
theorem twice_far {s s2 t p p2 x x2 d : Nat} (os : okK .f64 s) (ot : okK .f64 t) (cs : calmK s = true) (ct : calmK t = true) (h0 : resK .mul .f64 twoB s s2) (h1 : resK .mul .f64 t s p) (h2 : resK .add .f64 0 p x) (g1 : resK .mul .f64 t s2 p2) (g2 : resK .add .f64 0 p2 x2) (hd : resK .mul .f64 twoB x d) : d = x2 ∧ finK .f64 x = true ∧ finK .f64 x2 = true := by
  have fs := (calm_num cs).1
  have ft := (calm_num ct).1
  obtain ⟨a1, a2⟩ := twice_of fs os (calm_rg cs) (by omega) (by omega) h0
  obtain ⟨b1, b2, b3⟩ := mul_sc (Sc.refl ft ot) a1 h1 g1 (calm_rg ct) (calm_rg cs) (calm_rg ct) a2 (by omega) (by omega) (by omega) (by omega)
  obtain ⟨c1, c2, c3⟩ := add_sc (zero_sc _ _) b1 h2 g2 (zero_rg _ _) b2 (zero_rg _ _) b3 (by omega) (by omega) (by omega) (by omega) (by omega) (by omega)
  obtain ⟨d1, _⟩ := twice_of c1.1 c1.2.2.1 c2 (by omega) (by omega) hd
  exact ⟨Sc.unique d1 c1, c1.1, c1.2.1⟩
/-- twice the time at half the speed goes as far -/
theorem as_far {s h t t2 p p2 : Nat} (os : okK .f64 s) (ot : okK .f64 t) (cs : calmK s = true) (ct : calmK t = true) (h0 : resK .quo .f64 s twoB h) (h1 : resK .mul .f64 twoB t t2) (g1 : resK .mul .f64 t s p) (g2 : resK .mul .f64 t2 h p2) : p2 = p := by
  have fs := (calm_num cs).1
  have ft := (calm_num ct).1
  obtain ⟨a1, a2⟩ := twice_of ft ot (calm_rg ct) (by omega) (by omega) h1
  obtain ⟨b1, b2⟩ := half_sc fs os h0 (calm_rg cs) (by omega) (by omega)
  obtain ⟨c1, _, _⟩ := mul_sc a1 b1 g1 g2 (calm_rg ct) (calm_rg cs) a2 b2 (by omega) (by omega) (by omega) (by omega)
  exact (Sc.unique (⟨c1.1, c1.1, c1.2.2.1, c1.2.2.1, rfl, rfl⟩ : Sc (0 + 1) (1 + 0) p p) c1).symm
/-- nothing moved -/
theorem still_at {X t p x : Nat} (fX : finK .f64 X = true) (ft : finK .f64 t = true) (h1 : resK .mul .f64 t 0 p) (h2 : resK .add .f64 X p x) : eqK .f64 x X = true := by
  obtain ⟨f, e⟩ := mul_nought ft (nought_rg _) h1
  obtain ⟨g1, g2⟩ := add_exact fX f fX h2 (by rw [e]; omega)
  exact sv_eq g1 fX g2
end Go.Proofs.Ytoljkokcgmigeaa
