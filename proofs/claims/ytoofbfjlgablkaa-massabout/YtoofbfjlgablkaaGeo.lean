/-
  Plain facts on floats, more: rounding to the nearest rung, sums and products of finite floats, signs turned. No program is named here.
-/
import Derived.Test.YtoofbfjlgablkaaTurns
namespace Go.Proofs.Ytoofbfjlgablkaa
open Ieee Go.RowKit
set_option linter.unusedSimpArgs false
set_option linter.unusedVariables false

/-! ### Finite floats of a size: what the operations answer is one thing -/
theorem mul_small2 {x y r : Nat} (hx : finK .f64 x = true) (hy : finK .f64 y = true) (h : resK .mul .f64 x y r) {B : Rat} (hB : B * 2 + 2 ≤ 2 ^ 1000) (hb : av x * av y ≤ B) : finK .f64 r = true := by
  have e := res_is h (mul_spec x y hx hy)
  rw [e]
  refine fin_of _ (rung_fin ?_)
  have hn : nearR (av x * av y) ((vl FloatKind.f64.format (rr FloatKind.f64.format (mg x * mg y) 1074) : Rat) / 2 ^ 1074) := by
    refine near_rr _ _ _ ?_
    have hW := W_pos
    unfold av
    push_cast
    generalize (2 : Rat) ^ 1074 = W at *
    grind
  have hn := hn.2
  have a1 : epR ≤ 1 / 4 := by decide +kernel
  have a2 : etR ≤ 1 := by decide +kernel
  have a4 : (0 : Rat) ≤ (vl FloatKind.f64.format (rr FloatKind.f64.format (mg x * mg y) 1074) : Rat) / 2 ^ 1074 := by
    rw [Rat.div_def]; exact Rat.mul_nonneg Rat.natCast_nonneg (Rat.le_of_lt (Rat.inv_pos.2 W_pos))
  show (vl FloatKind.f64.format (rr FloatKind.f64.format (mg x * mg y) 1074) : Rat) / 2 ^ 1074 ≤ _
  generalize (vl FloatKind.f64.format (rr FloatKind.f64.format (mg x * mg y) 1074) : Rat) / 2 ^ 1074 = A at *
  have a5 := rmul a1 a4
  generalize av x * av y = q at *
  generalize (2 : Rat) ^ 1000 = K at *
  grind
def Bd (n x : Nat) : Prop := okK .f64 x ∧ finK .f64 x = true ∧ av x ≤ 2 ^ n
theorem two_le {m n : Nat} (h : m ≤ n) : (2 : Rat) ^ m ≤ 2 ^ n := by
  obtain ⟨d, rfl⟩ := Nat.le.dest h
  rw [← pow2_cast, ← pow2_cast]
  exact Rat.natCast_le_natCast.2 (Nat.pow_le_pow_right (by decide) (by omega))
theorem two_ge1 (n : Nat) : (1 : Rat) ≤ 2 ^ n := by have := two_le (Nat.zero_le n); rwa [Rat.pow_zero] at this
theorem bd_mono {m n x : Nat} (h : Bd m x) (hn : m ≤ n) : Bd n x := ⟨h.1, h.2.1, Rat.le_trans h.2.2 (two_le hn)⟩
theorem two_900 {n : Nat} (hn : n ≤ 900) : (2 : Rat) ^ n * 8 + 2 ≤ 2 ^ 1000 := by
  have h1 := two_le hn
  have h2 : (2 : Rat) ^ 900 * 8 + 2 ≤ 2 ^ 1000 := by decide +kernel
  generalize (2 : Rat) ^ 900 = A at *
  generalize (2 : Rat) ^ 1000 = B at *
  generalize (2 : Rat) ^ n = C at *
  grind
theorem two_s1 (n : Nat) : (2 : Rat) ^ (n + 1) = 2 * 2 ^ n := by rw [Rat.pow_succ]; grind
theorem two_s2 (n : Nat) : (2 : Rat) ^ (n + 2) = 4 * 2 ^ n := by rw [two_s1, two_s1]; grind
theorem near_bd {q A B : Rat} (h : nrS q A) (hq : ab q ≤ B) (hB : 1 ≤ B) : ab A ≤ 2 * B := by
  unfold nrS at h
  have a1 : epR ≤ 1 / 4 := by decide +kernel
  have a2 : etR ≤ 1 / 8 := by decide +kernel
  have a5 := rmul a1 (ab_nn A)
  have h1 : ab A ≤ ab (q - A) + ab q := by
    have := ab_add (A - q) q
    have e : ab (A - q) = ab (q - A) := by rw [← ab_neg]; congr 1; grind
    rw [e] at this
    have e2 : A - q + q = A := by grind
    rwa [e2] at this
  grind
theorem okDv (op : BinOp) {x y : Nat} (h : (floatBits op .f64 x y).isSome = true) : okK .f64 (Dv op x y) := (dv_res h).1
theorem bd_add {n x y : Nat} (hx : Bd n x) (hy : Bd n y) (hn : n ≤ 900) : Bd (n + 2) (Dv .add x y) := by
  have s := some_add hx.2.1 hy.2.1
  have r := dv_res s
  have hb : av x + av y ≤ 2 * 2 ^ n := by have := hx.2.2; have := hy.2.2; grind
  have f := add_small2 hx.2.1 hy.2.1 r (B := 2 * 2 ^ n) (by have := two_900 hn; have := two_ge1 n; grind) hb
  refine ⟨okDv _ s, f, ?_⟩
  rw [← ab_rv, two_s2]
  have := near_bd (add_rv hx.2.1 hy.2.1 f r) (Rat.le_trans (ab_add _ _) (by rw [ab_rv, ab_rv]; exact hb)) (by have := two_ge1 n; grind)
  grind
theorem bd_sub {n x y : Nat} (hx : Bd n x) (hy : Bd n y) (hn : n ≤ 900) : Bd (n + 2) (Dv .sub x y) := by
  have s := some_sub hx.2.1 hy.2.1 hy.1
  have r := dv_res s
  have hb : av x + av y ≤ 2 * 2 ^ n := by have := hx.2.2; have := hy.2.2; grind
  have f := sub_small2 hy.1 hx.2.1 hy.2.1 r (B := 2 * 2 ^ n) (by have := two_900 hn; have := two_ge1 n; grind) hb
  refine ⟨okDv _ s, f, ?_⟩
  rw [← ab_rv, two_s2]
  have := near_bd (sub_rv hy.1 hx.2.1 hy.2.1 f r) (B := 2 * 2 ^ n) (by
    have h1 := ab_add (rv x) (-rv y)
    rw [ab_neg, ab_rv, ab_rv] at h1
    have e : rv x + -rv y = rv x - rv y := by grind
    rw [e] at h1
    exact Rat.le_trans h1 hb) (by have := two_ge1 n; grind)
  grind
theorem bd_mul {m n x y : Nat} (hx : Bd m x) (hy : Bd n y) (hn : m + n ≤ 900) : Bd (m + n + 1) (Dv .mul x y) := by
  have s := some_mul hx.2.1 hy.2.1
  have r := dv_res s
  have hb : av x * av y ≤ 2 ^ (m + n) := by
    rw [rp_add]
    exact Rat.le_trans (Rat.mul_le_mul_of_nonneg_right hx.2.2 (av_nn y)) (Rat.mul_le_mul_of_nonneg_left hy.2.2 (Rat.le_trans (by decide) (two_ge1 m)))
  have f := mul_small2 hx.2.1 hy.2.1 r (B := 2 ^ (m + n)) (by have := two_900 hn; have := two_ge1 (m + n); grind) hb
  refine ⟨okDv _ s, f, ?_⟩
  rw [← ab_rv, two_s1]
  exact near_bd (mul_rv hx.2.1 hy.2.1 f r) (by rw [ab_mul, ab_rv, ab_rv]; exact hb) (two_ge1 _)
end Go.Proofs.Ytoofbfjlgablkaa
namespace Go.Proofs.Ytoofbfjlgablkaa
open Ieee Go.RowKit
set_option linter.unusedSimpArgs false
set_option linter.unusedVariables false

/-! ### Ways of finite parts: what package vec answers is one thing -/
def maxB : Nat := 4787326403894837248
def minB : Nat := 4472074429978902528
theorem bd_within {x : Nat} (o : okK .f64 x) (h : withinK .f64 x 4787326403894837248 = true) : Bd 40 x := by
  have om : okK .f64 4787326403894837248 := by rw [okK64]; decide
  rw [← abs_within _ _ om] at h
  have h1 : rgK .f64 (rgK .f64 x) = rgK .f64 x := by rw [rg64, rg64]; omega
  have h2 : ngK .f64 (rgK .f64 x) = false := by rw [ng64, rg64, beq_eq_false_iff_ne]; omega
  obtain ⟨f, g⟩ := fin_of_le (a := rgK .f64 x) (b := 4787326403894837248) (by decide +kernel) h2 (by decide +kernel) h
  have e : av (rgK .f64 x) = av x := by unfold av mg; rw [h1]
  have e2 : finK .f64 (rgK .f64 x) = finK .f64 x := by unfold finK; rw [h1]
  have e3 : av 4787326403894837248 = 2 ^ 40 := by decide +kernel
  rw [e, e3] at g
  rw [e2] at f
  exact ⟨o, f, g⟩
def crK (ax ay bx b_y : Nat) : Nat := Dv .sub (Dv .mul ax b_y) (Dv .mul ay bx)
def dtK (ax ay bx b_y : Nat) : Nat := Dv .add (Dv .mul ax bx) (Dv .mul ay b_y)
def lnK (ax ay : Nat) : Nat := Sq (dtK ax ay ax ay)
def unB (ax ay : Nat) : Bool := ltK .f64 0 (lnK ax ay) && finK .f64 (lnK ax ay)
def unX (ax ay : Nat) : Nat := if unB ax ay then Dv .quo ax (lnK ax ay) else 0
def unY (ax ay : Nat) : Nat := if unB ax ay then Dv .quo ay (lnK ax ay) else 0
theorem addR_d {n ax ay bx b_y x y : Nat} (h1 : Bd n ax) (h2 : Bd n ay) (h3 : Bd n bx) (h4 : Bd n b_y) (h : AddR ax ay bx b_y x y) : x = Dv .add ax bx ∧ y = Dv .add ay b_y :=
  ⟨res_dv h.1 (some_add h1.2.1 h3.2.1), res_dv h.2 (some_add h2.2.1 h4.2.1)⟩
theorem subR_d {n ax ay bx b_y x y : Nat} (h1 : Bd n ax) (h2 : Bd n ay) (h3 : Bd n bx) (h4 : Bd n b_y) (h : SubR ax ay bx b_y x y) : x = Dv .sub ax bx ∧ y = Dv .sub ay b_y :=
  ⟨res_dv h.1 (some_sub h1.2.1 h3.2.1 h3.1), res_dv h.2 (some_sub h2.2.1 h4.2.1 h4.1)⟩
theorem scaleR_d {n m ax ay s x y : Nat} (h1 : Bd n ax) (h2 : Bd n ay) (h3 : Bd m s) (h : ScaleR ax ay s x y) : x = Dv .mul ax s ∧ y = Dv .mul ay s :=
  ⟨res_dv h.1 (some_mul h1.2.1 h3.2.1), res_dv h.2 (some_mul h2.2.1 h3.2.1)⟩
theorem bd_cr {n m ax ay bx b_y : Nat} (h1 : Bd n ax) (h2 : Bd n ay) (h3 : Bd m bx) (h4 : Bd m b_y) (hn : n + m ≤ 800) : Bd (n + m + 3) (crK ax ay bx b_y) :=
  bd_sub (bd_mul h1 h4 (by omega)) (bd_mul h2 h3 (by omega)) (by omega)
theorem bd_dt {n m ax ay bx b_y : Nat} (h1 : Bd n ax) (h2 : Bd n ay) (h3 : Bd m bx) (h4 : Bd m b_y) (hn : n + m ≤ 800) : Bd (n + m + 3) (dtK ax ay bx b_y) :=
  bd_add (bd_mul h1 h3 (by omega)) (bd_mul h2 h4 (by omega)) (by omega)
theorem crossR_d {n m ax ay bx b_y r : Nat} (h1 : Bd n ax) (h2 : Bd n ay) (h3 : Bd m bx) (h4 : Bd m b_y) (hn : n + m ≤ 800) (h : CrossR ax ay bx b_y r) : r = crK ax ay bx b_y := by
  obtain ⟨p, q, e1, e2, e3⟩ := h
  rw [res_dv e1 (some_mul h1.2.1 h4.2.1), res_dv e2 (some_mul h2.2.1 h3.2.1)] at e3
  have b1 := bd_mul h1 h4 (by omega)
  have b2 := bd_mul h2 h3 (by omega)
  exact res_dv e3 (some_sub b1.2.1 b2.2.1 b2.1)
theorem dotR_d {n m ax ay bx b_y r : Nat} (h1 : Bd n ax) (h2 : Bd n ay) (h3 : Bd m bx) (h4 : Bd m b_y) (hn : n + m ≤ 800) (h : DotR ax ay bx b_y r) : r = dtK ax ay bx b_y :=
  dot_is h h1.2.1 h2.2.1 h3.2.1 h4.2.1 (bd_mul h1 h3 (by omega)).2.1 (bd_mul h2 h4 (by omega)).2.1
theorem dtK_res {n m ax ay bx b_y : Nat} (h1 : Bd n ax) (h2 : Bd n ay) (h3 : Bd m bx) (h4 : Bd m b_y) (hn : n + m ≤ 800) : DotR ax ay bx b_y (dtK ax ay bx b_y) :=
  ⟨_, _, dv_res (some_mul h1.2.1 h3.2.1), dv_res (some_mul h2.2.1 h4.2.1), dv_res (some_add (bd_mul h1 h3 (by omega)).2.1 (bd_mul h2 h4 (by omega)).2.1)⟩
theorem crK_res {n m ax ay bx b_y : Nat} (h1 : Bd n ax) (h2 : Bd n ay) (h3 : Bd m bx) (h4 : Bd m b_y) (hn : n + m ≤ 800) : CrossR ax ay bx b_y (crK ax ay bx b_y) :=
  ⟨_, _, dv_res (some_mul h1.2.1 h4.2.1), dv_res (some_mul h2.2.1 h3.2.1), dv_res (some_sub (bd_mul h1 h4 (by omega)).2.1 (bd_mul h2 h3 (by omega)).2.1 (bd_mul h2 h3 (by omega)).1)⟩
theorem sq_ng {n ax ay : Nat} (h1 : Bd n ax) (h2 : Bd n ay) (hn : n ≤ 400) : finK .f64 (dtK ax ay ax ay) = true ∧ ngK .f64 (dtK ax ay ax ay) = false := by
  have f := (bd_dt h1 h2 h1 h2 (by omega)).2.1
  refine ⟨f, ?_⟩
  rcases square_cases (dtK_res h1 h2 h1 h2 (by omega)) with h | h
  · rw [nanK_eq] at h
    unfold finK at f
    simp at h f
    omega
  · exact h
theorem lengthR_d {n ax ay r : Nat} (h1 : Bd n ax) (h2 : Bd n ay) (hn : n ≤ 400) (h : LengthR ax ay r) : r = lnK ax ay := by
  obtain ⟨s, e1, e2⟩ := h
  rw [dotR_d h1 h2 h1 h2 (by omega) e1] at e2
  obtain ⟨f, g⟩ := sq_ng h1 h2 hn
  exact sqR_is e2 (sqr_some f g)
theorem lnK_res {n ax ay : Nat} (h1 : Bd n ax) (h2 : Bd n ay) (hn : n ≤ 400) : LengthR ax ay (lnK ax ay) := by
  obtain ⟨f, g⟩ := sq_ng h1 h2 hn
  exact ⟨_, dtK_res h1 h2 h1 h2 (by omega), sq_res (sqr_some f g)⟩
theorem some_quo {x y : Nat} (hx : finK .f64 x = true) (hy : finK .f64 y = true) (h0 : mg y ≠ 0) : (floatBits .quo .f64 x y).isSome = true := by
  obtain ⟨Q, r, _, _, _, e, _⟩ := quo_near hx hy h0
  rw [e]; rfl
theorem pos_mg {x : Nat} (h : ltK .f64 0 x = true) : mg x ≠ 0 := by
  intro h0
  have hr := mg_zero.1 h0
  unfold ltK at h
  simp only [Bool.and_eq_true, decide_eq_true_eq] at h
  have e1 : woK .f64 0 = 0 := by decide +kernel
  have e2 := woK_eq .f64 x
  rw [hr] at e2
  rw [e1] at h
  split at e2 <;> omega
theorem unitR_d {n ax ay x y : Nat} {b : Bool} (h1 : Bd n ax) (h2 : Bd n ay) (hn : n ≤ 400) (h : UnitR ax ay x y b) : x = unX ax ay ∧ y = unY ax ay ∧ b = unB ax ay := by
  obtain ⟨m, e1, e2, e3⟩ := h
  rw [lengthR_d h1 h2 hn e1] at e2 e3
  have eb : b = unB ax ay := e2
  subst eb
  unfold unX unY
  cases hb : unB ax ay
  · rw [hb] at e3
    simpa using e3
  · rw [hb] at e3
    have hb' := hb
    unfold unB at hb'
    rw [Bool.and_eq_true] at hb'
    simp only [if_true] at e3 ⊢
    exact ⟨res_dv e3.1 (some_quo h1.2.1 hb'.2 (pos_mg hb'.1)), res_dv e3.2 (some_quo h2.2.1 hb'.2 (pos_mg hb'.1)), trivial⟩
end Go.Proofs.Ytoofbfjlgablkaa
namespace Go.Proofs.Ytoofbfjlgablkaa
open Ieee Go.RowKit
set_option linter.unusedSimpArgs false
set_option linter.unusedVariables false

/-! ### Polygons: what package poly answers of finite points -/
def allB (n : Nat) (f : Nat → Bool) : Bool := (List.range n).all f
theorem allB_iff {n : Nat} {f : Nat → Bool} : allB n f = true ↔ ∀ i, i < n → f i = true := by
  unfold allB; rw [List.all_eq_true]; simp [List.mem_range]
theorem allB_no {n i : Nat} {f : Nat → Bool} (h : i < n) (g : f i = false) : allB n f = false := by
  cases e : allB n f
  · rfl
  · have := allB_iff.1 e i h; rw [g] at this; cases this
/-- a side's way -/
def wX (xs : Nat → Nat) (n i : Nat) : Nat := Dv .sub (xs ((i + 1) % n)) (xs i)
/-- how far a place lies to the left of a side -/
def lnS (xs ys : Nat → Nat) (n i p q : Nat) : Nat := crK (wX xs n i) (wX ys n i) (Dv .sub p (xs i)) (Dv .sub q (ys i))
def outB (xs ys : Nat → Nat) (n i : Nat) : Bool := !ltK .f64 (lnK (wX xs n i) (wX ys n i)) 4472074429978902528 && allB n fun k => decide (k < 2) || ltK .f64 0 (lnS xs ys n i (xs ((i + k) % n)) (ys ((i + k) % n)))
def reaB (xs ys : Nat → Nat) (n : Nat) : Bool := allB n fun i => withinK .f64 (xs i) 4787326403894837248 && withinK .f64 (ys i) 4787326403894837248
def plcE (xs ys : Nat → Nat) (n : Nat) : Int := if 64 < n then 4 else if reaB xs ys n then 0 else 5
def chkE (xs ys : Nat → Nat) (n : Nat) : Int := if plcE xs ys n = 0 then (if n < 3 then 60 else if allB n (outB xs ys n) then 0 else 60) else plcE xs ys n
/-- points of a size -/
def Gd (xs ys : Nat → Nat) (n : Nat) : Prop := ∀ i, i < n → Bd 40 (xs i) ∧ Bd 40 (ys i)
def Oks (xs ys : Nat → Nat) (n : Nat) : Prop := ∀ i, i < n → okK .f64 (xs i) ∧ okK .f64 (ys i)
theorem gd_of {xs ys : Nat → Nat} {n : Nat} (o : Oks xs ys n) (h : reaB xs ys n = true) : Gd xs ys n := fun i hi => by
  have := allB_iff.1 h i hi
  rw [Bool.and_eq_true] at this
  exact ⟨bd_within (o i hi).1 this.1, bd_within (o i hi).2 this.2⟩
theorem gd_plc {xs ys : Nat → Nat} {n : Nat} (o : Oks xs ys n) (h : plcE xs ys n = 0) : Gd xs ys n ∧ n ≤ 64 := by
  unfold plcE at h
  split at h
  · cases h
  · split at h
    · exact ⟨gd_of o (by assumption), by omega⟩
    · cases h
theorem wX_bd {xs ys : Nat → Nat} {n i : Nat} (g : Gd xs ys n) (hi : i < n) : Bd 42 (wX xs n i) ∧ Bd 42 (wX ys n i) := by
  have hj : (i + 1) % n < n := Nat.mod_lt _ (by omega)
  exact ⟨bd_sub (g _ hj).1 (g _ hi).1 (by decide), bd_sub (g _ hj).2 (g _ hi).2 (by decide)⟩
/-- a triangle of a fan: twice its area, and the way to its middle by that -/
def tA (fx fy px p_y qx qy : Nat) : Nat := crK (Dv .sub px fx) (Dv .sub p_y fy) (Dv .sub qx fx) (Dv .sub qy fy)
def tX (fx fy px p_y qx qy : Nat) : Nat := Dv .mul (Dv .add (Dv .sub px fx) (Dv .sub qx fx)) (tA fx fy px p_y qx qy)
def tY (fx fy px p_y qx qy : Nat) : Nat := Dv .mul (Dv .add (Dv .sub p_y fy) (Dv .sub qy fy)) (tA fx fy px p_y qx qy)
/-- sums of the first k + 1 triangles -/
def sA (xs ys : Nat → Nat) : Nat → Nat
  | 0 => tA (xs 0) (ys 0) (xs 1) (ys 1) (xs 2) (ys 2)
  | k + 1 => Dv .add (sA xs ys k) (tA (xs 0) (ys 0) (xs (k + 2)) (ys (k + 2)) (xs (k + 3)) (ys (k + 3)))
def sX (xs ys : Nat → Nat) : Nat → Nat
  | 0 => tX (xs 0) (ys 0) (xs 1) (ys 1) (xs 2) (ys 2)
  | k + 1 => Dv .add (sX xs ys k) (tX (xs 0) (ys 0) (xs (k + 2)) (ys (k + 2)) (xs (k + 3)) (ys (k + 3)))
def sY (xs ys : Nat → Nat) : Nat → Nat
  | 0 => tY (xs 0) (ys 0) (xs 1) (ys 1) (xs 2) (ys 2)
  | k + 1 => Dv .add (sY xs ys k) (tY (xs 0) (ys 0) (xs (k + 2)) (ys (k + 2)) (xs (k + 3)) (ys (k + 3)))
theorem t_bd {fx fy px p_y qx qy : Nat} (h1 : Bd 40 fx) (h2 : Bd 40 fy) (h3 : Bd 40 px) (h4 : Bd 40 p_y) (h5 : Bd 40 qx) (h6 : Bd 40 qy) : Bd 87 (tA fx fy px p_y qx qy) ∧ Bd 132 (tX fx fy px p_y qx qy) ∧ Bd 132 (tY fx fy px p_y qx qy) := by
  have b1 := bd_sub h3 h1 (by decide)
  have b2 := bd_sub h4 h2 (by decide)
  have b3 := bd_sub h5 h1 (by decide)
  have b4 := bd_sub h6 h2 (by decide)
  have c := bd_cr b1 b2 b3 b4 (by decide)
  exact ⟨c, bd_mul (bd_add b1 b3 (by decide)) c (by decide), bd_mul (bd_add b2 b4 (by decide)) c (by decide)⟩
theorem s_bd {xs ys : Nat → Nat} {n : Nat} (g : Gd xs ys n) : ∀ k, k + 2 < n → k ≤ 64 → Bd (87 + 2 * k) (sA xs ys k) ∧ Bd (132 + 2 * k) (sX xs ys k) ∧ Bd (132 + 2 * k) (sY xs ys k) := by
  intro k
  have t : ∀ i j, i < n → j < n → _ := fun i j hi hj => t_bd (g 0 (by omega)).1 (g 0 (by omega)).2 (g i hi).1 (g i hi).2 (g j hj).1 (g j hj).2
  induction k with
  | zero => intro h _; exact t 1 2 (by omega) (by omega)
  | succ k ih =>
    intro h hk
    obtain ⟨a, b, c⟩ := ih (by omega) (by omega)
    obtain ⟨d, e, f⟩ := t (k + 2) (k + 3) (by omega) (by omega)
    have A := bd_add (n := 87 + 2 * k) a (bd_mono d (by omega)) (by omega)
    have B := bd_add (n := 132 + 2 * k) b (bd_mono e (by omega)) (by omega)
    have C := bd_add (n := 132 + 2 * k) c (bd_mono f (by omega)) (by omega)
    exact ⟨A, B, C⟩
/-- the fan's error: what Check says, or that rounding has left nothing -/
def fanE (xs ys : Nat → Nat) (n : Nat) : Int := if chkE xs ys n = 0 then (if ltK .f64 0 (sA xs ys (n - 3)) then 0 else 61) else chkE xs ys n
def fanA (xs ys : Nat → Nat) (n : Nat) : Nat := if fanE xs ys n = 0 then sA xs ys (n - 3) else 0
def fanX (xs ys : Nat → Nat) (n : Nat) : Nat := if fanE xs ys n = 0 then sX xs ys (n - 3) else 0
def fanY (xs ys : Nat → Nat) (n : Nat) : Nat := if fanE xs ys n = 0 then sY xs ys (n - 3) else 0
theorem chk_ok {xs ys : Nat → Nat} {n : Nat} (o : Oks xs ys n) (h : chkE xs ys n = 0) : Gd xs ys n ∧ 3 ≤ n ∧ n ≤ 64 ∧ ∀ i, i < n → outB xs ys n i = true := by
  unfold chkE at h
  split at h
  · rename_i hp
    obtain ⟨g, h64⟩ := gd_plc o hp
    split at h
    · cases h
    · split at h
      · exact ⟨g, by omega, h64, allB_iff.1 (by assumption)⟩
      · cases h
  · contradiction
theorem run_add_dv (P : Program) (t : TypeId) (x y : Nat) (w : World) (hx : finK .f64 x = true) (hy : finK .f64 y = true) : (binOp .add t (.float .f64 x) (.float .f64 y)).run P w = .ok (.float .f64 (Dv .add x y)) w := by
  obtain ⟨v, hv⟩ := Option.isSome_iff_exists.1 (some_add hx hy)
  rw [run_add, show fd .add .f64 x y = 0 by unfold fd; rw [hv]; rfl]
  unfold fv Dv
  rw [hv]; rfl
theorem run_sub_dv (P : Program) (t : TypeId) (x y : Nat) (w : World) (hx : finK .f64 x = true) (hy : finK .f64 y = true) (oy : okK .f64 y) : (binOp .sub t (.float .f64 x) (.float .f64 y)).run P w = .ok (.float .f64 (Dv .sub x y)) w := by
  obtain ⟨v, hv⟩ := Option.isSome_iff_exists.1 (some_sub hx hy oy)
  rw [run_sub, show fd .sub .f64 x y = 0 by unfold fd; rw [hv]; rfl]
  unfold fv Dv
  rw [hv]; rfl
theorem run_quo_dv (P : Program) (t : TypeId) (x y : Nat) (w : World) (hx : finK .f64 x = true) (hy : finK .f64 y = true) (h0 : mg y ≠ 0) : (binOp .quo t (.float .f64 x) (.float .f64 y)).run P w = .ok (.float .f64 (Dv .quo x y)) w := by
  obtain ⟨v, hv⟩ := Option.isSome_iff_exists.1 (some_quo hx hy h0)
  rw [run_quo, show fd .quo .f64 x y = 0 by unfold fd; rw [hv]; rfl]
  unfold fv Dv
  rw [hv]; rfl
end Go.Proofs.Ytoofbfjlgablkaa
namespace Go.Proofs.Ytoofbfjlgablkaa
open Ieee Go.RowKit
set_option linter.unusedSimpArgs false
set_option linter.unusedVariables false

theorem some_add_num {x y : Nat} (hx : finK .f64 x = true) (hy : nanK .f64 y = false) : (floatBits .add .f64 x y).isSome = true := by
  cases hf : finK .f64 y
  · obtain ⟨m, p, e, _⟩ := read_num64 x hx
    show (((FloatKind.f64.format.read x).sum (FloatKind.f64.format.read y)).map FloatKind.f64.format.write).isSome = true
    rw [e]
    have hi : rgK .f64 y = infK .f64 := by
      rw [nanK_eq] at hy
      unfold finK at hf
      simp at hy hf
      omega
    have hr : ∃ s, FloatKind.f64.format.read y = .infinity s := ⟨_, read_inf _ (okF .f64) y hi⟩
    obtain ⟨s, hr⟩ := hr
    rw [hr]; rfl
  · exact some_add hx hf
/-- a quotient by what is not too small -/
theorem bd_quo {m k l x y : Nat} (hx : Bd m x) (hy : Bd l y) (h1 : 1 ≤ av y * 2 ^ k) (hn : m + k ≤ 800) : Bd (m + k + 3) (Dv .quo x y) ∧ resK .quo .f64 x y (Dv .quo x y) := by
  have y0 : mg y ≠ 0 := by
    intro h
    have : av y = 0 := by unfold av; rw [h]; decide +kernel
    rw [this] at h1
    have : (0 : Rat) * 2 ^ k = 0 := Rat.zero_mul _
    rw [this] at h1
    exact absurd h1 (by decide)
  have s := some_quo hx.2.1 hy.2.1 y0
  have r := dv_res s
  obtain ⟨Q, c, q0, q1, q2, e, hnr, _⟩ := quo_near hx.2.1 hy.2.1 y0
  have hQ : Q ≤ 2 * 2 ^ (m + k) := by
    have a1 : epR ≤ 1 := by decide +kernel
    have a2 := rmul a1 (av_nn x)
    have a3 : Q * av y ≤ 2 * av x := by grind
    have a4 : Q ≤ Q * (av y * 2 ^ k) := by
      have := Rat.mul_le_mul_of_nonneg_left h1 q0
      rwa [Rat.mul_one] at this
    have a5 : (0 : Rat) ≤ 2 ^ k := Rat.le_trans (by decide) (two_ge1 k)
    have a6 := Rat.mul_le_mul_of_nonneg_right a3 a5
    have a7 := Rat.mul_le_mul_of_nonneg_right hx.2.2 a5
    rw [rp_add]
    grind
  have hv : (vl FloatKind.f64.format c : Rat) / 2 ^ 1074 ≤ 4 * 2 ^ (m + k) := by
    have h2 := hnr.2
    have a1 : epR ≤ 1 / 4 := by decide +kernel
    have a2 : etR ≤ 1 := by decide +kernel
    have a4 : (0 : Rat) ≤ (vl FloatKind.f64.format c : Rat) / 2 ^ 1074 := by
      rw [Rat.div_def]; exact Rat.mul_nonneg Rat.natCast_nonneg (Rat.le_of_lt (Rat.inv_pos.2 W_pos))
    have a5 := rmul a1 a4
    have a6 := two_ge1 (m + k)
    generalize (vl FloatKind.f64.format c : Rat) / 2 ^ 1074 = A at *
    grind
  have hc : c < infK .f64 := rung_fin (Rat.le_trans hv (by
    have := two_900 (n := m + k) (by omega)
    have := two_ge1 (m + k)
    generalize (2 : Rat) ^ 1000 = K at *
    grind))
  have er := res_is r e
  refine ⟨⟨okDv _ s, by rw [er]; exact fin_of _ hc, ?_⟩, r⟩
  rw [er, av_word _ _ hc]
  refine Rat.le_trans hv ?_
  rw [show m + k + 3 = (m + k) + 1 + 2 by omega, two_s2, two_s1]
  have := two_ge1 (m + k)
  grind
theorem mul3_ne {n x : Nat} (hx : Bd n x) (hn : n ≤ 800) (h0 : mg x ≠ 0) : mg (Dv .mul 4613937818241073152 x) ≠ 0 ∧ Bd (n + 3) (Dv .mul 4613937818241073152 x) := by
  have b3 : Bd 2 4613937818241073152 := ⟨by rw [okK64]; decide, by decide +kernel, by decide +kernel⟩
  have bm := bd_mul b3 hx (by omega)
  refine ⟨fun h => ?_, by rw [show n + 3 = 2 + n + 1 by omega]; exact bm⟩
  have r := dv_res (some_mul b3.2.1 hx.2.1)
  have hr := mul_rv b3.2.1 hx.2.1 bm.2.1 r
  have e0 : rv (Dv .mul 4613937818241073152 x) = 0 := by
    have : av (Dv .mul 4613937818241073152 x) = 0 := by unfold av; rw [h]; decide +kernel
    unfold rv; rw [this]; split <;> decide +kernel
  have e3 : av 4613937818241073152 = 3 := by decide +kernel
  have hx1 := av_ge h0
  unfold nrS at hr
  rw [e0] at hr
  have e4 : ab (rv 4613937818241073152 * rv x - 0) = 3 * av x := by
    rw [show rv 4613937818241073152 * rv x - 0 = rv 4613937818241073152 * rv x by grind, ab_mul, ab_rv, ab_rv, e3]
  rw [e4] at hr
  have e5 : ab 0 = 0 := by decide +kernel
  rw [e5] at hr
  have e6 : etR < 1 / 2 ^ 1074 := by decide +kernel
  have hx2 := av_nn x
  generalize (1 : Rat) / 2 ^ 1074 = W at *
  grind
theorem quo_num {x y : Nat} (hx : finK .f64 x = true) (hy : finK .f64 y = true) (h0 : mg y ≠ 0) : nanK .f64 (Dv .quo x y) = false := by
  obtain ⟨Q, c, q0, q1, q2, e, hnr, _⟩ := quo_near hx hy h0
  have er := res_is (dv_res (some_quo hx hy h0)) e
  rw [er]
  exact nan_word _ _ _ (Nat.min_le_right _ _)
theorem addR_n {ax ay bx b_y x y : Nat} (h1 : finK .f64 ax = true) (h2 : finK .f64 ay = true) (h3 : nanK .f64 bx = false) (h4 : nanK .f64 b_y = false) (h : AddR ax ay bx b_y x y) : x = Dv .add ax bx ∧ y = Dv .add ay b_y :=
  ⟨res_dv h.1 (some_add_num h1 h3), res_dv h.2 (some_add_num h2 h4)⟩
def fanB (xs ys : Nat → Nat) (n : Nat) : Nat := Dv .mul 4613937818241073152 (fanA xs ys n)
def cenX (xs ys : Nat → Nat) (n : Nat) : Nat := if fanE xs ys n = 0 then Dv .add (xs 0) (Dv .quo (fanX xs ys n) (fanB xs ys n)) else 0
def cenY (xs ys : Nat → Nat) (n : Nat) : Nat := if fanE xs ys n = 0 then Dv .add (ys 0) (Dv .quo (fanY xs ys n) (fanB xs ys n)) else 0
/-- a side's normal -/
def nX (xs ys : Nat → Nat) (n i : Nat) : Nat := unX (wX ys n i) (Op.negFloat .f64 (wX xs n i))
def nY (xs ys : Nat → Nat) (n i : Nat) : Nat := unY (wX ys n i) (Op.negFloat .f64 (wX xs n i))
theorem bd_neg {n x : Nat} (h : Bd n x) : Bd n (Op.negFloat .f64 x) := ⟨(neg_facts .f64 x h.1).2.2, by rw [fin_neg _ h.1]; exact h.2.1, by
  have : av (Op.negFloat .f64 x) = av x := by unfold av mg; rw [(neg_facts .f64 x h.1).1]
  rw [this]; exact h.2.2⟩
theorem ln_facts {ax ay : Nat} (h1 : Bd 42 ax) (h2 : Bd 42 ay) (h : ltK .f64 (lnK ax ay) 4472074429978902528 = false) : finK .f64 (lnK ax ay) = true ∧ ngK .f64 (lnK ax ay) = false ∧ okK .f64 (lnK ax ay) ∧ 1 ≤ av (lnK ax ay) * 2 ^ 30 := by
  obtain ⟨f, g⟩ := sq_ng h1 h2 (by decide)
  have q := sq_res (sqr_some f g)
  by_cases hz : mg (dtK ax ay ax ay) = 0
  · have e := sqr_zero f g hz q
    unfold lnK at h
    rw [e] at h
    exact absurd h (by decide +kernel)
  · obtain ⟨f1, f2, f3, _⟩ := root_fin f g hz q
    have hle : leK .f64 4472074429978902528 (lnK ax ay) = true := by
      have n1 := fin_num f1
      have n2 : nanK .f64 4472074429978902528 = false := by decide +kernel
      unfold ltK at h
      unfold leK
      unfold lnK at h ⊢
      rw [n1, n2] at h ⊢
      simp at h ⊢
      exact h
    obtain ⟨_, hav⟩ := av_of_le (by decide +kernel) (by decide +kernel) hle
    refine ⟨f1, f2, q.1, ?_⟩
    have e1 : av 4472074429978902528 = 1 / 2 ^ 30 := by decide +kernel
    rw [e1] at hav
    have := Rat.mul_le_mul_of_nonneg_right hav (show (0 : Rat) ≤ 2 ^ 30 by decide)
    rwa [show (1 : Rat) / 2 ^ 30 * 2 ^ 30 = 1 by decide +kernel] at this
theorem ln_right {ax ay : Nat} (h1 : Bd 42 ax) (h2 : Bd 42 ay) : lnK ay (Op.negFloat .f64 ax) = lnK ax ay :=
  (lengthR_d h1 h2 (by decide) (length_right h1.1 (lnK_res h2 (bd_neg h1) (by decide))))
theorem ln_bd {ax ay : Nat} (h1 : Bd 42 ax) (h2 : Bd 42 ay) (h : ltK .f64 (lnK ax ay) 4472074429978902528 = false) : Bd 1024 (lnK ax ay) := by
  obtain ⟨f, _, o, _⟩ := ln_facts h1 h2 h
  exact ⟨o, f, av_le f⟩
theorem n_bd {ax ay : Nat} (h1 : Bd 42 ax) (h2 : Bd 42 ay) (h : ltK .f64 (lnK ax ay) 4472074429978902528 = false) : unB ay (Op.negFloat .f64 ax) = true ∧ Bd 80 (unX ay (Op.negFloat .f64 ax)) ∧ Bd 80 (unY ay (Op.negFloat .f64 ax)) := by
  obtain ⟨f, g, o, hb⟩ := ln_facts h1 h2 h
  have e := ln_right h1 h2
  have hm : mg (lnK ax ay) ≠ 0 := by
    intro h0
    have : av (lnK ax ay) = 0 := by unfold av; rw [h0]; decide +kernel
    rw [this] at hb
    exact absurd hb (by decide +kernel)
  have hu : unB ay (Op.negFloat .f64 ax) = true := by
    unfold unB
    rw [e, f, Bool.and_true]
    unfold ltK
    have n1 := fin_num f
    rw [n1]
    have w0 : woK .f64 0 = 0 := by decide +kernel
    have w1 := woK_eq .f64 (lnK ax ay)
    rw [g] at w1
    have hr : rgK .f64 (lnK ax ay) ≠ 0 := fun h0 => hm (mg_zero.2 h0)
    rw [w0, w1]
    simp
    exact ⟨by decide +kernel, by omega⟩
  refine ⟨hu, ?_, ?_⟩
  · unfold unX
    rw [hu, if_pos rfl, e]
    exact bd_mono (bd_quo h2 (ln_bd h1 h2 h) hb (by decide)).1 (by decide)
  · unfold unY
    rw [hu, if_pos rfl, e]
    exact bd_mono (bd_quo (bd_neg h1) (ln_bd h1 h2 h) hb (by decide)).1 (by decide)
theorem out_len {xs ys : Nat → Nat} {n i : Nat} (h : outB xs ys n i = true) : ltK .f64 (lnK (wX xs n i) (wX ys n i)) 4472074429978902528 = false := by
  unfold outB at h
  rw [Bool.and_eq_true] at h
  simpa using h.1
/-- the place along a way: which of the first k + 1 is farthest -/
def farK (xs ys : Nat → Nat) (p q : Nat) : Nat → Nat
  | 0 => 0
  | k + 1 => if ltK .f64 (dtK (xs (farK xs ys p q k)) (ys (farK xs ys p q k)) p q) (dtK (xs (k + 1)) (ys (k + 1)) p q) then k + 1 else farK xs ys p q k
theorem far_le (xs ys : Nat → Nat) (p q : Nat) : ∀ k, farK xs ys p q k ≤ k := by
  intro k
  induction k with
  | zero => exact Nat.le_refl _
  | succ k ih => unfold farK; split <;> omega
def dN (nx ny fx fy x y : Nat) : Nat := dtK nx ny (Dv .sub x fx) (Dv .sub y fy)
/-- how far ahead the nearest of the first k + 1 points lies -/
def ahK (nx ny fx fy : Nat) (xs ys : Nat → Nat) : Nat → Nat
  | 0 => dN nx ny fx fy (xs 0) (ys 0)
  | k + 1 => if ltK .f64 (dN nx ny fx fy (xs (k + 1)) (ys (k + 1))) (ahK nx ny fx fy xs ys k) then dN nx ny fx fy (xs (k + 1)) (ys (k + 1)) else ahK nx ny fx fy xs ys k
def ahS (as bs : Nat → Nat) (n : Nat) (xs ys : Nat → Nat) (m i : Nat) : Nat := ahK (nX as bs n i) (nY as bs n i) (as i) (bs i) xs ys (m - 1)
def apF (as bs : Nat → Nat) (n : Nat) (xs ys : Nat → Nat) (m : Nat) : Nat → Nat
  | 0 => ahS as bs n xs ys m 0
  | k + 1 => if ltK .f64 (apF as bs n xs ys m k) (ahS as bs n xs ys m (k + 1)) then ahS as bs n xs ys m (k + 1) else apF as bs n xs ys m k
def apS (as bs : Nat → Nat) (n : Nat) (xs ys : Nat → Nat) (m : Nat) : Nat → Nat
  | 0 => 0
  | k + 1 => if ltK .f64 (apF as bs n xs ys m k) (ahS as bs n xs ys m (k + 1)) then k + 1 else apS as bs n xs ys m k
/-- with a place beside it -/
def withE (xs ys : Nat → Nat) (n p q : Nat) : Int := if chkE xs ys n = 0 then (if withinK .f64 p 4787326403894837248 && withinK .f64 q 4787326403894837248 then 0 else 5) else chkE xs ys n
def hasB (xs ys : Nat → Nat) (n p q : Nat) : Bool := allB n fun i => !ltK .f64 (lnS xs ys n i p q) 0
end Go.Proofs.Ytoofbfjlgablkaa
