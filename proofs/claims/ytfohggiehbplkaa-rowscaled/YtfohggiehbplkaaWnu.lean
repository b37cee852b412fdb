/-
  Plain facts on floats, more: rounding to the nearest rung, sums and products of finite floats, signs turned. No program is named here.
-/
import Derived.Test.YtfohggiehbplkaaShp
import Derived.Test.YtfohggiehbplkaaWrow
namespace Go.Proofs.Ytfohggiehbplkaa
open Ieee Go.RowKit
def ThenR (x y u v r i : Nat) : Prop := ∃ p q c d, resK .mul .f64 x u p ∧ resK .mul .f64 y v q ∧ resK .mul .f64 x v c ∧ resK .mul .f64 y u d ∧ resK .sub .f64 p q r ∧ resK .add .f64 c d i
def chk (s : Nat) : Bool := leK .f64 lo40 s && leK .f64 s hi40
def errT (b : Bool) : Int := if b then 0 else 30
def ToR (X Y x y u v tx ty : Nat) : Prop := ∃ A B, ThenR x y u v A B ∧ resK .add .f64 X A tx ∧ resK .add .f64 Y B ty
def frErr (X Y s : Nat) : Int := if withinK .f64 X 4787326403894837248 && withinK .f64 Y 4787326403894837248 then errT (chk s) else 5
/-- where a place lies by a frame -/
def toX (X x y u v : Nat) : Nat := Dv .add X (Dv .sub (Dv .mul x u) (Dv .mul y v))
def toY (Y x y u v : Nat) : Nat := Dv .add Y (Dv .add (Dv .mul x v) (Dv .mul y u))
theorem toR_d {n X Y x y u v tx ty : Nat} (h1 : Bd n X) (h2 : Bd n Y) (h3 : Bd n x) (h4 : Bd n y) (h5 : Bd n u) (h6 : Bd n v) (hn : n ≤ 200) (h : ToR X Y x y u v tx ty) : tx = toX X x y u v ∧ ty = toY Y x y u v := by
  obtain ⟨A, B, ⟨p, q, c, d, e1, e2, e3, e4, e5, e6⟩, e7, e8⟩ := h
  have b1 := bd_mul h3 h5 (by omega)
  have b2 := bd_mul h4 h6 (by omega)
  have b3 := bd_mul h3 h6 (by omega)
  have b4 := bd_mul h4 h5 (by omega)
  have s1 := bd_sub b1 b2 (by omega)
  have s2 := bd_add b3 b4 (by omega)
  rw [res_dv e1 (some_mul h3.2.1 h5.2.1), res_dv e2 (some_mul h4.2.1 h6.2.1)] at e5
  rw [res_dv e3 (some_mul h3.2.1 h6.2.1), res_dv e4 (some_mul h4.2.1 h5.2.1)] at e6
  rw [res_dv e5 (some_sub b1.2.1 b2.2.1 b2.1)] at e7
  rw [res_dv e6 (some_add b3.2.1 b4.2.1)] at e8
  exact ⟨res_dv e7 (some_add h1.2.1 s1.2.1), res_dv e8 (some_add h2.2.1 s2.2.1)⟩
theorem to_ok {n X Y x y u v : Nat} (h1 : Bd n X) (h2 : Bd n Y) (h3 : Bd n x) (h4 : Bd n y) (h5 : Bd n u) (h6 : Bd n v) (hn : n ≤ 200) : okK .f64 (toX X x y u v) ∧ okK .f64 (toY Y x y u v) := by
  have b1 := bd_mul h3 h5 (by omega)
  have b2 := bd_mul h4 h6 (by omega)
  have b3 := bd_mul h3 h6 (by omega)
  have b4 := bd_mul h4 h5 (by omega)
  have s1 := bd_sub b1 b2 (by omega)
  have s2 := bd_add b3 b4 (by omega)
  exact ⟨(dv_res (some_add h1.2.1 s1.2.1)).1, (dv_res (some_add h2.2.1 s2.2.1)).1⟩
end Go.Proofs.Ytfohggiehbplkaa
namespace Go.Proofs.Ytfohggiehbplkaa
open Ieee Go.RowKit
set_option linter.unusedSimpArgs false
set_option linter.unusedVariables false

/-! ### Go's order of finite floats is that of their numbers -/
theorem wo_sv (x y : Nat) : woK .f64 x ≤ woK .f64 y ↔ svK .f64 x ≤ svK .f64 y := by
  have hx := woK_eq .f64 x
  have hy := woK_eq .f64 y
  have vz : vl FloatKind.f64.format 0 = 0 := vl_zero _
  have le : ∀ {r s : Nat}, vl FloatKind.f64.format r ≤ vl FloatKind.f64.format s ↔ r ≤ s := fun {r s} => by
    rw [← Nat.not_lt, ← Nat.not_lt, vl_lt_iff]
  have pos : ∀ r, vl FloatKind.f64.format r = 0 ↔ r = 0 := fun r => ⟨fun h => vl_inj _ (h.trans vz.symm), fun h => by rw [h]; exact vz⟩
  rw [hx, hy]
  show (if ngK .f64 x then -(rgK .f64 x : Int) else (rgK .f64 x : Int)) ≤ (if ngK .f64 y then -(rgK .f64 y : Int) else (rgK .f64 y : Int)) ↔ (if ngK .f64 x then -(vl FloatKind.f64.format (rgK .f64 x) : Int) else (vl FloatKind.f64.format (rgK .f64 x) : Int)) ≤ (if ngK .f64 y then -(vl FloatKind.f64.format (rgK .f64 y) : Int) else (vl FloatKind.f64.format (rgK .f64 y) : Int))
  generalize rgK .f64 x = a
  generalize rgK .f64 y = b
  have l1 := @le a b
  have l2 := @le b a
  have p1 := pos a
  have p2 := pos b
  generalize vl FloatKind.f64.format a = u at *
  generalize vl FloatKind.f64.format b = v at *
  cases ngK .f64 x <;> cases ngK .f64 y <;> simp <;> omega
theorem rv_le (x y : Nat) : rv x ≤ rv y ↔ svK .f64 x ≤ svK .f64 y := by
  rw [rv_sv, rv_sv]
  constructor
  · intro h
    have := Rat.mul_le_mul_of_nonneg_right h (Rat.le_of_lt W_pos)
    rw [Rat.div_mul_cancel (Rat.ne_of_gt W_pos), Rat.div_mul_cancel (Rat.ne_of_gt W_pos)] at this
    exact Rat.intCast_le_intCast.1 this
  · intro h
    rw [Rat.div_def, Rat.div_def]
    exact Rat.mul_le_mul_of_nonneg_right (Rat.intCast_le_intCast.2 h) (Rat.le_of_lt (Rat.inv_pos.2 W_pos))
theorem le_rv {x y : Nat} (hx : nanK .f64 x = false) (hy : nanK .f64 y = false) : leK .f64 x y = true ↔ rv x ≤ rv y := by
  unfold leK
  rw [hx, hy, rv_le, ← wo_sv]
  simp
theorem lt_rv {x y : Nat} (hx : nanK .f64 x = false) (hy : nanK .f64 y = false) : ltK .f64 x y = true ↔ rv x < rv y := by
  have h := rv_le y x
  have g := wo_sv y x
  unfold ltK
  rw [hx, hy]
  simp
  rw [← Rat.not_le, h, ← g]
  omega
end Go.Proofs.Ytfohggiehbplkaa
namespace Go.Proofs.Ytfohggiehbplkaa
open Ieee Go.RowKit
set_option linter.unusedVariables false
theorem res_sub_add {x y r : Nat} (oy : okK .f64 y) (h : resK .sub .f64 x y r) : resK .add .f64 x (Op.negFloat .f64 y) r := by
  unfold resK at *; rwa [← sub_is_add _ _ _ oy]
theorem sv_word (s : Bool) {r : Nat} (h : r < infK .f64) : finK .f64 (FloatKind.f64.format.word s r) = true ∧ svK .f64 (FloatKind.f64.format.word s r) = if s then -(vl FloatKind.f64.format r : Int) else (vl FloatKind.f64.format r : Int) := by
  have h' := Nat.le_of_lt h
  refine ⟨by unfold finK; rw [rgK_word _ _ _ h']; exact decide_eq_true h, by unfold svK; rw [ngK_word _ _ _ h', rgK_word _ _ _ h']⟩
theorem mul_unit {a u p : Nat} (fa : finK .f64 a = true) (fu : finK .f64 u = true) (hu : vl FloatKind.f64.format (rgK .f64 u) = 2 ^ 1074) (h : resK .mul .f64 a u p) : finK .f64 p = true ∧ svK .f64 p = if ngK .f64 u then -svK .f64 a else svK .f64 a := by
  have e := mul_spec a u fa fu
  rw [hu] at e
  obtain ⟨t, ht⟩ : ∃ t : Nat, t = 1074 := ⟨_, rfl⟩
  rw [← ht, rr_exact _ fb1] at e
  have ha : rgK .f64 a < infK .f64 := of_decide_eq_true fa
  rw [Nat.min_eq_left (Nat.le_of_lt ha)] at e
  have e2 := res_is h e
  obtain ⟨k1, k2⟩ := sv_word (ngK .f64 a ^^ ngK .f64 u) ha
  rw [← e2] at k1 k2
  refine ⟨k1, ?_⟩
  rw [k2]; unfold svK
  cases ngK .f64 a <;> cases ngK .f64 u <;> simp
theorem vl_nought : vl FloatKind.f64.format 0 = 0 := by decide +kernel
theorem mul_nought {a u p : Nat} (fa : finK .f64 a = true) (hu : rgK .f64 u = 0) (h : resK .mul .f64 a u p) : finK .f64 p = true ∧ svK .f64 p = 0 := by
  have fu : finK .f64 u = true := by unfold finK; rw [hu, inf64]; rfl
  have e := mul_spec a u fa fu
  rw [hu, vl_nought, Nat.mul_zero, rr_zero, Nat.zero_min] at e
  have e2 := res_is h e
  obtain ⟨k1, k2⟩ := sv_word (ngK .f64 a ^^ ngK .f64 u) (show 0 < infK .f64 by rw [inf64]; decide)
  rw [← e2] at k1 k2
  refine ⟨k1, ?_⟩
  rw [k2, vl_nought]; simp
theorem sv_abs (c : Nat) : (svK .f64 c).natAbs = vl FloatKind.f64.format (rgK .f64 c) := by unfold svK; split <;> simp
theorem add_exact {p q r c : Nat} (fp : finK .f64 p = true) (fq : finK .f64 q = true) (fc : finK .f64 c = true) (h : resK .add .f64 p q r) (e : svK .f64 p + svK .f64 q = svK .f64 c) : finK .f64 r = true ∧ svK .f64 r = svK .f64 c := by
  have k := add_spec .f64 p q fp fq
  rw [e, sv_abs] at k
  have re := rr_exact FloatKind.f64.format fb1 (rgK .f64 c) 0
  rw [Nat.pow_zero, Nat.mul_one] at re
  have hc : rgK .f64 c < infK .f64 := of_decide_eq_true fc
  rw [re, Nat.min_eq_left (Nat.le_of_lt hc)] at k
  have e2 := res_is h k
  obtain ⟨k1, k2⟩ := sv_word (if svK .f64 c = 0 then ngK .f64 p && ngK .f64 q else decide (svK .f64 c < 0)) hc
  rw [← e2] at k1 k2
  refine ⟨k1, ?_⟩
  rw [k2, ← sv_abs]
  by_cases z : svK .f64 c = 0
  · rw [z]; simp
  · rw [if_neg z]
    by_cases l : svK .f64 c < 0
    · rw [if_pos (decide_eq_true l)]; omega
    · rw [if_neg (by simpa using l)]; omega
theorem sub_exact {p q r c : Nat} (oq : okK .f64 q) (fp : finK .f64 p = true) (fq : finK .f64 q = true) (fc : finK .f64 c = true) (h : resK .sub .f64 p q r) (e : svK .f64 p - svK .f64 q = svK .f64 c) : finK .f64 r = true ∧ svK .f64 r = svK .f64 c :=
  add_exact fp (by rw [fin_neg _ oq]; exact fq) fc (res_sub_add oq h) (by rw [sv_neg _ oq]; omega)
theorem sv_eq {a b : Nat} (fa : finK .f64 a = true) (fb : finK .f64 b = true) (h : svK .f64 a = svK .f64 b) : eqK .f64 a b = true := by
  have m : rgK .f64 a = rgK .f64 b := by
    have e : (svK .f64 a).natAbs = (svK .f64 b).natAbs := by rw [h]
    have m1 := (mg_rg (a := a) (b := b)).1 (by unfold mg; rw [sv_abs, sv_abs] at e; omega)
    have m2 := (mg_rg (a := b) (b := a)).1 (by unfold mg; rw [sv_abs, sv_abs] at e; omega)
    omega
  unfold eqK
  rw [fin_num fa, fin_num fb, woK_eq, woK_eq, m]
  unfold svK at h
  rw [m] at h
  by_cases z : rgK .f64 b = 0
  · rw [z]; simp
  · have v0 : vl FloatKind.f64.format (rgK .f64 b) ≠ 0 := fun g => z (mg_zero.1 g)
    generalize vl FloatKind.f64.format (rgK .f64 b) = V at *
    cases h1 : ngK .f64 a <;> cases h2 : ngK .f64 b <;> simp [h1, h2] at h ⊢ <;> omega
def isU (u : Nat) (U : Int) : Prop := (rgK .f64 u = 0 ∧ U = 0) ∨ (finK .f64 u = true ∧ vl FloatKind.f64.format (rgK .f64 u) = 2 ^ 1074 ∧ U = if ngK .f64 u then -1 else 1)
theorem mulU {a u p : Nat} {U : Int} (fa : finK .f64 a = true) (hu : isU u U) (h : resK .mul .f64 a u p) : finK .f64 p = true ∧ svK .f64 p = svK .f64 a * U := by
  rcases hu with ⟨z, rfl⟩ | ⟨fu, e, rfl⟩
  · have := mul_nought fa z h
    rwa [Int.mul_zero]
  · have := mul_unit fa fu e h
    refine ⟨this.1, ?_⟩
    rw [this.2]
    cases ngK .f64 u <;> simp
theorem u_nought : isU 0 0 := .inl ⟨nought_rg _, rfl⟩
theorem u_one : isU 4607182418800017408 1 := .inr ⟨by decide +kernel, by decide +kernel, by decide +kernel⟩
theorem u_minus : isU 13830554455654793216 (-1) := .inr ⟨by decide +kernel, by decide +kernel, by decide +kernel⟩
theorem add_sv {p q r p' q' r' : Nat} (fp : finK .f64 p = true) (fq : finK .f64 q = true) (fp' : finK .f64 p' = true) (fq' : finK .f64 q' = true) (h : resK .add .f64 p q r) (h' : resK .add .f64 p' q' r') (fr : finK .f64 r = true) (e : svK .f64 p + svK .f64 q = svK .f64 p' + svK .f64 q') : finK .f64 r' = true ∧ svK .f64 r' = svK .f64 r := by
  have k := add_spec .f64 p q fp fq
  have k' := add_spec .f64 p' q' fp' fq'
  rw [← e] at k'
  have e1 := res_is h k
  have e2 := res_is h' k'
  generalize svK .f64 p + svK .f64 q = S at *
  have hlt : rr FloatKind.f64.format S.natAbs 0 < infK .f64 := by
    rcases Nat.lt_or_ge (rr FloatKind.f64.format S.natAbs 0) (infK .f64) with g | g
    · exact g
    · exfalso
      rw [Nat.min_eq_right g] at e1
      rw [e1] at fr
      unfold finK at fr
      rw [rgK_word _ _ _ (Nat.le_refl _)] at fr
      simp at fr
  rw [Nat.min_eq_left (Nat.le_of_lt hlt)] at e1 e2
  obtain ⟨a1, a2⟩ := sv_word (if S = 0 then ngK .f64 p && ngK .f64 q else decide (S < 0)) hlt
  obtain ⟨b1, b2⟩ := sv_word (if S = 0 then ngK .f64 p' && ngK .f64 q' else decide (S < 0)) hlt
  rw [← e1] at a2
  rw [← e2] at b1 b2
  refine ⟨b1, ?_⟩
  rw [a2, b2]
  by_cases z : S = 0
  · subst z
    rw [show (0 : Int).natAbs = 0 from rfl, rr_zero, vl_nought]
    simp
  · rw [if_neg z, if_neg z]
theorem sv_wo {a b : Nat} : woK .f64 a = woK .f64 b ↔ svK .f64 a = svK .f64 b := by
  have h1 := wo_sv a b
  have h2 := wo_sv b a
  omega
theorem lt_sv {a b : Nat} (fa : finK .f64 a = true) (fb : finK .f64 b = true) : ltK .f64 a b = decide (svK .f64 a < svK .f64 b) := by
  have h2 := wo_sv b a
  unfold ltK
  rw [fin_num fa, fin_num fb]
  simp only [Bool.not_false, Bool.true_and]
  rw [decide_eq_decide]
  omega
theorem mul_d {n m x u : Nat} {U : Int} (hx : Bd n x) (hu : isU u U) (fu : finK .f64 u = true) : finK .f64 (Dv .mul x u) = true ∧ svK .f64 (Dv .mul x u) = svK .f64 x * U := mulU hx.2.1 hu (dv_res (some_mul hx.2.1 fu))
/-- a point's product with a way along an axis is a part of it -/
theorem dtU {x y u v c : Nat} {U V : Int} (hx : Bd 40 x) (hy : Bd 40 y) (hu : isU u U) (hv : isU v V) (fu : finK .f64 u = true) (fv : finK .f64 v = true) (fc : finK .f64 c = true) (e : svK .f64 x * U + svK .f64 y * V = svK .f64 c) : finK .f64 (dtK x y u v) = true ∧ svK .f64 (dtK x y u v) = svK .f64 c := by
  obtain ⟨a1, a2⟩ := mul_d (n := 40) (m := 0) hx hu fu
  obtain ⟨b1, b2⟩ := mul_d (n := 40) (m := 0) hy hv fv
  exact add_exact a1 b1 fc (dv_res (some_add a1 b1)) (by rw [a2, b2, e])
theorem most_sv {a b : Nat} (fa : finK .f64 a = true) (fb : finK .f64 b = true) : svK .f64 (mostK .f64 a b) = max (svK .f64 a) (svK .f64 b) := by
  unfold mostK
  rw [fin_num fa, Bool.false_or]
  cases h : ltK .f64 a b
  · rw [lt_sv fa fb, decide_eq_false_iff_not] at h
    cases g : (mzK .f64 a && decide (rgK .f64 b = 0))
    · simp; omega
    · rw [Bool.and_eq_true] at g
      have gb := of_decide_eq_true g.2
      have sb : svK .f64 b = 0 := by unfold svK; rw [gb, vl_nought]; split <;> rfl
      have ga : rgK .f64 a = 0 := by have g1 := g.1; unfold mzK at g1; rw [Bool.and_eq_true] at g1; exact of_decide_eq_true g1.1
      have sa : svK .f64 a = 0 := by unfold svK; rw [ga, vl_nought]; split <;> rfl
      simp; omega
  · rw [lt_sv fa fb, decide_eq_true_iff] at h
    simp; omega
theorem least_sv {a b : Nat} (fa : finK .f64 a = true) (fb : finK .f64 b = true) : svK .f64 (leastK .f64 a b) = min (svK .f64 a) (svK .f64 b) := by
  unfold leastK
  rw [fin_num fa, Bool.false_or]
  cases h : ltK .f64 b a
  · rw [lt_sv fb fa, decide_eq_false_iff_not] at h
    cases g : (mzK .f64 b && decide (rgK .f64 a = 0))
    · simp; omega
    · rw [Bool.and_eq_true] at g
      have ga := of_decide_eq_true g.2
      have sa : svK .f64 a = 0 := by unfold svK; rw [ga, vl_nought]; split <;> rfl
      have gb : rgK .f64 b = 0 := by have g1 := g.1; unfold mzK at g1; rw [Bool.and_eq_true] at g1; exact of_decide_eq_true g1.1
      have sb : svK .f64 b = 0 := by unfold svK; rw [gb, vl_nought]; split <;> rfl
      simp; omega
  · rw [lt_sv fb fa, decide_eq_true_iff] at h
    simp; omega
theorem high_sv {f : Nat → Nat} {m : Nat} : ∀ k, (∀ i, i ≤ k → Bd m (f i)) → ∃ j, j ≤ k ∧ svK .f64 (highK f k) = svK .f64 (f j) ∧ ∀ i, i ≤ k → svK .f64 (f i) ≤ svK .f64 (f j)
  | 0, h => ⟨0, Nat.le_refl _, rfl, fun i hi => by rw [Nat.le_zero.1 hi]; exact Int.le_refl _⟩
  | k + 1, h => by
    obtain ⟨j, hj, e, g⟩ := high_sv k (fun i hi => h i (by omega))
    have b1 := (low_bd k (fun i hi => h i (by omega))).2
    have b2 := h (k + 1) (Nat.le_refl _)
    have em : svK .f64 (highK f (k + 1)) = max (svK .f64 (highK f k)) (svK .f64 (f (k + 1))) := most_sv b1.2.1 b2.2.1
    by_cases hl : svK .f64 (f j) ≤ svK .f64 (f (k + 1))
    · refine ⟨k + 1, Nat.le_refl _, by rw [em, e]; omega, fun i hi => ?_⟩
      by_cases hk : i ≤ k
      · have := g i hk; omega
      · rw [show i = k + 1 by omega]; exact Int.le_refl _
    · refine ⟨j, by omega, by rw [em, e]; omega, fun i hi => ?_⟩
      by_cases hk : i ≤ k
      · exact g i hk
      · rw [show i = k + 1 by omega]; omega
theorem low_sv {f : Nat → Nat} {m : Nat} : ∀ k, (∀ i, i ≤ k → Bd m (f i)) → ∃ j, j ≤ k ∧ svK .f64 (lowK f k) = svK .f64 (f j) ∧ ∀ i, i ≤ k → svK .f64 (f j) ≤ svK .f64 (f i)
  | 0, h => ⟨0, Nat.le_refl _, rfl, fun i hi => by rw [Nat.le_zero.1 hi]; exact Int.le_refl _⟩
  | k + 1, h => by
    obtain ⟨j, hj, e, g⟩ := low_sv k (fun i hi => h i (by omega))
    have b1 := (low_bd k (fun i hi => h i (by omega))).1
    have b2 := h (k + 1) (Nat.le_refl _)
    have em : svK .f64 (lowK f (k + 1)) = min (svK .f64 (lowK f k)) (svK .f64 (f (k + 1))) := least_sv b1.2.1 b2.2.1
    by_cases hl : svK .f64 (f (k + 1)) ≤ svK .f64 (f j)
    · refine ⟨k + 1, Nat.le_refl _, by rw [em, e]; omega, fun i hi => ?_⟩
      by_cases hk : i ≤ k
      · have := g i hk; omega
      · rw [show i = k + 1 by omega]; exact Int.le_refl _
    · refine ⟨j, by omega, by rw [em, e]; omega, fun i hi => ?_⟩
      by_cases hk : i ≤ k
      · exact g i hk
      · rw [show i = k + 1 by omega]; omega
/-- of products with a way the farthest point has the most -/
theorem farK_max {xs ys : Nat → Nat} {n p q : Nat} (hf : ∀ i, i < n → finK .f64 (dtK (xs i) (ys i) p q) = true) : ∀ k, k < n → ∀ i, i ≤ k → svK .f64 (dtK (xs i) (ys i) p q) ≤ svK .f64 (dtK (xs (farK xs ys p q k)) (ys (farK xs ys p q k)) p q)
  | 0, h, i, hi => by rw [Nat.le_zero.1 hi]; exact Int.le_refl _
  | k + 1, h, i, hi => by
    have g := farK_max hf k (by omega)
    have fl := far_le xs ys p q k
    have f1 := hf _ (show farK xs ys p q k < n by omega)
    have f2 := hf (k + 1) h
    unfold farK
    cases hl : ltK .f64 (dtK (xs (farK xs ys p q k)) (ys (farK xs ys p q k)) p q) (dtK (xs (k + 1)) (ys (k + 1)) p q)
    · rw [lt_sv f1 f2, decide_eq_false_iff_not] at hl
      simp only [Bool.false_eq_true, if_false]
      by_cases hk : i ≤ k
      · exact g i hk
      · rw [show i = k + 1 by omega]; omega
    · rw [lt_sv f1 f2, decide_eq_true_iff] at hl
      simp only [if_true]
      by_cases hk : i ≤ k
      · have := g i hk; omega
      · rw [show i = k + 1 by omega]; exact Int.le_refl _
end Go.Proofs.Ytfohggiehbplkaa
namespace Go.Proofs.Ytfohggiehbplkaa
open Ieee Go.RowKit
set_option linter.unusedSimpArgs false

/-! ### places that may be: what the operations give is finite -/
theorem bd_wG {x c k : Nat} (o : okK .f64 x) (oc : okK .f64 c) (nc : ngK .f64 c = false) (fc : finK .f64 c = true) (ac : av c = 2 ^ k) (h : withinK .f64 x c = true) : Bd k x := by
  rw [← abs_within _ _ oc] at h
  have h1 : rgK .f64 (rgK .f64 x) = rgK .f64 x := by rw [rg64, rg64]; omega
  have h2 : ngK .f64 (rgK .f64 x) = false := by rw [ng64, rg64, beq_eq_false_iff_ne]; omega
  obtain ⟨f, g⟩ := fin_of_le (a := rgK .f64 x) (b := c) fc h2 nc h
  have e : av (rgK .f64 x) = av x := by unfold av mg; rw [h1]
  have e2 : finK .f64 (rgK .f64 x) = finK .f64 x := by unfold finK; rw [h1]
  rw [e, ac] at g
  rw [e2] at f
  exact ⟨o, f, g⟩
theorem bd_wT {x : Nat} (o : okK .f64 x) (h : withinK .f64 x 4611686018427387904 = true) : Bd 1 x := bd_wG o (by rw [okK64]; decide) (by decide +kernel) (by decide +kernel) (by decide +kernel) h
theorem fin_nan {x : Nat} (h : finK .f64 x = true) : nanK .f64 x = false := by
  have h1 := h
  unfold finK at h1
  rw [nanK_eq]
  simp only [decide_eq_true_eq] at h1
  simp only [decide_eq_false_iff_not]
  exact Nat.not_lt.2 (Nat.le_of_lt h1)
theorem oF_dv {op : BinOp} {n x y : Nat} (s : (floatBits op .f64 x y).isSome = true) (h : Bd n (Dv op x y)) : oF op x y = Dv op x y := by
  have e := res_dv (res_o op x y) s
  unfold oF
  rw [e, bits_num (fin_nan h.2.1)]
def BdP (n : Nat) (p : Vp) : Prop := Bd n p.1 ∧ Bd n p.2
theorem BdP.mono {m n : Nat} {p : Vp} (h : BdP m p) (hn : m ≤ n) : BdP n p := ⟨bd_mono h.1 hn, bd_mono h.2 hn⟩
theorem su_bd {n : Nat} {a b : Vp} (ha : BdP n a) (hb : BdP n b) (hn : n ≤ 900) : BdP (n + 2) (suF a b) := by
  unfold suF BdP
  have h1 := bd_sub ha.1 hb.1 hn
  have h2 := bd_sub ha.2 hb.2 hn
  simp only
  rw [oF_dv (some_sub ha.1.2.1 hb.1.2.1 hb.1.1) h1, oF_dv (some_sub ha.2.2.1 hb.2.2.1 hb.2.1) h2]
  exact ⟨h1, h2⟩
theorem oFm_bd {m n x y : Nat} (hx : Bd m x) (hy : Bd n y) (hn : m + n ≤ 900) : Bd (m + n + 1) (oF .mul x y) := by
  have h := bd_mul hx hy hn
  rw [oF_dv (some_mul hx.2.1 hy.2.1) h]
  exact h
theorem oFa_bd {n x y : Nat} (hx : Bd n x) (hy : Bd n y) (hn : n ≤ 900) : Bd (n + 2) (oF .add x y) := by
  have h := bd_add hx hy hn
  rw [oF_dv (some_add hx.2.1 hy.2.1) h]
  exact h
theorem dtF_eq {m n : Nat} {a b : Vp} (ha : BdP m a) (hb : BdP n b) (hn : m + n ≤ 800) : dtF a b = dtK a.1 a.2 b.1 b.2 := by
  have h1 := bd_mul ha.1 hb.1 (show m + n ≤ 900 by omega)
  have h2 := bd_mul ha.2 hb.2 (show m + n ≤ 900 by omega)
  unfold dtF dtK
  rw [oF_dv (some_mul ha.1.2.1 hb.1.2.1) h1, oF_dv (some_mul ha.2.2.1 hb.2.2.1) h2, oF_dv (some_add h1.2.1 h2.2.1) (bd_add h1 h2 (by omega))]
theorem dtF_bd {m n : Nat} {a b : Vp} (ha : BdP m a) (hb : BdP n b) (hn : m + n ≤ 800) : Bd (m + n + 3) (dtF a b) := by
  unfold dtF
  exact oFa_bd (oFm_bd ha.1 hb.1 (by omega)) (oFm_bd ha.2 hb.2 (by omega)) (by omega)
theorem mo_bd {n m : Nat} {a b : Vp} {s : Nat} (ha : BdP n a) (hs : Bd m s) (hb : BdP n b) (hn : m + n ≤ 800) : BdP (m + n + 3) (moF a s b) := by
  unfold moF BdP
  exact ⟨oFa_bd (bd_mono ha.1 (by omega)) (oFm_bd hs hb.1 (by omega)) (by omega), oFa_bd (bd_mono ha.2 (by omega)) (oFm_bd hs hb.2 (by omega)) (by omega)⟩
theorem cl_bd {q : Nat} (o : okK .f64 q) : Bd 1 (clK .f64 q 0 4607182418800017408) := by
  unfold clK
  split
  · exact bd_wT (by rw [okK64]; decide) (by decide +kernel)
  · rename_i h
    split
    · exact bd_wT (by rw [okK64]; decide) (by decide +kernel)
    · rename_i g
      refine bd_wT o ?_
      replace h : ltK .f64 0 q = true := by cases hh : ltK .f64 0 q <;> simp_all
      replace g : ltK .f64 4607182418800017408 q = false := by cases hh : ltK .f64 4607182418800017408 q <;> simp_all
      unfold ltK at h g
      unfold withinK leK
      simp only [Bool.not_eq_false, Bool.and_eq_true, Bool.not_eq_true', decide_eq_true_eq, Bool.and_eq_false_iff, Bool.not_eq_true, Bool.not_eq_false', decide_eq_false_iff_not] at h g ⊢
      obtain ⟨⟨h1, h2⟩, h3⟩ := h
      have w0 : woK .f64 0 = 0 := by decide +kernel
      have w1 : woK .f64 4607182418800017408 ≤ woK .f64 4611686018427387904 := by decide +kernel
      have w2 : woK .f64 (Op.negFloat .f64 4611686018427387904) ≤ 0 := by decide +kernel
      have n1 : nanK .f64 4607182418800017408 = false := by decide +kernel
      have n2 : nanK .f64 4611686018427387904 = false := by decide +kernel
      have n3 : nanK .f64 (Op.negFloat .f64 4611686018427387904) = false := by decide +kernel
      rw [w0] at h3
      rw [n1, h2] at g
      simp at g
      exact ⟨⟨⟨n3, h2⟩, by omega⟩, ⟨h2, n2⟩, by omega⟩
theorem ln_finG {n ax ay : Nat} (h1 : Bd n ax) (h2 : Bd n ay) (hn : n ≤ 400) : Bd 1024 (lnK ax ay) := by
  obtain ⟨f, g⟩ := sq_ng h1 h2 hn
  have q := sq_res (sqr_some f g)
  by_cases hz : mg (dtK ax ay ax ay) = 0
  · have e := sqr_zero f g hz q
    unfold lnK
    rw [e]
    exact ⟨by rw [okK64]; decide, by decide +kernel, av_le (by decide +kernel)⟩
  · obtain ⟨f1, f2, f3, _⟩ := root_fin f g hz q
    exact ⟨q.1, f1, av_le f1⟩
theorem lnF_eq {n : Nat} {a : Vp} (ha : BdP n a) (hn : n ≤ 400) : lnF a = lnK a.1 a.2 := by
  have b := ln_finG ha.1 ha.2 hn
  unfold lnF qF
  rw [dtF_eq ha ha (by omega)]
  obtain ⟨f, g⟩ := sq_ng ha.1 ha.2 hn
  obtain ⟨v, hv⟩ := Option.isSome_iff_exists.1 (sqr_some f g)
  have e2 : lnK a.1 a.2 = v := by unfold lnK Sq; rw [hv]; rfl
  rw [hv]
  show bitsK v = _
  rw [e2] at b ⊢
  exact bits_num (fin_nan b.2.1)
theorem lnn_fin {n : Nat} {a : Vp} (ha : BdP n a) (hn : n ≤ 400) : finK .f64 (lnF a) = true := by
  rw [lnF_eq ha hn]
  exact (ln_finG ha.1 ha.2 hn).2.1
theorem oF_ok (op : BinOp) (x y : Nat) : okK .f64 (oF op x y) := by
  unfold oF bitsK
  split
  · exact none_ok
  · exact (res_o op x y).1
theorem pt_bd {a b p : Vp} (ha : BdP 40 a) (hb : BdP 40 b) : BdP 46 (ptF a b p).1 := by
  unfold ptF
  split
  · exact mo_bd (n := 42) (ha.mono (by decide)) (cl_bd (oF_ok _ _ _)) (su_bd hb ha (by decide)) (by decide)
  · exact ha.mono (by decide)
theorem lt_inf {x : Nat} (h : finK .f64 x = true) : ltK .f64 x 9218868437227405312 = true := by
  have h1 := h
  unfold finK at h1
  simp only [decide_eq_true_eq] at h1
  rw [inf64] at h1
  have n2 : nanK .f64 9218868437227405312 = false := by decide +kernel
  have w2 : woK .f64 9218868437227405312 = 9218868437227405312 := by decide +kernel
  unfold ltK
  rw [fin_nan h, n2, w2]
  simp only [Bool.not_false, Bool.true_and, decide_eq_true_eq]
  rw [woK_eq]
  split <;> omega
theorem side_lt {a b p : Vp} (ha : BdP 40 a) (hb : BdP 40 b) (hp : BdP 40 p) : ltK .f64 (apN (ptF a b p).1 p).1 9218868437227405312 = true :=
  lt_inf (lnn_fin (n := 48) (su_bd (hp.mono (by decide)) (pt_bd ha hb) (by decide)) (by decide))
theorem is_bd {n x y : Nat} {p : Vp} (h : isP x y p) (h1 : Bd n x) (h2 : Bd n y) : BdP n p := by
  rw [← h.2.2]
  unfold nP BdP
  simp only
  rw [bits_num (fin_nan h1.2.1), bits_num (fin_nan h2.2.1)]
  exact ⟨h1, h2⟩
end Go.Proofs.Ytfohggiehbplkaa
namespace Go.Proofs.Ytfohggiehbplkaa
open Ieee Go.RowKit
set_option linter.unusedSimpArgs false
set_option linter.unusedVariables false

/-! ### Rows whose floats are nought or from 2^-40 to 2^40: there and back -/
def usB (x : Nat) : Bool := eqK .f64 x 0 || (leK .f64 4427038433705197568 (rgK .f64 x) && leK .f64 (rgK .f64 x) 4787326403894837248)
/-- a float of a usual size -/
structure Us (x : Nat) : Prop where
  ok : okK .f64 x
  bd : Bd 40 x
  low : rv x = 0 ∨ 1 ≤ av x * 2 ^ 40
theorem rg_av (x : Nat) : rv (rgK .f64 x) = av x := by
  have r1 : rgK .f64 (rgK .f64 x) = rgK .f64 x := by rw [rg64, rg64]; omega
  have r2 : ngK .f64 (rgK .f64 x) = false := by rw [ng64, rg64, beq_eq_false_iff_ne]; omega
  rw [rv_pos r2]
  unfold av mg
  rw [r1]
theorem rg_fin {x : Nat} (h : finK .f64 x = true) : finK .f64 (rgK .f64 x) = true := by
  have r1 : rgK .f64 (rgK .f64 x) = rgK .f64 x := by rw [rg64, rg64]; omega
  unfold finK at h ⊢
  rw [r1]; exact h
theorem rg_ok (x : Nat) : okK .f64 (rgK .f64 x) := by rw [okK64, rg64]; omega
theorem z_rv0 {r : Nat} (h : eqK .f64 r 0 = true) : rv r = 0 ∧ finK .f64 r = true := by
  rw [eqK_nought] at h
  have h0 := of_decide_eq_true h
  constructor
  · have : av r = 0 := by unfold av mg; rw [h0]; decide +kernel
    have a := ab_rv r
    rw [this] at a
    have := ab_le (rv r)
    grind
  · unfold finK; rw [h0]; decide +kernel
theorem us_num {x : Nat} (o : okK .f64 x) (h : usB x = true) : Us x := by
  unfold usB at h
  rw [Bool.or_eq_true, Bool.and_eq_true] at h
  rcases h with h | ⟨h1, h2⟩
  · exact ⟨o, eq_zero_bd o h 40, .inl (z_rv0 h).1⟩
  · have n1 := (le_nums h1).2
    have a1 := (le_rv (by decide +kernel) n1).1 h1
    have a2 := (le_rv n1 (by decide +kernel)).1 h2
    rw [rg_av] at a1 a2
    have c1 : rv 4427038433705197568 * 2 ^ 40 = 1 := by decide +kernel
    have c2 : rv 4787326403894837248 = 2 ^ 40 := by decide +kernel
    have hf : finK .f64 x = true := by
      cases hf : finK .f64 x
      · exfalso
        have e : rgK .f64 x = infK .f64 := fin_inf hf (by
          have r1 : rgK .f64 (rgK .f64 x) = rgK .f64 x := by rw [rg64, rg64]; omega
          rw [nanK_eq] at n1 ⊢
          rw [r1] at n1; exact n1)
        rw [e] at h2
        exact absurd h2 (by decide +kernel)
      · rfl
    refine ⟨o, ⟨o, hf, by rw [← c2]; exact a2⟩, .inr ?_⟩
    have := rmul a1 (c := 2 ^ 40) (by decide +kernel)
    grind
theorem mul_o {m n x y : Nat} (hx : Bd m x) (hy : Bd n y) (hn : m + n ≤ 900) : Bd (m + n + 1) (oF .mul x y) ∧ nrS (rv x * rv y) (rv (oF .mul x y)) := by
  have r := bd_mul hx hy hn
  rw [oF_dv (some_mul hx.2.1 hy.2.1) r]
  exact ⟨r, mul_rv hx.2.1 hy.2.1 r.2.1 (dv_res (some_mul hx.2.1 hy.2.1))⟩
theorem sub_oB {n x y : Nat} (hx : Bd n x) (hy : Bd n y) (hn : n ≤ 900) : Bd (n + 2) (oF .sub x y) ∧ nrS (rv x - rv y) (rv (oF .sub x y)) := by
  have r := bd_sub hx hy hn
  rw [oF_dv (some_sub hx.2.1 hy.2.1 hy.1) r]
  exact ⟨r, sub_rv hy.1 hx.2.1 hy.2.1 r.2.1 (dv_res (some_sub hx.2.1 hy.2.1 hy.1))⟩
theorem add_oB {n x y : Nat} (hx : Bd n x) (hy : Bd n y) (hn : n ≤ 900) : Bd (n + 2) (oF .add x y) ∧ nrS (rv x + rv y) (rv (oF .add x y)) := by
  have r := bd_add hx hy hn
  rw [oF_dv (some_add hx.2.1 hy.2.1) r]
  exact ⟨r, add_rv hx.2.1 hy.2.1 r.2.1 (dv_res (some_add hx.2.1 hy.2.1))⟩
theorem rg_bd {n x : Nat} (h : Bd n x) : Bd n (rgK .f64 x) := ⟨rg_ok x, rg_fin h.2.1, by
  have e := rg_av x
  have g := ab_rv (rgK .f64 x)
  rw [e, ab_pos (av_nn x)] at g
  rw [← g]; exact h.2.2⟩
theorem neg_bd {n x : Nat} (h : Bd n x) : Bd n (Op.negFloat .f64 x) ∧ rv (Op.negFloat .f64 x) = -rv x := by
  have e := rv_turned h.1
  refine ⟨⟨neg_ok h.1, by unfold finK; rw [(neg_facts .f64 x h.1).1]; exact h.2.1, ?_⟩, e⟩
  rw [← ab_rv, e, ab_neg, ab_rv]; exact h.2.2

/-! #### over rational numbers: e the part by which a rounding may err, h half a least place -/
theorem ns_q {e h q A : Rat} (he : 0 ≤ e) (he1 : e * 4 ≤ 1) (h0 : 0 ≤ h) (n : ns e h q A) : ab (q - A) ≤ 2 * (e * ab q) + 2 * h := by
  unfold ns at n
  have t : ab A ≤ ab q + ab (q - A) := by
    have := ab_add q (-(q - A))
    rw [ab_neg, show q + -(q - A) = A by grind] at this
    exact this
  have d0 := ab_nn (q - A)
  have m1 := rmul he1 d0
  have m2 := rmul t he
  have m3 := Rat.mul_nonneg he (ab_nn q)
  grind
/-- three factors, rounded twice -/
theorem prod3 {e h m p g f k M D : Rat} (he : 0 ≤ e) (he1 : e * 4096 ≤ 1) (h0 : 0 ≤ h) (hg : ab g ≤ D) (hD : 1 ≤ D) (hh : 8 * (D * h) ≤ e * M) (hM : ab (m * p * g) ≤ M) (n1 : ns e h (m * p) f) (n2 : ns e h (f * g) k) : ab (k - m * p * g) ≤ 8 * (e * M) := by
  have a1 := ns_q he (by grind) h0 n1
  have a2 := ns_q he (by grind) h0 n2
  have M0 : 0 ≤ M := Rat.le_trans (ab_nn _) hM
  have eM := Rat.mul_nonneg he M0
  have eMM := rmul he1 (Rat.mul_nonneg he M0)
  have g0 := ab_nn g
  -- f * g against m * p * g
  have b1 : ab (f * g - m * p * g) ≤ 2 * (e * M) + 2 * (D * h) := by
    rw [show f * g - m * p * g = (f - m * p) * g by grind, ab_mul]
    have c1 : ab (f - m * p) ≤ 2 * (e * ab (m * p)) + 2 * h := by
      rw [show f - m * p = -(m * p - f) by grind, ab_neg]; exact a1
    have c2 := Rat.mul_le_mul_of_nonneg_right c1 g0
    have c3 : ab (m * p) * ab g ≤ M := by rw [← ab_mul]; exact hM
    have c4 := rmul c3 he
    have c5 := rmul hg h0
    grind
  have b2 : ab (f * g) ≤ M + 2 * (e * M) + 2 * (D * h) := by
    have := ab_add (m * p * g) (f * g - m * p * g)
    rw [show m * p * g + (f * g - m * p * g) = f * g by grind] at this
    grind
  have b3 := rmul b2 he
  have b4 : h ≤ D * h := by have := Rat.mul_le_mul_of_nonneg_right hD h0; grind
  have Dh : 0 ≤ D * h := Rat.le_trans h0 b4
  have eDh := rmul he1 Dh
  have b5 : ab (f * g - k) ≤ 2 * (e * (M + 2 * (e * M) + 2 * (D * h))) + 2 * (D * h) := by grind
  have t1 := ab_two b1
  have t2 := ab_two b5
  refine ab_of ?_ ?_ <;> grind
/-- there and back: how far off -/
theorem back20 {e h x q k k2 c x2 M : Rat} (he : 0 ≤ e) (he1 : e * 4096 ≤ 1) (h0 : 0 ≤ h) (hh : h ≤ e * M) (hM : ab x + ab q ≤ M) (k1 : ab (k - q) ≤ 8 * (e * M)) (k3 : ab (k2 - -q) ≤ 8 * (e * M)) (n5 : ns e h (x + k) c) (n6 : ns e h (c + k2) x2) : ab (x2 - x) ≤ 64 * (e * M) := by
  have M0 : 0 ≤ M := by have := ab_nn x; have := ab_nn q; grind
  have eM := Rat.mul_nonneg he M0
  have e8 := Rat.mul_le_mul_of_nonneg_right he1 M0
  have tx := ab_le x
  have tq := ab_le q
  have t1 := ab_two k1
  have t2 := ab_two k3
  have b1 : ab (x + k) ≤ 3 * M := ab_of (by grind) (by grind)
  obtain ⟨c1, c2⟩ := ns_err (M := 3 * M) he (by grind) h0 b1 (by grind) n5
  have t3 := ab_two c1
  have t4 := ab_two c2
  have b2 : ab (c + k2) ≤ 8 * M := ab_of (by grind) (by grind)
  obtain ⟨c3, c4⟩ := ns_err (M := 8 * M) he (by grind) h0 b2 (by grind) n6
  have t5 := ab_two c3
  refine ab_of ?_ ?_ <;> grind
/-- what 'nearly' asks: the difference against 2^-40 of what goes in -/
theorem nearly20 {e h x q x2 d o1 o r M E : Rat} (he : 0 ≤ e) (he1 : e * 4096 ≤ 1) (h0 : 0 ≤ h) (hM : ab x + ab q = M) (hE : 0 ≤ E) (heE : e * 1024 ≤ E) (hE1 : E ≤ 1) (hh : h ≤ e * (e * M)) (b : ab (x2 - x) ≤ 64 * (e * M)) (n1 : ns e h (x2 - x) d) (k1 : ab (o1 - ab q) ≤ 8 * (e * M)) (n2 : ns e h (ab x + o1) o) (n3 : ns e h (E * ab o) r) (ho : 0 ≤ E) (hEh : h ≤ e * (E * M)) : ab d ≤ r := by
  have M0 : 0 ≤ M := by have := ab_nn x; have := ab_nn q; grind
  have eM := Rat.mul_nonneg he M0
  have e8 := Rat.mul_le_mul_of_nonneg_right he1 M0
  have eeM := Rat.mul_nonneg he eM
  have e9 := rmul e8 he
  have EM := Rat.mul_nonneg hE M0
  obtain ⟨c1, c2⟩ := ns_err (M := 64 * (e * M)) he (by grind) h0 b (by grind) n1
  have t1 := ab_two k1
  have p1 := ab_nn x
  have p2 := ab_nn q
  have hq1 : h ≤ e * (2 * M) := by grind
  have b2 : ab (ab x + o1) ≤ 2 * M := ab_of (by grind) (by grind)
  obtain ⟨c3, c4⟩ := ns_err (M := 2 * M) he (by grind) h0 b2 hq1 n2
  have t3 := ab_two c3
  have lo : M ≤ 2 * o := by grind
  have o0 : ab o = o := ab_pos (by grind)
  have hi : o ≤ 4 * M := by have := ab_le o; grind
  rw [o0] at n3
  have q1 := rmul hi hE
  have q2 := rmul lo hE
  have q3 : 0 ≤ E * o := Rat.mul_nonneg hE (by grind)
  have b3 : ab (E * o) ≤ 4 * (E * M) := by rw [ab_pos q3]; grind
  obtain ⟨c5, c6⟩ := ns_err (M := 4 * (E * M)) he (by grind) h0 b3 (by grind) n3
  have t5 := ab_two c5
  have q4 := Rat.mul_le_mul_of_nonneg_right he1 EM
  have q5 := Rat.mul_le_mul_of_nonneg_right heE M0
  grind
end Go.Proofs.Ytfohggiehbplkaa
namespace Go.Proofs.Ytfohggiehbplkaa
open Ieee Go.RowKit
set_option linter.unusedSimpArgs false
set_option linter.unusedVariables false

def c40 : Nat := 4427038433705197568
theorem c40_bd : Bd 40 c40 := ⟨by rw [okK64]; decide, by decide +kernel, by decide +kernel⟩
theorem c40_rv : rv c40 = 1 / 2 ^ 40 := by decide +kernel
theorem ep_pos : (0 : Rat) ≤ epR := by decide +kernel
theorem ep_4096 : epR * 4096 ≤ 1 := by decide +kernel
theorem et_pos : (0 : Rat) ≤ etR := by decide +kernel
theorem tiny_zero {r : Nat} (h : nrS 0 (rv r)) : rv r = 0 := by
  unfold nrS at h
  rw [show (0 : Rat) - rv r = -rv r by grind, ab_neg] at h
  rw [rv_sv] at h ⊢
  have e : ab ((svK .f64 r : Rat) / 2 ^ 1074) = (((svK .f64 r).natAbs : Nat) : Rat) / 2 ^ 1074 := by
    by_cases g : svK .f64 r < 0
    · rw [cast_neg g, show -((svK .f64 r).natAbs : Rat) / 2 ^ 1074 = -(((svK .f64 r).natAbs : Rat) / 2 ^ 1074) by grind, ab_neg, ab_pos]
      rw [Rat.div_def]; exact Rat.mul_nonneg (by exact_mod_cast Nat.zero_le _) (by decide +kernel)
    · rw [cast_pos g, ab_pos]
      rw [Rat.div_def]; exact Rat.mul_nonneg (by exact_mod_cast Nat.zero_le _) (by decide +kernel)
  rw [e] at h
  have hz : (svK .f64 r).natAbs = 0 := by
    rcases Nat.eq_zero_or_pos (svK .f64 r).natAbs with g | g
    · exact g
    · exfalso
      have g1 : (1 : Rat) ≤ ((svK .f64 r).natAbs : Rat) := by exact_mod_cast g
      have c : etR * 2 ^ 1074 = 1 / 2 := by decide +kernel
      have c2 : epR ≤ 1 / 4 := by decide +kernel
      have m := rmul h (c := 2 ^ 1074) (by decide +kernel)
      generalize ((svK .f64 r).natAbs : Rat) = z at *
      have d : (2 : Rat) ^ 1074 * (z / 2 ^ 1074) = z := by
        rw [Rat.div_def, ← Rat.mul_assoc, Rat.mul_comm (2 ^ 1074) z, Rat.mul_assoc, Rat.mul_inv_cancel _ (by decide +kernel), Rat.mul_one]
      generalize hT : (2 : Rat) ^ 1074 = T at *
      generalize z / T = y at *
      have m2 : T * (epR * y + etR) = epR * (T * y) + etR * T := by grind
      rw [m2, d, c] at m
      have m3 := Rat.mul_le_mul_of_nonneg_right c2 (show (0 : Rat) ≤ z by grind)
      grind
  have : svK .f64 r = 0 := by omega
  rw [this]
  decide +kernel
theorem mul_z {m n x y : Nat} (hx : Bd m x) (hy : Bd n y) (hn : m + n ≤ 900) (h : rv x * rv y = 0) : rv (oF .mul x y) = 0 := by
  have g := (mul_o hx hy hn).2
  rw [h] at g
  exact tiny_zero g
theorem add_z {n x y : Nat} (hx : Bd n x) (hy : Bd n y) (hn : n ≤ 900) (h : rv x + rv y = 0) : rv (oF .add x y) = 0 := by
  have g := (add_oB hx hy hn).2
  rw [h] at g
  exact tiny_zero g
theorem sub_z {n x y : Nat} (hx : Bd n x) (hy : Bd n y) (hn : n ≤ 900) (h : rv x - rv y = 0) : rv (oF .sub x y) = 0 := by
  have g := (sub_oB hx hy hn).2
  rw [h] at g
  exact tiny_zero g
/-- the words of one axis, there and back -/
def bkX (x k k2 : Nat) : Nat := oF .add (oF .add x k) k2
def nrW (x2 x o : Nat) : Bool := leK .f64 (rgK .f64 (oF .sub x2 x)) (oF .mul c40 (rgK .f64 o))
theorem bk_bd {x k k2 : Nat} (hx : Bd 40 x) (bk : Bd 130 k) (bk2 : Bd 130 k2) : Bd 132 (oF .add x k) ∧ Bd 134 (bkX x k k2) := by
  have b1 := (add_oB (bd_mono hx (by omega)) bk (by omega)).1
  exact ⟨b1, (add_oB b1 (bd_mono bk2 (by omega)) (by omega)).1⟩
theorem nr_le {d r : Nat} (hd : finK .f64 d = true) (hr : finK .f64 r = true) (h : av d ≤ rv r) : leK .f64 (rgK .f64 d) r = true :=
  (le_rv (fin_nan (rg_fin hd)) (fin_nan hr)).2 (by rw [rg_av]; exact h)
theorem axis_end {x k k2 o1 : Nat} {q M : Rat} (hx : Us x) (bk : Bd 130 k) (bk2 : Bd 130 k2) (bo : Bd 130 o1) (hM : av x + ab q = M) (M1 : 1 ≤ M * 2 ^ 120) (e1 : ab (rv k - q) ≤ 8 * (epR * M)) (e2 : ab (rv k2 - -q) ≤ 8 * (epR * M)) (e3 : ab (rv o1 - ab q) ≤ 8 * (epR * M)) : nrW (bkX x k k2) x (oF .add (rgK .f64 x) o1) = true := by
  obtain ⟨b1, b2⟩ := bk_bd hx.bd bk bk2
  have n1 := (add_oB (bd_mono hx.bd (show 40 ≤ 130 by omega)) bk (by omega)).2
  have n2 := (add_oB b1 (bd_mono bk2 (show 130 ≤ 132 by omega)) (by omega)).2
  obtain ⟨b3, n3⟩ := sub_oB b2 (bd_mono hx.bd (show 40 ≤ 134 by omega)) (by omega)
  obtain ⟨b4, n4⟩ := add_oB (bd_mono (rg_bd hx.bd) (show 40 ≤ 130 by omega)) bo (by omega)
  obtain ⟨b5, n5⟩ := mul_o c40_bd (rg_bd b4) (by omega)
  rw [rg_av] at n4 n5
  rw [c40_rv] at n5
  have M0 : 0 ≤ M := by have := av_nn x; have := ab_nn q; grind
  have hx2 : ab (rv x) + ab q = M := by rw [ab_rv]; exact hM
  have K1 : etR * 2 ^ 120 ≤ epR * (epR * (1 / 2 ^ 40)) := by decide +kernel
  have P120 : (0 : Rat) < 2 ^ 120 := by decide +kernel
  have k1 : etR ≤ epR * (epR * (1 / 2 ^ 40)) * M := by
    have a1 := rmul M1 et_pos
    have a2 := Rat.mul_le_mul_of_nonneg_right K1 M0
    grind
  have c1 : epR * (epR * (1 / 2 ^ 40)) ≤ epR := by decide +kernel
  have c2 : epR * (epR * (1 / 2 ^ 40)) ≤ epR * epR := by decide +kernel
  have c3 : epR * (epR * (1 / 2 ^ 40)) ≤ epR * (1 / 2 ^ 40) := by decide +kernel
  have h1 : etR ≤ epR * M := Rat.le_trans k1 (Rat.mul_le_mul_of_nonneg_right c1 M0)
  have h2 : etR ≤ epR * (epR * M) := by have := Rat.mul_le_mul_of_nonneg_right c2 M0; grind
  have h3 : etR ≤ epR * (1 / 2 ^ 40 * M) := by have := Rat.mul_le_mul_of_nonneg_right c3 M0; grind
  have g := back20 ep_pos ep_4096 et_pos h1 (by rw [hx2]; exact Rat.le_refl) e1 e2 n1 n2
  have ob : ab (rv (oF .add (rgK .f64 x) o1)) = av (oF .add (rgK .f64 x) o1) := ab_rv _
  have L := nearly20 (E := 1 / 2 ^ 40) (o := rv (oF .add (rgK .f64 x) o1)) (r := rv (oF .mul c40 (rgK .f64 (oF .add (rgK .f64 x) o1)))) ep_pos ep_4096 et_pos hx2 (by decide +kernel) (by decide +kernel) (by decide +kernel) h2 g n3 e3 (by rw [ab_rv]; exact n4) (by rw [ob]; exact n5) (by decide +kernel) h3
  rw [ab_rv] at L
  exact nr_le b3.2.1 b5.2.1 L
theorem axis_zero {x k k2 o1 : Nat} (hx : Us x) (bk : Bd 130 k) (bk2 : Bd 130 k2) (bo : Bd 130 o1) (x0 : rv x = 0) (k0 : rv k = 0) (k20 : rv k2 = 0) (o0 : rv o1 = 0) : nrW (bkX x k k2) x (oF .add (rgK .f64 x) o1) = true := by
  obtain ⟨b1, b2⟩ := bk_bd hx.bd bk bk2
  have z1 := add_z (bd_mono hx.bd (show 40 ≤ 130 by omega)) bk (by omega) (by rw [x0, k0]; decide +kernel)
  have z2 := add_z b1 (bd_mono bk2 (show 130 ≤ 132 by omega)) (by omega) (by rw [z1, k20]; decide +kernel)
  have z3 := sub_z b2 (bd_mono hx.bd (show 40 ≤ 134 by omega)) (by omega) (by show rv (bkX x k k2) - rv x = 0; unfold bkX; rw [z2, x0]; decide +kernel)
  obtain ⟨b3, _⟩ := sub_oB b2 (bd_mono hx.bd (show 40 ≤ 134 by omega)) (by omega)
  have xa : av x = 0 := by rw [← ab_rv, x0]; decide +kernel
  have z4 := add_z (bd_mono (rg_bd hx.bd) (show 40 ≤ 130 by omega)) bo (by omega) (by rw [rg_av, xa, o0]; decide +kernel)
  obtain ⟨b4, _⟩ := add_oB (bd_mono (rg_bd hx.bd) (show 40 ≤ 130 by omega)) bo (by omega)
  have za : av (oF .add (rgK .f64 x) o1) = 0 := by rw [← ab_rv, z4]; decide +kernel
  have z5 := mul_z c40_bd (rg_bd b4) (by omega) (by rw [rg_av, za]; exact Rat.mul_zero _)
  obtain ⟨b5, _⟩ := mul_o c40_bd (rg_bd b4) (by omega)
  refine nr_le b3.2.1 b5.2.1 ?_
  rw [z5, ← ab_rv, z3]
  decide +kernel
/-- three usual factors: nought, or not too small -/
theorem low3 {m p g : Nat} (hm : Us m) (hp : Us p) (hg : Us g) (h : rv m * rv p * rv g ≠ 0) : 1 ≤ ab (rv m * rv p * rv g) * 2 ^ 120 := by
  have m1 : rv m ≠ 0 := by intro e; rw [e] at h; exact h (by grind)
  have p1 : rv p ≠ 0 := by intro e; rw [e] at h; exact h (by grind)
  have g1 : rv g ≠ 0 := by intro e; rw [e] at h; exact h (by grind)
  have a1 := hm.low.resolve_left m1
  have a2 := hp.low.resolve_left p1
  have a3 := hg.low.resolve_left g1
  rw [ab_mul, ab_mul, ab_rv, ab_rv, ab_rv]
  have b1 := Rat.mul_le_mul_of_nonneg_right a1 (show (0 : Rat) ≤ av p * 2 ^ 40 by grind)
  have b2 := Rat.mul_le_mul_of_nonneg_right (show (1 : Rat) ≤ av m * 2 ^ 40 * (av p * 2 ^ 40) by grind) (show (0 : Rat) ≤ av g * 2 ^ 40 by grind)
  have c : (2 : Rat) ^ 40 * 2 ^ 40 * 2 ^ 40 = 2 ^ 120 := by decide +kernel
  rw [← c]
  grind
theorem p3_bd {m p g : Nat} (hm : Bd 40 m) (hp : Bd 40 p) (hg : Bd 40 g) : Bd 130 (oF .mul (oF .mul m p) g) ∧ Bd 130 (oF .mul g (oF .mul m p)) := by
  have b1 := (mul_o hm hp (by omega)).1
  exact ⟨bd_mono (mul_o b1 hg (by omega)).1 (by omega), bd_mono (mul_o hg b1 (by omega)).1 (by omega)⟩
theorem p3_err {m p g : Nat} {M : Rat} (hm : Bd 40 m) (hp : Bd 40 p) (hg : Bd 40 g) (M1 : 1 ≤ M * 2 ^ 120) (hM : ab (rv m * rv p * rv g) ≤ M) : ab (rv (oF .mul (oF .mul m p) g) - rv m * rv p * rv g) ≤ 8 * (epR * M) ∧ ab (rv (oF .mul g (oF .mul m p)) - rv m * rv p * rv g) ≤ 8 * (epR * M) := by
  have M0 : 0 ≤ M := Rat.le_trans (ab_nn _) hM
  obtain ⟨b1, n1⟩ := mul_o hm hp (by omega)
  have n2 := (mul_o b1 hg (by omega)).2
  have n3 := (mul_o hg b1 (by omega)).2
  have K : 8 * (2 ^ 40 * etR) * 2 ^ 120 ≤ epR := by decide +kernel
  have hh : 8 * (2 ^ 40 * etR) ≤ epR * M := by
    have a1 := rmul M1 (c := 8 * (2 ^ 40 * etR)) (by decide +kernel)
    have a2 := Rat.mul_le_mul_of_nonneg_right K M0
    grind
  have hgd : ab (rv g) ≤ 2 ^ 40 := by rw [ab_rv]; exact hg.2.2
  refine ⟨prod3 (D := 2 ^ 40) ep_pos ep_4096 et_pos hgd (by decide +kernel) hh hM n1 n2, prod3 (D := 2 ^ 40) ep_pos ep_4096 et_pos hgd (by decide +kernel) hh hM n1 ?_⟩
  rw [Rat.mul_comm (rv g)] at n3
  exact n3
/-- an axis of the speed -/
theorem back_way {m p g x : Nat} (m0 : 0 ≤ rv m) (hm : Us m) (hp : Us p) (hg : Us g) (hx : Us x) : nrW (bkX x (oF .mul (oF .mul m p) g) (oF .mul (oF .mul m (Op.negFloat .f64 p)) g)) x (oF .add (rgK .f64 x) (oF .mul (oF .mul m (rgK .f64 p)) (rgK .f64 g))) = true := by
  obtain ⟨nb, nr⟩ := neg_bd hp.bd
  have k1 := (p3_bd hm.bd hp.bd hg.bd).1
  have k2 := (p3_bd hm.bd nb hg.bd).1
  have k3 := (p3_bd hm.bd (rg_bd hp.bd) (rg_bd hg.bd)).1
  have e1 : rv m * rv (Op.negFloat .f64 p) * rv g = -(rv m * rv p * rv g) := by rw [nr]; grind
  have e2 : rv m * rv (rgK .f64 p) * rv (rgK .f64 g) = ab (rv m * rv p * rv g) := by rw [rg_av, rg_av, ab_mul, ab_mul, ab_pos m0, ab_rv, ab_rv]
  by_cases h : av x + ab (rv m * rv p * rv g) = 0
  · have x0 := av_nn x
    have q0 := ab_nn (rv m * rv p * rv g)
    have xz : rv x = 0 := by have := ab_rv x; have := ab_le (rv x); grind
    have qz : rv m * rv p * rv g = 0 := by have := ab_le (rv m * rv p * rv g); grind
    have t1 : rv (oF .mul (oF .mul m p) g) = 0 := by
      obtain ⟨b1, _⟩ := mul_o hm.bd hp.bd (by omega)
      rcases Rat.mul_eq_zero.1 qz with z | z
      · exact mul_z b1 hg.bd (by omega) (by rw [mul_z hm.bd hp.bd (by omega) z]; exact Rat.zero_mul _)
      · exact mul_z b1 hg.bd (by omega) (by rw [z]; exact Rat.mul_zero _)
    have t2 : rv (oF .mul (oF .mul m (Op.negFloat .f64 p)) g) = 0 := by
      obtain ⟨b1, _⟩ := mul_o hm.bd nb (by omega)
      rw [qz] at e1
      rcases Rat.mul_eq_zero.1 (show rv m * rv (Op.negFloat .f64 p) * rv g = 0 by rw [e1]; decide +kernel) with z | z
      · exact mul_z b1 hg.bd (by omega) (by rw [mul_z hm.bd nb (by omega) z]; exact Rat.zero_mul _)
      · exact mul_z b1 hg.bd (by omega) (by rw [z]; exact Rat.mul_zero _)
    have t3 : rv (oF .mul (oF .mul m (rgK .f64 p)) (rgK .f64 g)) = 0 := by
      obtain ⟨b1, _⟩ := mul_o hm.bd (rg_bd hp.bd) (by omega)
      rw [qz] at e2
      have e3 : rv m * rv (rgK .f64 p) * rv (rgK .f64 g) = 0 := by rw [e2]; decide +kernel
      rcases Rat.mul_eq_zero.1 e3 with z | z
      · exact mul_z b1 (rg_bd hg.bd) (by omega) (by rw [mul_z hm.bd (rg_bd hp.bd) (by omega) z]; exact Rat.zero_mul _)
      · exact mul_z b1 (rg_bd hg.bd) (by omega) (by rw [z]; exact Rat.mul_zero _)
    exact axis_zero hx k1 k2 k3 xz t1 t2 t3
  · have M1 : 1 ≤ (av x + ab (rv m * rv p * rv g)) * 2 ^ 120 := by
      have x0 := av_nn x
      have q0 := ab_nn (rv m * rv p * rv g)
      by_cases hq : rv m * rv p * rv g = 0
      · have xn : rv x ≠ 0 := by
          intro e
          apply h
          rw [hq, ← ab_rv, e]
          decide +kernel
        have a := hx.low.resolve_left xn
        have c : (2 : Rat) ^ 120 = 2 ^ 40 * 2 ^ 80 := by decide +kernel
        have c2 : (1 : Rat) ≤ 2 ^ 80 := by decide +kernel
        have b := Rat.mul_le_mul_of_nonneg_right a (show (0 : Rat) ≤ 2 ^ 80 by decide +kernel)
        have q1 := rmul (show (0 : Rat) ≤ ab (rv m * rv p * rv g) from q0) (c := 2 ^ 120) (by decide +kernel)
        rw [c] at q1 ⊢
        grind
      · have a := low3 hm hp hg hq
        have q1 := rmul x0 (c := 2 ^ 120) (by decide +kernel)
        grind
    have le : ab (rv m * rv p * rv g) ≤ av x + ab (rv m * rv p * rv g) := by have := av_nn x; grind
    have r1 := (p3_err hm.bd hp.bd hg.bd M1 le).1
    have r2 := (p3_err hm.bd nb hg.bd M1 (by rw [e1, ab_neg]; exact le)).1
    have r3 := (p3_err hm.bd (rg_bd hp.bd) (rg_bd hg.bd) M1 (by rw [e2, ab_pos (ab_nn _)]; exact le)).1
    rw [e1] at r2
    rw [e2] at r3
    exact axis_end hx k1 k2 k3 rfl M1 r1 r2 r3
/-- the spin -/
theorem back_spin {m p g x : Nat} (m0 : 0 ≤ rv m) (hm : Us m) (hp : Us p) (hg : Us g) (hx : Us x) : nrW (bkX x (oF .mul m (oF .mul p g)) (oF .mul m (oF .mul (Op.negFloat .f64 p) g))) x (oF .add (rgK .f64 x) (oF .mul (oF .mul m (rgK .f64 p)) (rgK .f64 g))) = true := by
  obtain ⟨nb, nr⟩ := neg_bd hp.bd
  have k1 := (p3_bd hp.bd hg.bd hm.bd).2
  have k2 := (p3_bd nb hg.bd hm.bd).2
  have k3 := (p3_bd hm.bd (rg_bd hp.bd) (rg_bd hg.bd)).1
  have e1 : rv m * rv (Op.negFloat .f64 p) * rv g = -(rv m * rv p * rv g) := by rw [nr]; grind
  have e2 : rv m * rv (rgK .f64 p) * rv (rgK .f64 g) = ab (rv m * rv p * rv g) := by rw [rg_av, rg_av, ab_mul, ab_mul, ab_pos m0, ab_rv, ab_rv]
  by_cases h : av x + ab (rv m * rv p * rv g) = 0
  · have x0 := av_nn x
    have q0 := ab_nn (rv m * rv p * rv g)
    have xz : rv x = 0 := by have := ab_rv x; have := ab_le (rv x); grind
    have qz : rv m * rv p * rv g = 0 := by have := ab_le (rv m * rv p * rv g); grind
    have t1 : rv (oF .mul m (oF .mul p g)) = 0 := by
      obtain ⟨b1, _⟩ := mul_o hp.bd hg.bd (by omega)
      rcases Rat.mul_eq_zero.1 (show rv m * (rv p * rv g) = 0 by rw [← Rat.mul_assoc]; exact qz) with z | z
      · exact mul_z hm.bd b1 (by omega) (by rw [z]; exact Rat.zero_mul _)
      · exact mul_z hm.bd b1 (by omega) (by rw [mul_z hp.bd hg.bd (by omega) z]; exact Rat.mul_zero _)
    have t2 : rv (oF .mul m (oF .mul (Op.negFloat .f64 p) g)) = 0 := by
      obtain ⟨b1, _⟩ := mul_o nb hg.bd (by omega)
      rw [qz] at e1
      rcases Rat.mul_eq_zero.1 (show rv m * (rv (Op.negFloat .f64 p) * rv g) = 0 by rw [← Rat.mul_assoc, e1]; decide +kernel) with z | z
      · exact mul_z hm.bd b1 (by omega) (by rw [z]; exact Rat.zero_mul _)
      · exact mul_z hm.bd b1 (by omega) (by rw [mul_z nb hg.bd (by omega) z]; exact Rat.mul_zero _)
    have t3 : rv (oF .mul (oF .mul m (rgK .f64 p)) (rgK .f64 g)) = 0 := by
      obtain ⟨b1, _⟩ := mul_o hm.bd (rg_bd hp.bd) (by omega)
      rw [qz] at e2
      have e3 : rv m * rv (rgK .f64 p) * rv (rgK .f64 g) = 0 := by rw [e2]; decide +kernel
      rcases Rat.mul_eq_zero.1 e3 with z | z
      · exact mul_z b1 (rg_bd hg.bd) (by omega) (by rw [mul_z hm.bd (rg_bd hp.bd) (by omega) z]; exact Rat.zero_mul _)
      · exact mul_z b1 (rg_bd hg.bd) (by omega) (by rw [z]; exact Rat.mul_zero _)
    exact axis_zero hx k1 k2 k3 xz t1 t2 t3
  · have M1 : 1 ≤ (av x + ab (rv m * rv p * rv g)) * 2 ^ 120 := by
      have x0 := av_nn x
      have q0 := ab_nn (rv m * rv p * rv g)
      by_cases hq : rv m * rv p * rv g = 0
      · have xn : rv x ≠ 0 := by
          intro e
          apply h
          rw [hq, ← ab_rv, e]
          decide +kernel
        have a := hx.low.resolve_left xn
        have c : (2 : Rat) ^ 120 = 2 ^ 40 * 2 ^ 80 := by decide +kernel
        have c2 : (1 : Rat) ≤ 2 ^ 80 := by decide +kernel
        have b := Rat.mul_le_mul_of_nonneg_right a (show (0 : Rat) ≤ 2 ^ 80 by decide +kernel)
        have q1 := rmul (show (0 : Rat) ≤ ab (rv m * rv p * rv g) from q0) (c := 2 ^ 120) (by decide +kernel)
        rw [c] at q1 ⊢
        grind
      · have a := low3 hm hp hg hq
        have q1 := rmul x0 (c := 2 ^ 120) (by decide +kernel)
        grind
    have le : ab (rv m * rv p * rv g) ≤ av x + ab (rv m * rv p * rv g) := by have := av_nn x; grind
    have c1 : rv p * rv g * rv m = rv m * rv p * rv g := by grind
    have c2 : rv (Op.negFloat .f64 p) * rv g * rv m = rv m * rv (Op.negFloat .f64 p) * rv g := by grind
    have r1 := (p3_err hp.bd hg.bd hm.bd M1 (by rw [c1]; exact le)).2
    have r2 := (p3_err nb hg.bd hm.bd M1 (by rw [c2, e1, ab_neg]; exact le)).2
    rw [c1] at r1
    rw [c2] at r2
    have r3 := (p3_err hm.bd (rg_bd hp.bd) (rg_bd hg.bd) M1 (by rw [e2, ab_pos (ab_nn _)]; exact le)).1
    rw [e1] at r2
    rw [e2] at r3
    exact axis_end hx k1 k2 k3 rfl M1 r1 r2 r3
/-- what is not moved -/
theorem back_not {m p g x : Nat} (m0 : 0 ≤ rv m) (hm : Us m) (hp : Us p) (hg : Us g) (hx : Us x) : nrW x x (oF .add (rgK .f64 x) (oF .mul (oF .mul m (rgK .f64 p)) (rgK .f64 g))) = true := by
  have k3 := (p3_bd hm.bd (rg_bd hp.bd) (rg_bd hg.bd)).1
  have z3 := sub_z hx.bd hx.bd (by omega) (show rv x - rv x = 0 by grind)
  obtain ⟨b3, _⟩ := sub_oB hx.bd hx.bd (by omega)
  obtain ⟨b4, n4⟩ := add_oB (bd_mono (rg_bd hx.bd) (show 40 ≤ 130 by omega)) k3 (by omega)
  obtain ⟨b5, n5⟩ := mul_o c40_bd (rg_bd b4) (by omega)
  refine nr_le b3.2.1 b5.2.1 ?_
  rw [← ab_rv, z3, show ab (0 : Rat) = 0 by decide +kernel]
  rw [rg_av, c40_rv] at n5
  have q0 : (0 : Rat) ≤ 1 / 2 ^ 40 * av (oF .add (rgK .f64 x) (oF .mul (oF .mul m (rgK .f64 p)) (rgK .f64 g))) := Rat.mul_nonneg (by decide +kernel) (av_nn _)
  rcases Rat.le_total (a := 0) (b := rv (oF .mul c40 (rgK .f64 (oF .add (rgK .f64 x) (oF .mul (oF .mul m (rgK .f64 p)) (rgK .f64 g)))))) with h | h
  · exact h
  · have z : nrS 0 (rv (oF .mul c40 (rgK .f64 (oF .add (rgK .f64 x) (oF .mul (oF .mul m (rgK .f64 p)) (rgK .f64 g)))))) := by
      unfold nrS at n5 ⊢
      have a1 := ab_le (1 / 2 ^ 40 * av (oF .add (rgK .f64 x) (oF .mul (oF .mul m (rgK .f64 p)) (rgK .f64 g))) - rv (oF .mul c40 (rgK .f64 (oF .add (rgK .f64 x) (oF .mul (oF .mul m (rgK .f64 p)) (rgK .f64 g))))))
      rw [show (0 : Rat) - rv (oF .mul c40 (rgK .f64 (oF .add (rgK .f64 x) (oF .mul (oF .mul m (rgK .f64 p)) (rgK .f64 g))))) = -rv (oF .mul c40 (rgK .f64 (oF .add (rgK .f64 x) (oF .mul (oF .mul m (rgK .f64 p)) (rgK .f64 g))))) by grind]
      rw [ab_pos (a := -rv _) (by grind)]
      grind
    rw [tiny_zero z]
    exact Rat.le_refl
/-- by nought: the speed stays -/
theorem push_z {x k : Nat} (hx : Us x) (bk : Bd 130 k) (k0 : rv k = 0) : eqK .f64 (oF .add x k) x = true := by
  have s := some_add hx.bd.2.1 bk.2.1
  have b := bd_add (bd_mono hx.bd (show 40 ≤ 130 by omega)) bk (by omega)
  rw [oF_dv s b]
  have sk : svK .f64 k = 0 := by
    rw [rv_sv] at k0
    have h1 : ((svK .f64 k : Int) : Rat) = 0 := by
      have := congrArg (fun z => z * (2 : Rat) ^ 1074) k0
      simp only [Rat.div_def, Rat.zero_mul] at this
      rw [Rat.mul_assoc, Rat.inv_mul_cancel _ (by decide +kernel), Rat.mul_one] at this
      exact this
    exact_mod_cast h1
  obtain ⟨f, e⟩ := add_exact hx.bd.2.1 bk.2.1 hx.bd.2.1 (dv_res s) (by rw [sk]; omega)
  exact sv_eq f hx.bd.2.1 e
end Go.Proofs.Ytfohggiehbplkaa
