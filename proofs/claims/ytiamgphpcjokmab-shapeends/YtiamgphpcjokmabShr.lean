/-
  Plain facts on floats, more: rounding to the nearest rung, sums and products of finite floats, signs turned. No program is named here.
-/
import Derived.Test.YtiamgphpcjokmabShq
namespace Go.Proofs.Ytiamgphpcjokmab
open Ieee Go.RowKit
set_option linter.unusedSimpArgs false
set_option linter.unusedVariables false

/-! ### Go's order of finite floats is that of their numbers -/
theorem wo_sv (x y : Nat) : woK .f64 x ≤ woK .f64 y ↔ svK .f64 x ≤ svK .f64 y := by
  have hx := woK_eq .f64 x
  have hy := woK_eq .f64 y
  have vz : vl FloatKind.f64.format 0 = 0 := vl_zero _
  have le : ∀ {r s : Nat}, vl FloatKind.f64.format r ≤ vl FloatKind.f64.format s ↔ r ≤ s := fun {r s} => by
    rw [← Nat.not_lt, ← Nat.not_lt, vl_lt_iff]
  have pos : ∀ r, vl FloatKind.f64.format r = 0 ↔ r = 0 := fun r => ⟨fun h => vl_inj _ (h.trans vz.symm), fun h => by rw [h]; exact vz⟩
  rw [hx, hy]
  show (if ngK .f64 x then -(rgK .f64 x : Int) else (rgK .f64 x : Int)) ≤ (if ngK .f64 y then -(rgK .f64 y : Int) else (rgK .f64 y : Int)) ↔ (if ngK .f64 x then -(vl FloatKind.f64.format (rgK .f64 x) : Int) else (vl FloatKind.f64.format (rgK .f64 x) : Int)) ≤ (if ngK .f64 y then -(vl FloatKind.f64.format (rgK .f64 y) : Int) else (vl FloatKind.f64.format (rgK .f64 y) : Int))
  generalize rgK .f64 x = a
  generalize rgK .f64 y = b
  have l1 := @le a b
  have l2 := @le b a
  have p1 := pos a
  have p2 := pos b
  generalize vl FloatKind.f64.format a = u at *
  generalize vl FloatKind.f64.format b = v at *
  cases ngK .f64 x <;> cases ngK .f64 y <;> simp <;> omega
theorem rv_le (x y : Nat) : rv x ≤ rv y ↔ svK .f64 x ≤ svK .f64 y := by
  rw [rv_sv, rv_sv]
  constructor
  · intro h
    have := Rat.mul_le_mul_of_nonneg_right h (Rat.le_of_lt W_pos)
    rw [Rat.div_mul_cancel (Rat.ne_of_gt W_pos), Rat.div_mul_cancel (Rat.ne_of_gt W_pos)] at this
    exact Rat.intCast_le_intCast.1 this
  · intro h
    rw [Rat.div_def, Rat.div_def]
    exact Rat.mul_le_mul_of_nonneg_right (Rat.intCast_le_intCast.2 h) (Rat.le_of_lt (Rat.inv_pos.2 W_pos))
theorem le_rv {x y : Nat} (hx : nanK .f64 x = false) (hy : nanK .f64 y = false) : leK .f64 x y = true ↔ rv x ≤ rv y := by
  unfold leK
  rw [hx, hy, rv_le, ← wo_sv]
  simp
theorem lt_rv {x y : Nat} (hx : nanK .f64 x = false) (hy : nanK .f64 y = false) : ltK .f64 x y = true ↔ rv x < rv y := by
  have h := rv_le y x
  have g := wo_sv y x
  unfold ltK
  rw [hx, hy]
  simp
  rw [← Rat.not_le, h, ← g]
  omega
end Go.Proofs.Ytiamgphpcjokmab
namespace Go.Proofs.Ytiamgphpcjokmab
open Ieee Go.RowKit
set_option linter.unusedVariables false
theorem res_sub_add {x y r : Nat} (oy : okK .f64 y) (h : resK .sub .f64 x y r) : resK .add .f64 x (Op.negFloat .f64 y) r := by
  unfold resK at *; rwa [← sub_is_add _ _ _ oy]
theorem sv_word (s : Bool) {r : Nat} (h : r < infK .f64) : finK .f64 (FloatKind.f64.format.word s r) = true ∧ svK .f64 (FloatKind.f64.format.word s r) = if s then -(vl FloatKind.f64.format r : Int) else (vl FloatKind.f64.format r : Int) := by
  have h' := Nat.le_of_lt h
  refine ⟨by unfold finK; rw [rgK_word _ _ _ h']; exact decide_eq_true h, by unfold svK; rw [ngK_word _ _ _ h', rgK_word _ _ _ h']⟩
theorem mul_unit {a u p : Nat} (fa : finK .f64 a = true) (fu : finK .f64 u = true) (hu : vl FloatKind.f64.format (rgK .f64 u) = 2 ^ 1074) (h : resK .mul .f64 a u p) : finK .f64 p = true ∧ svK .f64 p = if ngK .f64 u then -svK .f64 a else svK .f64 a := by
  have e := mul_spec a u fa fu
  rw [hu] at e
  obtain ⟨t, ht⟩ : ∃ t : Nat, t = 1074 := ⟨_, rfl⟩
  rw [← ht, rr_exact _ fb1] at e
  have ha : rgK .f64 a < infK .f64 := of_decide_eq_true fa
  rw [Nat.min_eq_left (Nat.le_of_lt ha)] at e
  have e2 := res_is h e
  obtain ⟨k1, k2⟩ := sv_word (ngK .f64 a ^^ ngK .f64 u) ha
  rw [← e2] at k1 k2
  refine ⟨k1, ?_⟩
  rw [k2]; unfold svK
  cases ngK .f64 a <;> cases ngK .f64 u <;> simp
theorem vl_nought : vl FloatKind.f64.format 0 = 0 := by decide +kernel
theorem mul_nought {a u p : Nat} (fa : finK .f64 a = true) (hu : rgK .f64 u = 0) (h : resK .mul .f64 a u p) : finK .f64 p = true ∧ svK .f64 p = 0 := by
  have fu : finK .f64 u = true := by unfold finK; rw [hu, inf64]; rfl
  have e := mul_spec a u fa fu
  rw [hu, vl_nought, Nat.mul_zero, rr_zero, Nat.zero_min] at e
  have e2 := res_is h e
  obtain ⟨k1, k2⟩ := sv_word (ngK .f64 a ^^ ngK .f64 u) (show 0 < infK .f64 by rw [inf64]; decide)
  rw [← e2] at k1 k2
  refine ⟨k1, ?_⟩
  rw [k2, vl_nought]; simp
theorem sv_abs (c : Nat) : (svK .f64 c).natAbs = vl FloatKind.f64.format (rgK .f64 c) := by unfold svK; split <;> simp
theorem add_exact {p q r c : Nat} (fp : finK .f64 p = true) (fq : finK .f64 q = true) (fc : finK .f64 c = true) (h : resK .add .f64 p q r) (e : svK .f64 p + svK .f64 q = svK .f64 c) : finK .f64 r = true ∧ svK .f64 r = svK .f64 c := by
  have k := add_spec .f64 p q fp fq
  rw [e, sv_abs] at k
  have re := rr_exact FloatKind.f64.format fb1 (rgK .f64 c) 0
  rw [Nat.pow_zero, Nat.mul_one] at re
  have hc : rgK .f64 c < infK .f64 := of_decide_eq_true fc
  rw [re, Nat.min_eq_left (Nat.le_of_lt hc)] at k
  have e2 := res_is h k
  obtain ⟨k1, k2⟩ := sv_word (if svK .f64 c = 0 then ngK .f64 p && ngK .f64 q else decide (svK .f64 c < 0)) hc
  rw [← e2] at k1 k2
  refine ⟨k1, ?_⟩
  rw [k2, ← sv_abs]
  by_cases z : svK .f64 c = 0
  · rw [z]; simp
  · rw [if_neg z]
    by_cases l : svK .f64 c < 0
    · rw [if_pos (decide_eq_true l)]; omega
    · rw [if_neg (by simpa using l)]; omega
theorem sub_exact {p q r c : Nat} (oq : okK .f64 q) (fp : finK .f64 p = true) (fq : finK .f64 q = true) (fc : finK .f64 c = true) (h : resK .sub .f64 p q r) (e : svK .f64 p - svK .f64 q = svK .f64 c) : finK .f64 r = true ∧ svK .f64 r = svK .f64 c :=
  add_exact fp (by rw [fin_neg _ oq]; exact fq) fc (res_sub_add oq h) (by rw [sv_neg _ oq]; omega)
theorem sv_eq {a b : Nat} (fa : finK .f64 a = true) (fb : finK .f64 b = true) (h : svK .f64 a = svK .f64 b) : eqK .f64 a b = true := by
  have m : rgK .f64 a = rgK .f64 b := by
    have e : (svK .f64 a).natAbs = (svK .f64 b).natAbs := by rw [h]
    have m1 := (mg_rg (a := a) (b := b)).1 (by unfold mg; rw [sv_abs, sv_abs] at e; omega)
    have m2 := (mg_rg (a := b) (b := a)).1 (by unfold mg; rw [sv_abs, sv_abs] at e; omega)
    omega
  unfold eqK
  rw [fin_num fa, fin_num fb, woK_eq, woK_eq, m]
  unfold svK at h
  rw [m] at h
  by_cases z : rgK .f64 b = 0
  · rw [z]; simp
  · have v0 : vl FloatKind.f64.format (rgK .f64 b) ≠ 0 := fun g => z (mg_zero.1 g)
    generalize vl FloatKind.f64.format (rgK .f64 b) = V at *
    cases h1 : ngK .f64 a <;> cases h2 : ngK .f64 b <;> simp [h1, h2] at h ⊢ <;> omega
def isU (u : Nat) (U : Int) : Prop := (rgK .f64 u = 0 ∧ U = 0) ∨ (finK .f64 u = true ∧ vl FloatKind.f64.format (rgK .f64 u) = 2 ^ 1074 ∧ U = if ngK .f64 u then -1 else 1)
theorem mulU {a u p : Nat} {U : Int} (fa : finK .f64 a = true) (hu : isU u U) (h : resK .mul .f64 a u p) : finK .f64 p = true ∧ svK .f64 p = svK .f64 a * U := by
  rcases hu with ⟨z, rfl⟩ | ⟨fu, e, rfl⟩
  · have := mul_nought fa z h
    rwa [Int.mul_zero]
  · have := mul_unit fa fu e h
    refine ⟨this.1, ?_⟩
    rw [this.2]
    cases ngK .f64 u <;> simp
theorem u_nought : isU 0 0 := .inl ⟨nought_rg _, rfl⟩
theorem u_one : isU 4607182418800017408 1 := .inr ⟨by decide +kernel, by decide +kernel, by decide +kernel⟩
theorem u_minus : isU 13830554455654793216 (-1) := .inr ⟨by decide +kernel, by decide +kernel, by decide +kernel⟩
theorem add_sv {p q r p' q' r' : Nat} (fp : finK .f64 p = true) (fq : finK .f64 q = true) (fp' : finK .f64 p' = true) (fq' : finK .f64 q' = true) (h : resK .add .f64 p q r) (h' : resK .add .f64 p' q' r') (fr : finK .f64 r = true) (e : svK .f64 p + svK .f64 q = svK .f64 p' + svK .f64 q') : finK .f64 r' = true ∧ svK .f64 r' = svK .f64 r := by
  have k := add_spec .f64 p q fp fq
  have k' := add_spec .f64 p' q' fp' fq'
  rw [← e] at k'
  have e1 := res_is h k
  have e2 := res_is h' k'
  generalize svK .f64 p + svK .f64 q = S at *
  have hlt : rr FloatKind.f64.format S.natAbs 0 < infK .f64 := by
    rcases Nat.lt_or_ge (rr FloatKind.f64.format S.natAbs 0) (infK .f64) with g | g
    · exact g
    · exfalso
      rw [Nat.min_eq_right g] at e1
      rw [e1] at fr
      unfold finK at fr
      rw [rgK_word _ _ _ (Nat.le_refl _)] at fr
      simp at fr
  rw [Nat.min_eq_left (Nat.le_of_lt hlt)] at e1 e2
  obtain ⟨a1, a2⟩ := sv_word (if S = 0 then ngK .f64 p && ngK .f64 q else decide (S < 0)) hlt
  obtain ⟨b1, b2⟩ := sv_word (if S = 0 then ngK .f64 p' && ngK .f64 q' else decide (S < 0)) hlt
  rw [← e1] at a2
  rw [← e2] at b1 b2
  refine ⟨b1, ?_⟩
  rw [a2, b2]
  by_cases z : S = 0
  · subst z
    rw [show (0 : Int).natAbs = 0 from rfl, rr_zero, vl_nought]
    simp
  · rw [if_neg z, if_neg z]
theorem sv_wo {a b : Nat} : woK .f64 a = woK .f64 b ↔ svK .f64 a = svK .f64 b := by
  have h1 := wo_sv a b
  have h2 := wo_sv b a
  omega
theorem lt_sv {a b : Nat} (fa : finK .f64 a = true) (fb : finK .f64 b = true) : ltK .f64 a b = decide (svK .f64 a < svK .f64 b) := by
  have h2 := wo_sv b a
  unfold ltK
  rw [fin_num fa, fin_num fb]
  simp only [Bool.not_false, Bool.true_and]
  rw [decide_eq_decide]
  omega
theorem mul_d {n m x u : Nat} {U : Int} (hx : Bd n x) (hu : isU u U) (fu : finK .f64 u = true) : finK .f64 (Dv .mul x u) = true ∧ svK .f64 (Dv .mul x u) = svK .f64 x * U := mulU hx.2.1 hu (dv_res (some_mul hx.2.1 fu))
/-- a point's product with a way along an axis is a part of it -/
theorem dtU {x y u v c : Nat} {U V : Int} (hx : Bd 40 x) (hy : Bd 40 y) (hu : isU u U) (hv : isU v V) (fu : finK .f64 u = true) (fv : finK .f64 v = true) (fc : finK .f64 c = true) (e : svK .f64 x * U + svK .f64 y * V = svK .f64 c) : finK .f64 (dtK x y u v) = true ∧ svK .f64 (dtK x y u v) = svK .f64 c := by
  obtain ⟨a1, a2⟩ := mul_d (n := 40) (m := 0) hx hu fu
  obtain ⟨b1, b2⟩ := mul_d (n := 40) (m := 0) hy hv fv
  exact add_exact a1 b1 fc (dv_res (some_add a1 b1)) (by rw [a2, b2, e])
theorem most_sv {a b : Nat} (fa : finK .f64 a = true) (fb : finK .f64 b = true) : svK .f64 (mostK .f64 a b) = max (svK .f64 a) (svK .f64 b) := by
  unfold mostK
  rw [fin_num fa, Bool.false_or]
  cases h : ltK .f64 a b
  · rw [lt_sv fa fb, decide_eq_false_iff_not] at h
    cases g : (mzK .f64 a && decide (rgK .f64 b = 0))
    · simp; omega
    · rw [Bool.and_eq_true] at g
      have gb := of_decide_eq_true g.2
      have sb : svK .f64 b = 0 := by unfold svK; rw [gb, vl_nought]; split <;> rfl
      have ga : rgK .f64 a = 0 := by have g1 := g.1; unfold mzK at g1; rw [Bool.and_eq_true] at g1; exact of_decide_eq_true g1.1
      have sa : svK .f64 a = 0 := by unfold svK; rw [ga, vl_nought]; split <;> rfl
      simp; omega
  · rw [lt_sv fa fb, decide_eq_true_iff] at h
    simp; omega
theorem least_sv {a b : Nat} (fa : finK .f64 a = true) (fb : finK .f64 b = true) : svK .f64 (leastK .f64 a b) = min (svK .f64 a) (svK .f64 b) := by
  unfold leastK
  rw [fin_num fa, Bool.false_or]
  cases h : ltK .f64 b a
  · rw [lt_sv fb fa, decide_eq_false_iff_not] at h
    cases g : (mzK .f64 b && decide (rgK .f64 a = 0))
    · simp; omega
    · rw [Bool.and_eq_true] at g
      have ga := of_decide_eq_true g.2
      have sa : svK .f64 a = 0 := by unfold svK; rw [ga, vl_nought]; split <;> rfl
      have gb : rgK .f64 b = 0 := by have g1 := g.1; unfold mzK at g1; rw [Bool.and_eq_true] at g1; exact of_decide_eq_true g1.1
      have sb : svK .f64 b = 0 := by unfold svK; rw [gb, vl_nought]; split <;> rfl
      simp; omega
  · rw [lt_sv fb fa, decide_eq_true_iff] at h
    simp; omega
theorem high_sv {f : Nat → Nat} {m : Nat} : ∀ k, (∀ i, i ≤ k → Bd m (f i)) → ∃ j, j ≤ k ∧ svK .f64 (highK f k) = svK .f64 (f j) ∧ ∀ i, i ≤ k → svK .f64 (f i) ≤ svK .f64 (f j)
  | 0, h => ⟨0, Nat.le_refl _, rfl, fun i hi => by rw [Nat.le_zero.1 hi]; exact Int.le_refl _⟩
  | k + 1, h => by
    obtain ⟨j, hj, e, g⟩ := high_sv k (fun i hi => h i (by omega))
    have b1 := (low_bd k (fun i hi => h i (by omega))).2
    have b2 := h (k + 1) (Nat.le_refl _)
    have em : svK .f64 (highK f (k + 1)) = max (svK .f64 (highK f k)) (svK .f64 (f (k + 1))) := most_sv b1.2.1 b2.2.1
    by_cases hl : svK .f64 (f j) ≤ svK .f64 (f (k + 1))
    · refine ⟨k + 1, Nat.le_refl _, by rw [em, e]; omega, fun i hi => ?_⟩
      by_cases hk : i ≤ k
      · have := g i hk; omega
      · rw [show i = k + 1 by omega]; exact Int.le_refl _
    · refine ⟨j, by omega, by rw [em, e]; omega, fun i hi => ?_⟩
      by_cases hk : i ≤ k
      · exact g i hk
      · rw [show i = k + 1 by omega]; omega
theorem low_sv {f : Nat → Nat} {m : Nat} : ∀ k, (∀ i, i ≤ k → Bd m (f i)) → ∃ j, j ≤ k ∧ svK .f64 (lowK f k) = svK .f64 (f j) ∧ ∀ i, i ≤ k → svK .f64 (f j) ≤ svK .f64 (f i)
  | 0, h => ⟨0, Nat.le_refl _, rfl, fun i hi => by rw [Nat.le_zero.1 hi]; exact Int.le_refl _⟩
  | k + 1, h => by
    obtain ⟨j, hj, e, g⟩ := low_sv k (fun i hi => h i (by omega))
    have b1 := (low_bd k (fun i hi => h i (by omega))).1
    have b2 := h (k + 1) (Nat.le_refl _)
    have em : svK .f64 (lowK f (k + 1)) = min (svK .f64 (lowK f k)) (svK .f64 (f (k + 1))) := least_sv b1.2.1 b2.2.1
    by_cases hl : svK .f64 (f (k + 1)) ≤ svK .f64 (f j)
    · refine ⟨k + 1, Nat.le_refl _, by rw [em, e]; omega, fun i hi => ?_⟩
      by_cases hk : i ≤ k
      · have := g i hk; omega
      · rw [show i = k + 1 by omega]; exact Int.le_refl _
    · refine ⟨j, by omega, by rw [em, e]; omega, fun i hi => ?_⟩
      by_cases hk : i ≤ k
      · exact g i hk
      · rw [show i = k + 1 by omega]; omega
/-- of products with a way the farthest point has the most -/
theorem farK_max {xs ys : Nat → Nat} {n p q : Nat} (hf : ∀ i, i < n → finK .f64 (dtK (xs i) (ys i) p q) = true) : ∀ k, k < n → ∀ i, i ≤ k → svK .f64 (dtK (xs i) (ys i) p q) ≤ svK .f64 (dtK (xs (farK xs ys p q k)) (ys (farK xs ys p q k)) p q)
  | 0, h, i, hi => by rw [Nat.le_zero.1 hi]; exact Int.le_refl _
  | k + 1, h, i, hi => by
    have g := farK_max hf k (by omega)
    have fl := far_le xs ys p q k
    have f1 := hf _ (show farK xs ys p q k < n by omega)
    have f2 := hf (k + 1) h
    unfold farK
    cases hl : ltK .f64 (dtK (xs (farK xs ys p q k)) (ys (farK xs ys p q k)) p q) (dtK (xs (k + 1)) (ys (k + 1)) p q)
    · rw [lt_sv f1 f2, decide_eq_false_iff_not] at hl
      simp only [Bool.false_eq_true, if_false]
      by_cases hk : i ≤ k
      · exact g i hk
      · rw [show i = k + 1 by omega]; omega
    · rw [lt_sv f1 f2, decide_eq_true_iff] at hl
      simp only [if_true]
      by_cases hk : i ≤ k
      · have := g i hk; omega
      · rw [show i = k + 1 by omega]; exact Int.le_refl _
end Go.Proofs.Ytiamgphpcjokmab
namespace Go.Proofs.Ytiamgphpcjokmab
open Ieee Go.RowKit
set_option linter.unusedVariables false

/-! ### A shape ends where its box ends -/
theorem fin_one : finK .f64 4607182418800017408 = true := by decide +kernel
theorem fin_mone : finK .f64 13830554455654793216 = true := by decide +kernel
theorem fin_nought : finK .f64 0 = true := by decide +kernel
theorem round_high {t h r : Nat} (ht : Bd 40 t) (hh : Bd 40 h) (hr : Bd 40 r) (e : svK .f64 t = svK .f64 h) : eqK .f64 (moK t r 4607182418800017408) (Dv .add h r) = true := by
  obtain ⟨m1, m2⟩ := mul_d (n := 40) (m := 0) hr u_one fin_one
  have b := bd_add hh hr (by decide)
  have k := add_sv hh.2.1 hr.2.1 ht.2.1 m1 (dv_res (some_add hh.2.1 hr.2.1)) (dv_res (some_add ht.2.1 m1)) b.2.1 (by rw [m2, e]; omega)
  exact sv_eq k.1 b.2.1 k.2
theorem round_low {t h r : Nat} (ht : Bd 40 t) (hh : Bd 40 h) (hr : Bd 40 r) (e : svK .f64 t = svK .f64 h) : eqK .f64 (moK t r 13830554455654793216) (Dv .sub h r) = true := by
  obtain ⟨m1, m2⟩ := mul_d (n := 40) (m := 0) hr u_minus fin_mone
  have b := bd_sub hh hr (by decide)
  have hn := bd_neg hr
  have k := add_sv hh.2.1 hn.2.1 ht.2.1 m1 (res_sub_add hr.1 (dv_res (some_sub hh.2.1 hr.2.1 hr.1))) (dv_res (some_add ht.2.1 m1)) b.2.1 (by rw [m2, e, sv_neg _ hr.1]; omega)
  exact sv_eq k.1 b.2.1 k.2
/-- along the four axes -/
theorem dt_x1 {x y : Nat} (hx : Bd 40 x) (hy : Bd 40 y) : finK .f64 (dtK x y 4607182418800017408 0) = true ∧ svK .f64 (dtK x y 4607182418800017408 0) = svK .f64 x := dtU hx hy u_one u_nought fin_one fin_nought hx.2.1 (by omega)
theorem dt_y1 {x y : Nat} (hx : Bd 40 x) (hy : Bd 40 y) : finK .f64 (dtK x y 0 4607182418800017408) = true ∧ svK .f64 (dtK x y 0 4607182418800017408) = svK .f64 y := dtU hx hy u_nought u_one fin_nought fin_one hy.2.1 (by omega)
theorem dt_xm {x y : Nat} (hx : Bd 40 x) (hy : Bd 40 y) : finK .f64 (dtK x y 13830554455654793216 0) = true ∧ svK .f64 (dtK x y 13830554455654793216 0) = -svK .f64 x := by
  have := dtU (c := Op.negFloat .f64 x) hx hy u_minus u_nought fin_mone fin_nought (bd_neg hx).2.1 (by rw [sv_neg _ hx.1]; omega)
  rwa [sv_neg _ hx.1] at this
theorem dt_ym {x y : Nat} (hx : Bd 40 x) (hy : Bd 40 y) : finK .f64 (dtK x y 0 13830554455654793216) = true ∧ svK .f64 (dtK x y 0 13830554455654793216) = -svK .f64 y := by
  have := dtU (c := Op.negFloat .f64 y) hx hy u_nought u_minus fin_nought fin_mone (bd_neg hy).2.1 (by rw [sv_neg _ hy.1]; omega)
  rwa [sv_neg _ hy.1] at this
theorem far_high {xs ys f : Nat → Nat} {n p q : Nat} (hn : 0 < n) (hb : ∀ i, i < n → Bd 40 (f i)) (hd : ∀ i, i < n → finK .f64 (dtK (xs i) (ys i) p q) = true ∧ svK .f64 (dtK (xs i) (ys i) p q) = svK .f64 (f i)) : eqK .f64 (f (farK xs ys p q (n - 1))) (highK f (n - 1)) = true := by
  have fl := far_le xs ys p q (n - 1)
  obtain ⟨j, hj, e, g⟩ := high_sv (f := f) (m := 40) (n - 1) (fun i hi => hb i (by omega))
  have mx := farK_max (xs := xs) (ys := ys) (p := p) (q := q) (n := n) (fun i hi => (hd i hi).1) (n - 1) (by omega) j hj
  rw [(hd j (by omega)).2, (hd _ (by omega)).2] at mx
  have g2 := g (farK xs ys p q (n - 1)) fl
  exact sv_eq (hb _ (by omega)).2.1 (low_bd (n - 1) (fun i hi => hb i (by omega))).2.2.1 (by omega)
theorem far_low {xs ys f : Nat → Nat} {n p q : Nat} (hn : 0 < n) (hb : ∀ i, i < n → Bd 40 (f i)) (hd : ∀ i, i < n → finK .f64 (dtK (xs i) (ys i) p q) = true ∧ svK .f64 (dtK (xs i) (ys i) p q) = -svK .f64 (f i)) : eqK .f64 (f (farK xs ys p q (n - 1))) (lowK f (n - 1)) = true := by
  have fl := far_le xs ys p q (n - 1)
  obtain ⟨j, hj, e, g⟩ := low_sv (f := f) (m := 40) (n - 1) (fun i hi => hb i (by omega))
  have mx := farK_max (xs := xs) (ys := ys) (p := p) (q := q) (n := n) (fun i hi => (hd i hi).1) (n - 1) (by omega) j hj
  rw [(hd j (by omega)).2, (hd _ (by omega)).2] at mx
  have g2 := g (farK xs ys p q (n - 1)) fl
  exact sv_eq (hb _ (by omega)).2.1 (low_bd (n - 1) (fun i hi => hb i (by omega))).1.2.1 (by omega)
/-- a capsule's tip -/
theorem tip_high {xs ys f : Nat → Nat} {p q : Nat} (hb : ∀ i, i < 2 → Bd 40 (f i)) (hd : ∀ i, i < 2 → finK .f64 (dtK (xs i) (ys i) p q) = true ∧ svK .f64 (dtK (xs i) (ys i) p q) = svK .f64 (f i)) : svK .f64 (if tpB xs ys p q then f 1 else f 0) = svK .f64 (highK f 1) := by
  have e : svK .f64 (highK f 1) = max (svK .f64 (f 0)) (svK .f64 (f 1)) := most_sv (hb 0 (by decide)).2.1 (hb 1 (by decide)).2.1
  obtain ⟨a1, a2⟩ := hd 0 (by decide)
  obtain ⟨b1, b2⟩ := hd 1 (by decide)
  unfold tpB
  rw [lt_sv a1 b1, a2, b2, e]
  by_cases h : svK .f64 (f 0) < svK .f64 (f 1)
  · rw [decide_eq_true h, if_pos rfl]; omega
  · rw [decide_eq_false h, if_neg (by decide)]; omega
theorem tip_low {xs ys f : Nat → Nat} {p q : Nat} (hb : ∀ i, i < 2 → Bd 40 (f i)) (hd : ∀ i, i < 2 → finK .f64 (dtK (xs i) (ys i) p q) = true ∧ svK .f64 (dtK (xs i) (ys i) p q) = -svK .f64 (f i)) : svK .f64 (if tpB xs ys p q then f 1 else f 0) = svK .f64 (lowK f 1) := by
  have e : svK .f64 (lowK f 1) = min (svK .f64 (f 0)) (svK .f64 (f 1)) := least_sv (hb 0 (by decide)).2.1 (hb 1 (by decide)).2.1
  obtain ⟨a1, a2⟩ := hd 0 (by decide)
  obtain ⟨b1, b2⟩ := hd 1 (by decide)
  unfold tpB
  rw [lt_sv a1 b1, a2, b2, e]
  by_cases h : svK .f64 (f 1) < svK .f64 (f 0)
  · rw [decide_eq_true (by omega), if_pos rfl]; omega
  · rw [decide_eq_false (by omega), if_neg (by decide)]; omega
/-! ### A shape has its own points -/
theorem sub_self {x n : Nat} (h : Bd n x) : finK .f64 (Dv .sub x x) = true ∧ svK .f64 (Dv .sub x x) = 0 := by
  have := sub_exact h.1 h.2.1 h.2.1 fin_nought (dv_res (some_sub h.2.1 h.2.1 h.1)) (by rw [show svK .f64 0 = 0 by decide +kernel]; omega)
  rwa [show svK .f64 0 = 0 by decide +kernel] at this
theorem sv_zero {x : Nat} : svK .f64 x = 0 ↔ rgK .f64 x = 0 := by
  have h := mg_zero (x := x)
  unfold mg at h
  rw [← h]
  unfold svK
  split <;> omega
theorem mul_zero_l {x y : Nat} (fx : finK .f64 x = true) (fy : finK .f64 y = true) (h : svK .f64 x = 0) : finK .f64 (Dv .mul x y) = true ∧ svK .f64 (Dv .mul x y) = 0 := by
  have e := mul_spec x y fx fy
  rw [sv_zero.1 h, vl_nought, Nat.zero_mul, rr_zero, Nat.zero_min] at e
  have e2 := res_is (dv_res (some_mul fx fy)) e
  obtain ⟨k1, k2⟩ := sv_word (ngK .f64 x ^^ ngK .f64 y) (show 0 < infK .f64 by rw [inf64]; decide)
  rw [← e2] at k1 k2
  refine ⟨k1, ?_⟩
  rw [k2, vl_nought]; simp
theorem mul_zero_r {x y : Nat} (fx : finK .f64 x = true) (fy : finK .f64 y = true) (h : svK .f64 y = 0) : finK .f64 (Dv .mul x y) = true ∧ svK .f64 (Dv .mul x y) = 0 :=
  mul_nought fx (sv_zero.1 h) (dv_res (some_mul fx fy))
theorem le_sv {a b : Nat} (fa : finK .f64 a = true) (fb : finK .f64 b = true) : leK .f64 a b = decide (svK .f64 a ≤ svK .f64 b) := by
  have h2 := wo_sv a b
  unfold leK
  rw [fin_num fa, fin_num fb]
  simp only [Bool.not_false, Bool.true_and]
  rw [decide_eq_decide]
  exact h2
theorem dot_zero {a b c d : Nat} (fa : finK .f64 a = true) (fb : finK .f64 b = true) (fc : finK .f64 c = true) (fd : finK .f64 d = true) (ha : svK .f64 a = 0) (hb : svK .f64 b = 0) : finK .f64 (dtK a b c d) = true ∧ svK .f64 (dtK a b c d) = 0 := by
  obtain ⟨p1, p2⟩ := mul_zero_l fa fc ha
  obtain ⟨q1, q2⟩ := mul_zero_l fb fd hb
  have := add_exact p1 q1 fin_nought (dv_res (some_add p1 q1)) (by rw [p2, q2]; decide +kernel)
  rwa [show svK .f64 0 = 0 by decide +kernel] at this
theorem sq_nonneg {r : Nat} (hr : Bd 40 r) : finK .f64 (Dv .mul r r) = true ∧ 0 ≤ svK .f64 (Dv .mul r r) := by
  have b := bd_mul hr hr (by decide)
  refine ⟨b.2.1, ?_⟩
  have e := mul_spec r r hr.2.1 hr.2.1
  have e2 := res_is (dv_res (some_mul hr.2.1 hr.2.1)) e
  rw [Bool.xor_self] at e2
  have hlt : min (rr FloatKind.f64.format (vl FloatKind.f64.format (rgK .f64 r) * vl FloatKind.f64.format (rgK .f64 r)) 1074) (infK .f64) < infK .f64 := by
    have f := b.2.1
    rw [e2] at f
    unfold finK at f
    rw [rgK_word _ _ _ (Nat.min_le_right _ _)] at f
    exact of_decide_eq_true f
  have := (sv_word false hlt).2
  rw [e2, this]
  simp
theorem own_circle {x y r : Nat} (hx : Bd 40 x) (hy : Bd 40 y) (hr : Bd 40 r) : hcB x y r x y = true := by
  obtain ⟨a1, a2⟩ := sub_self hx
  obtain ⟨b1, b2⟩ := sub_self hy
  obtain ⟨d1, d2⟩ := dot_zero a1 b1 a1 b1 a2 b2
  obtain ⟨m1, m2⟩ := sq_nonneg hr
  unfold hcB
  rw [le_sv d1 m1, d2]
  exact decide_eq_true m2
end Go.Proofs.Ytiamgphpcjokmab
namespace Go.Proofs.Ytiamgphpcjokmab
open Ieee Go.RowKit
set_option linter.unusedVariables false

theorem quo_of_zero {x y : Nat} (fx : finK .f64 x = true) (fy : finK .f64 y = true) (h0 : mg y ≠ 0) (hx : svK .f64 x = 0) : finK .f64 (Dv .quo x y) = true ∧ svK .f64 (Dv .quo x y) = 0 := by
  obtain ⟨Q, r, _, _, _, e, _, hz⟩ := quo_near fx fy h0
  rw [hz (mg_zero.2 (sv_zero.1 hx)), Nat.zero_min] at e
  have e2 := res_is (dv_res (some_quo fx fy h0)) e
  obtain ⟨k1, k2⟩ := sv_word (ngK .f64 x ^^ ngK .f64 y) (show 0 < infK .f64 by rw [inf64]; decide)
  rw [← e2] at k1 k2
  refine ⟨k1, ?_⟩
  rw [k2, vl_nought]; simp
theorem sub_same {x y n : Nat} (hx : Bd n x) (hy : Bd n y) (e : svK .f64 x = svK .f64 y) : finK .f64 (Dv .sub x y) = true ∧ svK .f64 (Dv .sub x y) = 0 := by
  have := sub_exact hy.1 hx.2.1 hy.2.1 fin_nought (dv_res (some_sub hx.2.1 hy.2.1 hy.1)) (by rw [e, show svK .f64 0 = 0 by decide +kernel]; omega)
  rwa [show svK .f64 0 = 0 by decide +kernel] at this
theorem add_zero_sv {x z n : Nat} (hx : Bd n x) (fz : finK .f64 z = true) (hz : svK .f64 z = 0) : finK .f64 (Dv .add x z) = true ∧ svK .f64 (Dv .add x z) = svK .f64 x :=
  add_exact hx.2.1 fz hx.2.1 (dv_res (some_add hx.2.1 fz)) (by rw [hz]; omega)
theorem own_capsule {xs ys : Nat → Nat} {r : Nat} (g : Gd xs ys 2) (hr : Bd 40 r) (hc : cpB (xs 0) (ys 0) (xs 1) (ys 1) = false) (b1 : Bd 200 (nxX xs ys (xs 0) (ys 0))) (b2 : Bd 200 (nxY xs ys (xs 0) (ys 0))) : hcB (nxX xs ys (xs 0) (ys 0)) (nxY xs ys (xs 0) (ys 0)) r (xs 0) (ys 0) = true := by
  obtain ⟨g1, g2⟩ := g 0 (by decide)
  obtain ⟨w1, w2⟩ := cw_bd g
  obtain ⟨_, l2⟩ := sq_low w1 w2 hc
  obtain ⟨a1, a2⟩ := sub_self g1
  obtain ⟨c1, c2⟩ := sub_self g2
  obtain ⟨d1, d2⟩ := dot_zero a1 c1 w1.2.1 w2.2.1 a2 c2
  have fd := (bd_dt w1 w2 w1 w2 (by decide)).2.1
  obtain ⟨q1, q2⟩ := quo_of_zero d1 fd l2 d2
  have ct : ctK xs ys (xs 0) (ys 0) = 0 := by
    unfold ctK clK
    rw [if_pos]
    rw [lt_sv fin_nought q1, q2, show svK .f64 0 = 0 by decide +kernel]
    rfl
  obtain ⟨m1, m2⟩ := mul_zero_l (x := 0) (y := cwK xs) fin_nought w1.2.1 (by decide +kernel)
  obtain ⟨n1, n2⟩ := mul_zero_l (x := 0) (y := cwK ys) fin_nought w2.2.1 (by decide +kernel)
  have ex : svK .f64 (nxX xs ys (xs 0) (ys 0)) = svK .f64 (xs 0) := by unfold nxX moK; rw [ct]; exact (add_zero_sv g1 m1 m2).2
  have ey : svK .f64 (nxY xs ys (xs 0) (ys 0)) = svK .f64 (ys 0) := by unfold nxY moK; rw [ct]; exact (add_zero_sv g2 n1 n2).2
  obtain ⟨s1, s2⟩ := sub_same (n := 200) (bd_mono g1 (by decide)) b1 ex.symm
  obtain ⟨t1, t2⟩ := sub_same (n := 200) (bd_mono g2 (by decide)) b2 ey.symm
  obtain ⟨d1, d2⟩ := dot_zero s1 t1 s1 t1 s2 t2
  obtain ⟨m1, m2⟩ := sq_nonneg hr
  unfold hcB
  rw [le_sv d1 m1, d2]
  exact decide_eq_true m2
theorem mul_swap {x y : Nat} (fx : finK .f64 x = true) (fy : finK .f64 y = true) : Dv .mul x y = Dv .mul y x := by
  have e := mul_spec x y fx fy
  rw [Nat.mul_comm, Bool.xor_comm, ← mul_spec y x fy fx] at e
  unfold Dv
  rw [e]
theorem cr_own {ax ay : Nat} (h1 : Bd 42 ax) (h2 : Bd 42 ay) : ltK .f64 (crK ax ay ax ay) 0 = false := by
  have b := bd_mul h1 h2 (by decide)
  unfold crK
  rw [mul_swap h2.2.1 h1.2.1]
  obtain ⟨f, e⟩ := sub_self b
  rw [lt_sv f fin_nought, e, show svK .f64 0 = 0 by decide +kernel]
  rfl
theorem cr_zero {ax ay bx b_y : Nat} (h1 : Bd 42 ax) (h2 : Bd 42 ay) (f1 : finK .f64 bx = true) (f2 : finK .f64 b_y = true) (e1 : svK .f64 bx = 0) (e2 : svK .f64 b_y = 0) : ltK .f64 (crK ax ay bx b_y) 0 = false := by
  obtain ⟨p1, p2⟩ := mul_zero_r h1.2.1 f2 e2
  obtain ⟨q1, q2⟩ := mul_zero_r h2.2.1 f1 e1
  have oq : okK .f64 (Dv .mul ay bx) := (dv_res (some_mul h2.2.1 f1)).1
  have := sub_exact oq p1 q1 fin_nought (dv_res (some_sub p1 q1 oq)) (by rw [p2, q2]; decide +kernel)
  unfold crK
  rw [lt_sv this.1 fin_nought, this.2]
  decide +kernel
end Go.Proofs.Ytiamgphpcjokmab
