/-
  Plain facts on floats, more: rounding to the nearest rung, sums and products of finite floats, signs turned. No program is named here.
-/
import Derived.Test.YtbphmjfgpkjecaaTurns
namespace Go.Proofs.Ytbphmjfgpkjecaa
open Ieee Go.RowKit
set_option linter.unusedSimpArgs false
set_option linter.unusedVariables false

/-! ### Turns stay turns -/
theorem leK_trans {a b c : Nat} (h : leK .f64 a b = true) (g : leK .f64 b c = true) : leK .f64 a c = true := by
  unfold leK at *
  simp only [Bool.and_eq_true, Bool.not_eq_true', decide_eq_true_eq] at *
  exact ⟨⟨h.1.1, g.1.2⟩, Int.le_trans h.2 g.2⟩
theorem not_lt_of_le {a b : Nat} (h : leK .f64 a b = true) : ltK .f64 b a = false := by
  unfold leK at h
  unfold ltK
  simp only [Bool.and_eq_true, Bool.not_eq_true', decide_eq_true_eq] at h
  rw [h.1.1, h.1.2]
  simpa using h.2
theorem lt_le_lt {a b c : Nat} (h : ltK .f64 a b = true) (g : leK .f64 b c = true) : ltK .f64 a c = true := by
  unfold leK at g
  unfold ltK at *
  simp only [Bool.and_eq_true, Bool.not_eq_true', decide_eq_true_eq] at *
  exact ⟨⟨h.1.1, g.1.2⟩, Int.lt_of_lt_of_le h.2 g.2⟩
theorem turn_unit {x y u v s : Nat} {b : Bool} (h : DotR x y x y s) (c : chk s = true) (g : TUnitR x y u v b) : b = true := by
  obtain ⟨n, p, q, k, g1, g2, g3, g4, g5, g6, g7⟩ := g
  unfold chk at c
  rw [Bool.and_eq_true] at c
  obtain ⟨c1, c2⟩ := c
  have U : UnitR x y (if (ltK .f64 0 n && finK .f64 n) then p else 0) (if (ltK .f64 0 n && finK .f64 n) then q else 0) (ltK .f64 0 n && finK .f64 n) := by
    refine ⟨n, g1, rfl, ?_⟩
    cases ltK .f64 0 n && finK .f64 n
    · exact ⟨rfl, rfl⟩
    · exact ⟨g2, g3⟩
  have ok := unit_ok h U
  rw [lt_le_lt (show ltK .f64 0 lo40 = true by decide +kernel) c1, leK_trans c2 (show leK .f64 hi40 9218868437227405311 = true by decide +kernel)] at ok
  rw [ok] at U
  have m := unit_long U h (not_lt_of_le (leK_trans (show leK .f64 553942754166571008 lo40 = true by decide +kernel) c1)) g4
  rw [g5]
  unfold chk
  rw [leK_trans (show leK .f64 lo40 4607182418800017376 = true by decide +kernel) m.1, leK_trans m.2 (show leK .f64 4607182418800017424 hi40 = true by decide +kernel)]
  rfl
theorem unit_chk {x y u v s : Nat} (g : TUnitR x y u v true) (h : DotR u v u v s) : chk s = true := by
  obtain ⟨n, p, q, k, g1, g2, g3, g4, g5, g6, g7⟩ := g
  simp only [if_true] at g6 g7
  subst g6 g7
  rw [g5, chk_sm (h.sm g4)]
theorem tunit_no {x y u v : Nat} (g : TUnitR x y u v false) : u = 0 ∧ v = 0 := by
  obtain ⟨n, p, q, k, g1, g2, g3, g4, g5, g6, g7⟩ := g
  exact ⟨g6, g7⟩
theorem back_chk {x y s t : Nat} (oy : okK .f64 y) (h : DotR x y x y s) (g : DotR x (Op.negFloat .f64 y) x (Op.negFloat .f64 y) t) : chk t = chk s := by
  obtain ⟨p, q, g1, g2, g3⟩ := g
  exact chk_sm (DotR.sm ⟨p, q, g1, res_neg_neg oy g2, g3⟩ h)
theorem inf_words {t : Nat} (o : okK .f64 t) (h : rgK .f64 t = 9218868437227405312) : t = 9218868437227405312 ∨ t = 18442240474082181120 := by
  rw [okK64] at o
  rw [rg64] at h
  omega
theorem by_chk {t x y k : Nat} (o : okK .f64 t) (n : nanK .f64 t = false) (h : TByR t x y) (hk : DotR x y x y k) : chk k = true := by
  obtain ⟨s, h1, h2⟩ := h
  cases e : ltK .f64 9218868437227405311 s <;> rw [e] at h2
  · simp only [Bool.false_eq_true, if_false] at h2
    have ft : finK .f64 t = true := by
      cases f : finK .f64 t
      · have r := fin_inf f n
        rw [inf64] at r
        exfalso
        have : s = 9218868437227405312 := by
          rcases inf_words o r with rfl | rfl
          · exact res_is h1 (by decide +kernel)
          · exact res_is h1 (by decide +kernel)
        rw [this] at e
        exact absurd e (by decide +kernel)
      · rfl
    have ns : nanK .f64 s = false := by
      have e1 := res_is h1 (mul_spec t t ft ft)
      rw [e1]
      exact nan_word _ _ _ (Nat.min_le_right _ _)
    have sg := mul_self_sign h1 ns
    have fs : finK .f64 s = true := by
      rw [← le_most s sg ns]
      unfold ltK at e
      unfold leK
      have hM : nanK .f64 9218868437227405311 = false := by decide +kernel
      rw [ns, hM] at e
      rw [ns, hM]
      simpa using e
    obtain ⟨_, _, b1, b2⟩ := by_long ft h1 fs h2 hk
    unfold chk
    rw [b1, b2]; rfl
  · simp only [if_true] at h2
    obtain ⟨rfl, rfl⟩ := h2
    obtain ⟨p, q, k1, k2, k3⟩ := hk
    rw [res_is k1 (v := 4607182418800017408) (by decide +kernel), res_is k2 (v := 0) (by decide +kernel)] at k3
    rw [res_is k3 (v := 4607182418800017408) (by decide +kernel)]
    decide +kernel
theorem then_chk {x y u v r i s t k : Nat} (hx : DotR x y x y s) (c1 : chk s = true) (hu : DotR u v u v t) (c2 : chk t = true) (h : ThenR x y u v r i) (hk : DotR r i r i k) : leK .f64 lo38 k = true ∧ leK .f64 k hi38 = true := by
  unfold chk at c1 c2
  rw [Bool.and_eq_true] at c1 c2
  exact then_long hx c1.1 c1.2 hu c2.1 c2.2 h hk

/-! ### Quarters: parts are exchanged, nothing is rounded -/
theorem sv_word (s : Bool) {r : Nat} (h : r < infK .f64) : finK .f64 (FloatKind.f64.format.word s r) = true ∧ svK .f64 (FloatKind.f64.format.word s r) = if s then -(vl FloatKind.f64.format r : Int) else (vl FloatKind.f64.format r : Int) := by
  have h' := Nat.le_of_lt h
  refine ⟨by unfold finK; rw [rgK_word _ _ _ h']; exact decide_eq_true h, by unfold svK; rw [ngK_word _ _ _ h', rgK_word _ _ _ h']⟩
theorem mul_unit {a u p : Nat} (fa : finK .f64 a = true) (fu : finK .f64 u = true) (hu : vl FloatKind.f64.format (rgK .f64 u) = 2 ^ 1074) (h : resK .mul .f64 a u p) : finK .f64 p = true ∧ svK .f64 p = if ngK .f64 u then -svK .f64 a else svK .f64 a := by
  have e := mul_spec a u fa fu
  rw [hu] at e
  obtain ⟨t, ht⟩ : ∃ t : Nat, t = 1074 := ⟨_, rfl⟩
  rw [← ht, rr_exact _ fb1] at e
  have ha : rgK .f64 a < infK .f64 := of_decide_eq_true fa
  rw [Nat.min_eq_left (Nat.le_of_lt ha)] at e
  have e2 := res_is h e
  obtain ⟨k1, k2⟩ := sv_word (ngK .f64 a ^^ ngK .f64 u) ha
  rw [← e2] at k1 k2
  refine ⟨k1, ?_⟩
  rw [k2]; unfold svK
  cases ngK .f64 a <;> cases ngK .f64 u <;> simp
theorem vl_nought : vl FloatKind.f64.format 0 = 0 := by decide +kernel
theorem mul_nought {a u p : Nat} (fa : finK .f64 a = true) (hu : rgK .f64 u = 0) (h : resK .mul .f64 a u p) : finK .f64 p = true ∧ svK .f64 p = 0 := by
  have fu : finK .f64 u = true := by unfold finK; rw [hu, inf64]; rfl
  have e := mul_spec a u fa fu
  rw [hu, vl_nought, Nat.mul_zero, rr_zero, Nat.zero_min] at e
  have e2 := res_is h e
  obtain ⟨k1, k2⟩ := sv_word (ngK .f64 a ^^ ngK .f64 u) (show 0 < infK .f64 by rw [inf64]; decide)
  rw [← e2] at k1 k2
  refine ⟨k1, ?_⟩
  rw [k2, vl_nought]; simp
theorem sv_abs (c : Nat) : (svK .f64 c).natAbs = vl FloatKind.f64.format (rgK .f64 c) := by unfold svK; split <;> simp
theorem add_exact {p q r c : Nat} (fp : finK .f64 p = true) (fq : finK .f64 q = true) (fc : finK .f64 c = true) (h : resK .add .f64 p q r) (e : svK .f64 p + svK .f64 q = svK .f64 c) : finK .f64 r = true ∧ svK .f64 r = svK .f64 c := by
  have k := add_spec .f64 p q fp fq
  rw [e, sv_abs] at k
  have re := rr_exact FloatKind.f64.format fb1 (rgK .f64 c) 0
  rw [Nat.pow_zero, Nat.mul_one] at re
  have hc : rgK .f64 c < infK .f64 := of_decide_eq_true fc
  rw [re, Nat.min_eq_left (Nat.le_of_lt hc)] at k
  have e2 := res_is h k
  obtain ⟨k1, k2⟩ := sv_word (if svK .f64 c = 0 then ngK .f64 p && ngK .f64 q else decide (svK .f64 c < 0)) hc
  rw [← e2] at k1 k2
  refine ⟨k1, ?_⟩
  rw [k2, ← sv_abs]
  by_cases z : svK .f64 c = 0
  · rw [z]; simp
  · rw [if_neg z]
    by_cases l : svK .f64 c < 0
    · rw [if_pos (decide_eq_true l)]; omega
    · rw [if_neg (by simpa using l)]; omega
theorem sub_exact {p q r c : Nat} (oq : okK .f64 q) (fp : finK .f64 p = true) (fq : finK .f64 q = true) (fc : finK .f64 c = true) (h : resK .sub .f64 p q r) (e : svK .f64 p - svK .f64 q = svK .f64 c) : finK .f64 r = true ∧ svK .f64 r = svK .f64 c :=
  add_exact fp (by rw [fin_neg _ oq]; exact fq) fc (res_sub_add oq h) (by rw [sv_neg _ oq]; omega)
theorem sv_eq {a b : Nat} (fa : finK .f64 a = true) (fb : finK .f64 b = true) (h : svK .f64 a = svK .f64 b) : eqK .f64 a b = true := by
  have m : rgK .f64 a = rgK .f64 b := by
    have e : (svK .f64 a).natAbs = (svK .f64 b).natAbs := by rw [h]
    have m1 := (mg_rg (a := a) (b := b)).1 (by unfold mg; rw [sv_abs, sv_abs] at e; omega)
    have m2 := (mg_rg (a := b) (b := a)).1 (by unfold mg; rw [sv_abs, sv_abs] at e; omega)
    omega
  unfold eqK
  rw [fin_num fa, fin_num fb, woK_eq, woK_eq, m]
  unfold svK at h
  rw [m] at h
  by_cases z : rgK .f64 b = 0
  · rw [z]; simp
  · have v0 : vl FloatKind.f64.format (rgK .f64 b) ≠ 0 := fun g => z (mg_zero.1 g)
    generalize vl FloatKind.f64.format (rgK .f64 b) = V at *
    cases h1 : ngK .f64 a <;> cases h2 : ngK .f64 b <;> simp [h1, h2] at h ⊢ <;> omega
def isU (u : Nat) (U : Int) : Prop := (rgK .f64 u = 0 ∧ U = 0) ∨ (finK .f64 u = true ∧ vl FloatKind.f64.format (rgK .f64 u) = 2 ^ 1074 ∧ U = if ngK .f64 u then -1 else 1)
theorem mulU {a u p : Nat} {U : Int} (fa : finK .f64 a = true) (hu : isU u U) (h : resK .mul .f64 a u p) : finK .f64 p = true ∧ svK .f64 p = svK .f64 a * U := by
  rcases hu with ⟨z, rfl⟩ | ⟨fu, e, rfl⟩
  · have := mul_nought fa z h
    rwa [Int.mul_zero]
  · have := mul_unit fa fu e h
    refine ⟨this.1, ?_⟩
    rw [this.2]
    cases ngK .f64 u <;> simp
theorem thenU {a b u v r i c d : Nat} {U V : Int} (fa : finK .f64 a = true) (fb : finK .f64 b = true) (hu : isU u U) (hv : isU v V) (fc : finK .f64 c = true) (fd : finK .f64 d = true) (ec : svK .f64 a * U - svK .f64 b * V = svK .f64 c) (ed : svK .f64 a * V + svK .f64 b * U = svK .f64 d) (h : ThenR a b u v r i) :
    finK .f64 r = true ∧ finK .f64 i = true ∧ svK .f64 r = svK .f64 c ∧ svK .f64 i = svK .f64 d := by
  obtain ⟨p, q, k, l, h1, h2, h3, h4, h5, h6⟩ := h
  obtain ⟨f1, e1⟩ := mulU fa hu h1
  obtain ⟨f2, e2⟩ := mulU fb hv h2
  obtain ⟨f3, e3⟩ := mulU fa hv h3
  obtain ⟨f4, e4⟩ := mulU fb hu h4
  obtain ⟨g1, g2⟩ := sub_exact h2.1 f1 f2 fc h5 (by rw [e1, e2, ec])
  obtain ⟨g3, g4⟩ := add_exact f3 f4 fd h6 (by rw [e3, e4, ed])
  exact ⟨g1, g3, g2, g4⟩
theorem u_nought : isU 0 0 := .inl ⟨nought_rg _, rfl⟩
theorem u_minus0 : isU 9223372036854775808 0 := .inl ⟨by decide +kernel, rfl⟩
theorem u_one : isU 4607182418800017408 1 := .inr ⟨by decide +kernel, by decide +kernel, by decide +kernel⟩
theorem u_minus : isU 13830554455654793216 (-1) := .inr ⟨by decide +kernel, by decide +kernel, by decide +kernel⟩
theorem stepQ {a b r i : Nat} {X Y : Int} (ob : okK .f64 b) (fa : finK .f64 a = true) (fb : finK .f64 b = true) (ha : svK .f64 a = X) (hb : svK .f64 b = Y) (h : ThenR a b 0 4607182418800017408 r i) : finK .f64 r = true ∧ finK .f64 i = true ∧ svK .f64 r = -Y ∧ svK .f64 i = X := by
  have t := thenU (c := Op.negFloat .f64 b) (d := a) fa fb u_nought u_one (by rw [fin_neg _ ob]; exact fb) fa (by rw [sv_neg _ ob]; omega) (by omega) h
  rw [sv_neg _ ob, ha, hb] at t
  exact t
theorem stepN {a b r i : Nat} {X Y : Int} (oa : okK .f64 a) (ob : okK .f64 b) (fa : finK .f64 a = true) (fb : finK .f64 b = true) (ha : svK .f64 a = X) (hb : svK .f64 b = Y) (h : ThenR a b 13830554455654793216 0 r i) : finK .f64 r = true ∧ finK .f64 i = true ∧ svK .f64 r = -X ∧ svK .f64 i = -Y := by
  have t := thenU (c := Op.negFloat .f64 a) (d := Op.negFloat .f64 b) fa fb u_minus u_nought (by rw [fin_neg _ oa]; exact fa) (by rw [fin_neg _ ob]; exact fb) (by rw [sv_neg _ oa]; omega) (by rw [sv_neg _ ob]; omega) h
  rw [sv_neg _ ob, sv_neg _ oa, ha, hb] at t
  exact t
theorem stepT {a b r i : Nat} {X Y : Int} (oa : okK .f64 a) (fa : finK .f64 a = true) (fb : finK .f64 b = true) (ha : svK .f64 a = X) (hb : svK .f64 b = Y) (h : ThenR a b 9223372036854775808 13830554455654793216 r i) : finK .f64 r = true ∧ finK .f64 i = true ∧ svK .f64 r = Y ∧ svK .f64 i = -X := by
  have t := thenU (c := b) (d := Op.negFloat .f64 a) fa fb u_minus0 u_minus fb (by rw [fin_neg _ oa]; exact fa) (by omega) (by rw [sv_neg _ oa]; omega) h
  rw [sv_neg _ oa, ha, hb] at t
  exact t
theorem stepO {a b r i : Nat} {X Y : Int} (fa : finK .f64 a = true) (fb : finK .f64 b = true) (ha : svK .f64 a = X) (hb : svK .f64 b = Y) (h : ThenR a b 4607182418800017408 0 r i) : finK .f64 r = true ∧ finK .f64 i = true ∧ svK .f64 r = X ∧ svK .f64 i = Y := by
  have t := thenU (c := a) (d := b) fa fb u_one u_nought fa fb (by omega) (by omega) h
  rw [ha, hb] at t
  exact t
theorem then_comm {a b u v r i : Nat} (h : ThenR a b u v r i) : ThenR u v a b r i := by
  obtain ⟨p, q, k, l, h1, h2, h3, h4, h5, h6⟩ := h
  exact ⟨p, q, l, k, res_mul_comm h1, res_mul_comm h2, res_mul_comm h4, res_mul_comm h3, h5, res_add_comm h6⟩
theorem then_ii {r i : Nat} (h : ThenR 0 4607182418800017408 0 4607182418800017408 r i) : r = 13830554455654793216 ∧ i = 0 := by
  obtain ⟨p, q, c, d, h1, h2, h3, h4, h5, h6⟩ := h
  rw [res_is h1 (v := 0) (by decide +kernel), res_is h2 (v := 4607182418800017408) (by decide +kernel)] at h5
  rw [res_is h3 (v := 0) (by decide +kernel), res_is h4 (v := 0) (by decide +kernel)] at h6
  exact ⟨res_is h5 (by decide +kernel), res_is h6 (by decide +kernel)⟩
theorem then_iii {r i : Nat} (h : ThenR 0 4607182418800017408 13830554455654793216 0 r i) : r = 9223372036854775808 ∧ i = 13830554455654793216 := by
  obtain ⟨p, q, c, d, h1, h2, h3, h4, h5, h6⟩ := h
  rw [res_is h1 (v := 9223372036854775808) (by decide +kernel), res_is h2 (v := 0) (by decide +kernel)] at h5
  rw [res_is h3 (v := 0) (by decide +kernel), res_is h4 (v := 13830554455654793216) (by decide +kernel)] at h6
  exact ⟨res_is h5 (by decide +kernel), res_is h6 (by decide +kernel)⟩
theorem sv_eq_neg {a b : Nat} {X : Int} (ob : okK .f64 b) (fa : finK .f64 a = true) (fb : finK .f64 b = true) (ha : svK .f64 a = -X) (hb : svK .f64 b = X) : eqK .f64 a (Op.negFloat .f64 b) = true :=
  sv_eq fa (by rw [fin_neg _ ob]; exact fb) (by rw [sv_neg _ ob, ha, hb])
theorem small_fin {x m : Nat} (h : leK .f64 (rgK .f64 x) m = true) (fm : finK .f64 m = true) (nm : ngK .f64 m = false) : finK .f64 x = true := by
  have hr : rgK .f64 (rgK .f64 x) = rgK .f64 x := by rw [rg64, rg64]; omega
  have hn : ngK .f64 (rgK .f64 x) = false := by rw [ng64, rg64, beq_eq_false_iff_ne]; omega
  have := (fin_of_le fm hn nm h).1
  unfold finK at *
  rwa [hr] at this
end Go.Proofs.Ytbphmjfgpkjecaa
