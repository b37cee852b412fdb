/-
  Plain facts on floats, more: rounding to the nearest rung, sums and products of finite floats, signs turned. No program is named here.
-/
import Derived.Test.YtoofbfjlgablkaaMob
namespace Go.Proofs.Ytoofbfjlgablkaa
open Ieee Go.RowKit
set_option linter.unusedSimpArgs false
set_option linter.unusedVariables false

/-! ### About the centre and about another place, on floats -/
theorem o_sub {x y r : Nat} (oy : okK .f64 y) (h : resK .sub .f64 x y r) : resK .add .f64 x (Op.negFloat .f64 y) r := by
  unfold resK at *; rwa [← sub_is_add _ _ _ oy]
theorem o_word (s : Bool) {r : Nat} (h : r < infK .f64) : finK .f64 (FloatKind.f64.format.word s r) = true ∧ svK .f64 (FloatKind.f64.format.word s r) = if s then -(vl FloatKind.f64.format r : Int) else (vl FloatKind.f64.format r : Int) := by
  have h' := Nat.le_of_lt h
  refine ⟨by unfold finK; rw [rgK_word _ _ _ h']; exact decide_eq_true h, by unfold svK; rw [ngK_word _ _ _ h', rgK_word _ _ _ h']⟩
theorem o_abs (c : Nat) : (svK .f64 c).natAbs = vl FloatKind.f64.format (rgK .f64 c) := by unfold svK; split <;> simp
/-- a sum that lies no farther out than some finite float is finite -/
theorem o_fin {p q r c : Nat} (fp : finK .f64 p = true) (fq : finK .f64 q = true) (fc : finK .f64 c = true) (h : resK .add .f64 p q r) (e : (svK .f64 p + svK .f64 q).natAbs ≤ (svK .f64 c).natAbs) : finK .f64 r = true := by
  have k := res_is h (add_spec .f64 p q fp fq)
  rw [k, fin_word]
  have re := rr_exact FloatKind.f64.format fb1 (rgK .f64 c) 0
  rw [Nat.pow_zero, Nat.mul_one] at re
  rw [o_abs c] at e
  have m := rr_mono FloatKind.f64.format fb1 0 e
  rw [re] at m
  have hc : rgK .f64 c < infK .f64 := of_decide_eq_true fc
  exact decide_eq_true (Nat.lt_of_le_of_lt m hc)
theorem o_add {p q r c : Nat} (fp : finK .f64 p = true) (fq : finK .f64 q = true) (fc : finK .f64 c = true) (h : resK .add .f64 p q r) (e : svK .f64 p + svK .f64 q = svK .f64 c) : finK .f64 r = true ∧ svK .f64 r = svK .f64 c := by
  have k := add_spec .f64 p q fp fq
  rw [e, o_abs] at k
  have re := rr_exact FloatKind.f64.format fb1 (rgK .f64 c) 0
  rw [Nat.pow_zero, Nat.mul_one] at re
  have hc : rgK .f64 c < infK .f64 := of_decide_eq_true fc
  rw [re, Nat.min_eq_left (Nat.le_of_lt hc)] at k
  have e2 := res_is h k
  obtain ⟨k1, k2⟩ := o_word (if svK .f64 c = 0 then ngK .f64 p && ngK .f64 q else decide (svK .f64 c < 0)) hc
  rw [← e2] at k1 k2
  refine ⟨k1, ?_⟩
  rw [k2, ← o_abs]
  by_cases z : svK .f64 c = 0
  · rw [z]; simp
  · rw [if_neg z]
    by_cases l : svK .f64 c < 0
    · rw [if_pos (decide_eq_true l)]; omega
    · rw [if_neg (by simpa using l)]; omega
theorem o_rg {x : Nat} (h : svK .f64 x = 0) : rgK .f64 x = 0 := by
  have := o_abs x
  rw [h] at this
  rcases Nat.eq_zero_or_pos (rgK .f64 x) with g | g
  · exact g
  · have := vl_lt FloatKind.f64.format g
    rw [vl_zero] at this
    omega
theorem o_mul0 {a u p : Nat} (fa : finK .f64 a = true) (fu : finK .f64 u = true) (hu : svK .f64 u = 0) (h : resK .mul .f64 a u p) : finK .f64 p = true ∧ svK .f64 p = 0 := by
  have e := mul_spec a u fa fu
  rw [o_rg hu, vl_zero, Nat.mul_zero, rr_zero, Nat.zero_min] at e
  have e2 := res_is h e
  obtain ⟨k1, k2⟩ := o_word (ngK .f64 a ^^ ngK .f64 u) (show 0 < infK .f64 by rw [inf64]; decide)
  rw [← e2] at k1 k2
  refine ⟨k1, ?_⟩
  rw [k2, vl_zero]; simp
theorem o_zero : svK .f64 0 = 0 := by decide +kernel
theorem o_self {c x : Nat} (oc : okK .f64 c) (fc : finK .f64 c = true) (h : resK .sub .f64 c c x) : finK .f64 x = true ∧ svK .f64 x = 0 := by
  have fn : finK .f64 (Op.negFloat .f64 c) = true := by unfold finK; rw [(neg_facts .f64 c oc).1]; exact fc
  have := o_add (c := 0) fc fn (by decide +kernel) (o_sub oc h) (by rw [sv_neg c oc, o_zero]; omega)
  rwa [o_zero] at this
theorem end_fin {a : Nat} (h : endB a = true) : finK .f64 a = true ∧ 0 ≤ woK .f64 a := by
  unfold endB leK at h
  simp only [Bool.and_eq_true, decide_eq_true_eq] at h
  exact ⟨h.2, by have := h.1.2; rwa [show woK .f64 0 = 0 by decide +kernel] at this⟩
theorem o_sv {a : Nat} (h : 0 ≤ woK .f64 a) : 0 ≤ svK .f64 a := by
  rw [woK_eq] at h
  unfold svK
  split at h
  · rename_i hn
    rw [if_pos hn]
    rw [show rgK .f64 a = 0 by omega, vl_zero]
    simp
  · rename_i hn
    rw [if_neg hn]
    omega
theorem o_eq {a b : Nat} (fa : finK .f64 a = true) (fb : finK .f64 b = true) (h : svK .f64 a = svK .f64 b) : woK .f64 a = woK .f64 b := by
  have h1 := (wo_sv a b).2 (by omega)
  have h2 := (wo_sv b a).2 (by omega)
  omega
/-- about its centre a mass is as hard to turn as it says -/
theorem about_self {m i cx cy r : Nat} (hm : endB m = true) (hi : endB i = true) (ox : okK .f64 cx) (oy : okK .f64 cy) (fx : finK .f64 cx = true) (fy : finK .f64 cy = true) (h : AboutR m i cx cy cx cy r) : finK .f64 r = true ∧ woK .f64 r = woK .f64 i := by
  obtain ⟨x, y, s, q, ⟨h1, h2⟩, ⟨p1, p2, d1, d2, d3⟩, h3, h4⟩ := h
  obtain ⟨x1, x2⟩ := o_self ox fx h1
  obtain ⟨y1, y2⟩ := o_self oy fy h2
  obtain ⟨a1, a2⟩ := o_mul0 x1 x1 x2 d1
  obtain ⟨b1, b2⟩ := o_mul0 y1 y1 y2 d2
  obtain ⟨s1, s2⟩ := o_add (c := 0) a1 b1 (by decide +kernel) d3 (by rw [a2, b2, o_zero]; rfl)
  rw [o_zero] at s2
  obtain ⟨q1, q2⟩ := o_mul0 (end_fin hm).1 s1 s2 h3
  obtain ⟨r1, r2⟩ := o_add (c := i) (end_fin hi).1 q1 (end_fin hi).1 h4 (by rw [q2]; omega)
  exact ⟨r1, o_eq r1 (end_fin hi).1 r2⟩
theorem about_eq {m i cx cy r : Nat} (hm : endB m = true) (hi : endB i = true) (ox : okK .f64 cx) (oy : okK .f64 cy) (fx : finK .f64 cx = true) (fy : finK .f64 cy = true) (h : AboutR m i cx cy cx cy r) : eqK .f64 r i = true := by
  obtain ⟨h1, h2⟩ := about_self hm hi ox oy fx fy h
  unfold eqK
  rw [fin_num h1, fin_num (end_fin hi).1, h2]
  simp
/-- a square of what is finite -/
theorem o_square {x s : Nat} (fx : finK .f64 x = true) (h : resK .mul .f64 x x s) : ngK .f64 s = false ∧ nanK .f64 s = false := by
  have e := res_is h (mul_spec x x fx fx)
  rw [e, Bool.xor_self]
  exact ⟨ngK_word .f64 _ _ (Nat.min_le_right _ _), nan_word .f64 _ _ (Nat.min_le_right _ _)⟩
theorem o_inf_add {i q r : Nat} (fi : finK .f64 i = true) (nq : nanK .f64 q = false) (hq : finK .f64 q = false) (h : resK .add .f64 i q r) : r = FloatKind.f64.format.word (ngK .f64 q) (infK .f64) := by
  refine res_is h ?_
  have e0 : floatBits .add .f64 i q = ((FloatKind.f64.format.read i).sum (FloatKind.f64.format.read q)).map FloatKind.f64.format.write := rfl
  obtain ⟨n, p, e', hv', hn⟩ := read_num64 i fi
  rw [e0, read_inf _ (okF .f64) q (fin_inf hq nq), e']
  rfl
theorem o_lt {r i : Nat} (h : nanK .f64 r = true ∨ woK .f64 i ≤ woK .f64 r) : ltK .f64 r i = false := by
  unfold ltK
  rcases h with h | h
  · rw [h]; rfl
  · rw [decide_eq_false (by omega)]; simp
/-- about another place it is no less -/
theorem about_more {m i cx cy px py r a : Nat} (hm : endB m = true) (hi : endB i = true) (fx : Bd 40 cx) (fy : Bd 40 cy) (gx : Bd 40 px) (gy : Bd 40 py) (h : AboutR m i cx cy px py r) (ha : woK .f64 a = woK .f64 i) : ltK .f64 r a = false := by
  obtain ⟨x, y, s, q, ⟨h1, h2⟩, ⟨p1, p2, d1, d2, d3⟩, h3, h4⟩ := h
  have bx : Bd 42 x := by rw [res_is h1 (v := Dv .sub px cx) (by obtain ⟨v, hv⟩ := Option.isSome_iff_exists.1 (some_sub gx.2.1 fx.2.1 fx.1); rw [hv, dv_some hv])]; exact bd_sub gx fx (by decide)
  have by' : Bd 42 y := by rw [res_is h2 (v := Dv .sub py cy) (by obtain ⟨v, hv⟩ := Option.isSome_iff_exists.1 (some_sub gy.2.1 fy.2.1 fy.1); rw [hv, dv_some hv])]; exact bd_sub gy fy (by decide)
  have bm : ∀ {u p : Nat}, Bd 42 u → resK .mul .f64 u u p → Bd 85 p := fun {u p} bu hp => by
    rw [res_is hp (v := Dv .mul u u) (by obtain ⟨v, hv⟩ := Option.isSome_iff_exists.1 (some_mul bu.2.1 bu.2.1); rw [hv, dv_some hv])]; exact bd_mul bu bu (by decide)
  have b1 := bm bx d1
  have b2 := bm by' d2
  have n1 := (o_square bx.2.1 d1).1
  have n2 := (o_square by'.2.1 d2).1
  have bs : Bd 87 s := by rw [res_is d3 (v := Dv .add p1 p2) (by obtain ⟨v, hv⟩ := Option.isSome_iff_exists.1 (some_add b1.2.1 b2.2.1); rw [hv, dv_some hv])]; exact bd_add b1 b2 (by decide)
  have ns : ngK .f64 s = false := by
    have e := res_is d3 (add_spec .f64 p1 p2 b1.2.1 b2.2.1)
    rw [e, ngK_word .f64 _ _ (Nat.min_le_right _ _), n1, n2]
    have v1 : 0 ≤ svK .f64 p1 := by unfold svK; rw [n1]; simp
    have v2 : 0 ≤ svK .f64 p2 := by unfold svK; rw [n2]; simp
    split
    · rfl
    · exact decide_eq_false (by omega)
  obtain ⟨fm, wm⟩ := end_fin hm
  obtain ⟨fi, wi⟩ := end_fin hi
  have eq := res_is h3 (mul_spec m s fm bs.2.1)
  rw [ns, Bool.xor_false] at eq
  have nq : nanK .f64 q = false := by rw [eq]; exact nan_word .f64 _ _ (Nat.min_le_right _ _)
  have gq : ngK .f64 q = ngK .f64 m := by rw [eq]; exact ngK_word .f64 _ _ (Nat.min_le_right _ _)
  -- what is nought may have a minus: no matter
  have zq : ngK .f64 m = true → rgK .f64 q = 0 := by
    intro g
    rw [woK_eq, if_pos g] at wm
    have z : rgK .f64 m = 0 := by omega
    rw [eq, z, vl_zero, Nat.zero_mul, rr_zero, Nat.zero_min]
    exact rgK_word _ _ _ (Nat.zero_le _)
  have wq : 0 ≤ woK .f64 q := by
    rw [woK_eq, gq]
    cases g : ngK .f64 m
    · simp
    · rw [zq g]; simp
  refine o_lt (.inr ?_)
  rw [ha]
  cases hq : finK .f64 q
  · have e := o_inf_add fi nq hq h4
    have gf : ngK .f64 m = false := by
      cases g : ngK .f64 m
      · rfl
      · have z := zq g
        unfold finK at hq
        rw [z, inf64] at hq
        cases hq
    rw [gq, gf] at e
    rw [e, wo_word .f64 _ _ (Nat.le_refl _)]
    have hr : rgK .f64 i < infK .f64 := of_decide_eq_true fi
    rw [woK_eq]
    split
    · simp only [Bool.false_eq_true, if_false]; omega
    · simp only [Bool.false_eq_true, if_false]; omega
  · have e := res_is h4 (add_spec .f64 i q fi hq)
    have v1 := o_sv wi
    have v2 := o_sv wq
    have re := rr_exact FloatKind.f64.format fb1 (rgK .f64 i) 0
    rw [Nat.pow_zero, Nat.mul_one] at re
    have hr : rgK .f64 i < infK .f64 := of_decide_eq_true fi
    have mo := rr_mono FloatKind.f64.format fb1 0 (show vl FloatKind.f64.format (rgK .f64 i) ≤ (svK .f64 i + svK .f64 q).natAbs by rw [← o_abs]; omega)
    rw [re] at mo
    rw [e, wo_word .f64 _ _ (Nat.min_le_right _ _)]
    have hle : rgK .f64 i ≤ min (rr FloatKind.f64.format (svK .f64 i + svK .f64 q).natAbs 0) (infK .f64) := Nat.le_min.2 ⟨mo, Nat.le_of_lt hr⟩
    have hwi : woK .f64 i ≤ (rgK .f64 i : Int) := by rw [woK_eq]; split <;> omega
    clear mo re hr e
    by_cases z : svK .f64 i + svK .f64 q = 0
    · rw [if_pos z]
      have zi : svK .f64 i = 0 := by omega
      have z2 := o_rg zi
      rw [z2] at hwi
      rw [z, show ((0 : Int)).natAbs = 0 from rfl, rr_zero, Nat.zero_min]
      split
      · simpa using hwi
      · simpa using hwi
    · rw [if_neg z, decide_eq_false (show ¬ svK .f64 i + svK .f64 q < 0 by omega)]
      simp only [Bool.false_eq_true, if_false]
      generalize min (rr FloatKind.f64.format (svK .f64 i + svK .f64 q).natAbs 0) (infK .f64) = R at *
      exact Int.le_trans hwi (Int.ofNat_le.2 hle)
end Go.Proofs.Ytoofbfjlgablkaa
