/-
  Plain facts on floats, more: rounding to the nearest rung, sums and products of finite floats, signs turned. No program is named here.
-/
import Derived.Test.YtpedpgpgcmhnoaaClr
namespace Go.Proofs.Ytpedpgpgcmhnoaa
open Ieee Go.RowKit
set_option linter.unusedSimpArgs false
set_option linter.unusedVariables false

/-! ### Cuts one after another: what lay within a plane stays within, up to a little -/
theorem svabs (c : Nat) : (svK .f64 c).natAbs = mg c := by unfold svK mg; split <;> simp
/-- a difference is at least as great as what it is greater than -/
theorem sub_ge {u w c : Nat} (fu : finK .f64 u = true) (fw : finK .f64 w = true) (ow : okK .f64 w) (fr : finK .f64 (Dv .sub u w) = true) (h : (svK .f64 c).natAbs ≤ (svK .f64 u - svK .f64 w).natAbs) : mg c ≤ mg (Dv .sub u w) := by
  have e : floatBits .sub .f64 u w = floatBits .add .f64 u (Op.negFloat .f64 w) := sub_is_add .f64 u w ow
  have fn : finK .f64 (Op.negFloat .f64 w) = true := by rw [fin_neg _ ow]; exact fw
  have k := add_spec .f64 u (Op.negFloat .f64 w) fu fn
  rw [sv_neg w ow, ← e] at k
  have ed := dv_some k
  have hr : rr FloatKind.f64.format (svK .f64 u + -svK .f64 w).natAbs 0 < infK .f64 := by
    rw [ed, fin_word] at fr
    exact of_decide_eq_true fr
  have em : mg (Dv .sub u w) = vl FloatKind.f64.format (rr FloatKind.f64.format (svK .f64 u + -svK .f64 w).natAbs 0) := by
    rw [ed]; exact mg_word _ _ hr
  have h1 : vl FloatKind.f64.format (rgK .f64 c) ≤ (svK .f64 u + -svK .f64 w).natAbs := by
    have := h
    rw [svabs] at this
    unfold mg at this
    rw [← Int.sub_eq_add_neg]
    exact this
  have h2 := rr_mono FloatKind.f64.format fb1 0 h1
  have h3 := rr_exact FloatKind.f64.format fb1 (rgK .f64 c) 0
  rw [Nat.pow_zero, Nat.mul_one] at h3
  rw [h3] at h2
  rw [em]
  exact vl_le _ h2
theorem sv_le0 {u : Nat} (fu : finK .f64 u = true) : leK .f64 u 0 = true ↔ svK .f64 u ≤ 0 := by
  have z : svK .f64 0 = 0 := by decide +kernel
  have h := le_rv (fin_num fu) (show nanK .f64 0 = false by decide +kernel)
  rw [h, rv_le, z]
theorem cut_ge {u w : Nat} (fu : finK .f64 u = true) (fw : finK .f64 w = true) (ow : okK .f64 w) (fr : finK .f64 (Dv .sub u w) = true) (h : leK .f64 u 0 ≠ leK .f64 w 0) : av u ≤ av (Dv .sub u w) := by
  refine mg_le_av (sub_ge fu fw ow fr ?_)
  have a := sv_le0 fu
  have b := sv_le0 fw
  by_cases h1 : svK .f64 u ≤ 0
  · have h2 : ¬ svK .f64 w ≤ 0 := fun hc => h (by rw [a.2 h1, b.2 hc])
    omega
  · have h2 : svK .f64 w ≤ 0 := by
      apply Classical.byContradiction
      intro hc
      apply h
      cases e1 : leK .f64 u 0 <;> cases e2 : leK .f64 w 0
      · rfl
      · exact absurd (b.1 e2) hc
      · exact absurd (a.1 e1) h1
      · rfl
    omega
theorem op_tight {q A B : Rat} (h : nrS q A) (hq : ab q ≤ B) (hB : 1 ≤ B) : ab A ≤ 101 / 100 * B ∧ ab (q - A) ≤ 102 / 100 * (epR * B) := by
  have e0 : (0 : Rat) ≤ epR := by decide +kernel
  have e1 : epR * 1000 ≤ 1 := by decide +kernel
  have e2 : etR * 1000 ≤ epR := by decide +kernel
  unfold nrS at h
  have t := ab_add (A - q) q
  rw [show A - q + q = A by grind] at t
  have t2 := ab_neg (q - A)
  rw [show -(q - A) = A - q by grind] at t2
  have t3 := rmul e1 (ab_nn A)
  have t4 := rmul hB e0
  have h1 : ab A ≤ 101 / 100 * B := by grind
  have t5 := rmul h1 e0
  exact ⟨h1, by grind⟩
theorem sign_of {U W D e h : Rat} (he : e * 1000 ≤ 1) (he0 : 0 ≤ e) (hd : 2 * h ≤ ab D) (hh : 0 < h) (hn : ab (U - W - D) ≤ e * ab D + h) (hs : (U ≤ 0 ∧ 0 < W) ∨ (W ≤ 0 ∧ 0 < U)) : (0 < D ∧ 0 ≤ U) ∨ (D < 0 ∧ U ≤ 0) := by
  have k := rmul he (ab_nn D)
  have h1 := ab_le (U - W - D)
  rcases hs with ⟨h2, h3⟩ | ⟨h2, h3⟩
  · right
    refine ⟨?_, h2⟩
    apply Classical.byContradiction
    intro hc
    have hD : ab D = D := ab_pos (by grind)
    grind
  · left
    refine ⟨?_, Rat.le_of_lt h3⟩
    apply Classical.byContradiction
    intro hc
    have hD : ab D = -D := by rw [← ab_neg, ab_pos (by grind)]
    grind
theorem quo_pos {Q D U e : Rat} (he : e ≤ 1) (he0 : 0 ≤ e) (h : ab (Q * D - U) ≤ e * ab U) (hs : (0 < D ∧ 0 ≤ U) ∨ (D < 0 ∧ U ≤ 0)) : 0 ≤ Q := by
  have h1 := ab_le (Q * D - U)
  rcases hs with ⟨h2, h3⟩ | ⟨h2, h3⟩
  · rw [ab_pos h3] at h
    have k := rmul he h3
    have : 0 ≤ Q * D := by grind
    apply Classical.byContradiction
    intro hc
    have hc : Q < 0 := by grind
    have := Rat.mul_lt_mul_of_pos_right hc h2
    grind
  · have hu : ab U = -U := by rw [← ab_neg, ab_pos (by grind)]
    rw [hu] at h
    have k := rmul he (show 0 ≤ -U by grind)
    have : Q * D ≤ 0 := by grind
    apply Classical.byContradiction
    intro hc
    have hc : 0 < -Q := by grind
    have h4 : 0 < -D := by grind
    have := Rat.mul_pos hc h4
    grind
theorem ctpart {Q t e h : Rat} (he : e * 1000 ≤ 1) (he0 : 0 ≤ e) (hh : h * 1000 ≤ e) (q0 : 0 ≤ Q) (q1 : Q ≤ 1 + e) (hn : ab (Q - t) ≤ e * ab t + h) : ∃ T d : Rat, t = T + d ∧ 0 ≤ T ∧ T ≤ 1 ∧ ab d ≤ 5 * e := by
  have h1 := ab_le (Q - t)
  have h2 := ab_add (t - Q) Q
  rw [show t - Q + Q = t by grind] at h2
  have h3 := ab_neg (Q - t)
  rw [show -(Q - t) = t - Q by grind] at h3
  have h4 := ab_pos q0
  have h5 := rmul he (ab_nn t)
  have h6 : ab t ≤ 2 := by grind
  have h7 := rmul h6 he0
  by_cases hq : Q ≤ 1
  · refine ⟨Q, t - Q, by grind, q0, hq, ?_⟩
    rw [h3]; grind
  · refine ⟨1, t - 1, by grind, by decide, by decide +kernel, ?_⟩
    refine ab_of ?_ ?_ <;> grind
/-- the part of the way at which two places are cut -/
theorem cut_t {k : Nat} {p : Pn} {a b : Pt} (hp : PnB p) (ha : PtB k a) (hb : PtB k b) (hk : k ≤ 600) (h : wiB p a ≠ wiB p b) : ∃ T d : Rat, rv (cuT p a b) = T + d ∧ 0 ≤ T ∧ T ≤ 1 ∧ ab d ≤ 5 * epR := by
  have e0 : (0 : Rat) ≤ epR := by decide +kernel
  have e1 : epR * 1000 ≤ 1 := by decide +kernel
  have e2 : etR * 1000 ≤ epR := by decide +kernel
  have e3 : (0 : Rat) < etR := by decide +kernel
  have e4 : 2 * etR = 1 / 2 ^ 1074 := by decide +kernel
  obtain ⟨nz, bd, bt, rq⟩ := cuT_bd hp ha hb hk h
  have fa := fr_bd hp ha hk
  have fb := fr_bd hp hb hk
  have ge := cut_ge fa.2.1 fb.2.1 fb.1 bd.2.1 h
  have rd := sub_rv fb.1 fa.2.1 fb.2.1 bd.2.1 (dv_res (some_sub fa.2.1 fb.2.1 fb.1))
  obtain ⟨Q, q1, q2⟩ := quo_rv fa.2.1 bd.2.1 nz bt.2.1 rq
  have ag := av_ge nz
  have z0 : rv 0 = 0 := by decide +kernel
  have n0 : nanK .f64 0 = false := by decide +kernel
  have ia := le_rv (fin_num fa.2.1) n0
  have ib := le_rv (fin_num fb.2.1) n0
  rw [z0] at ia ib
  have hs : (rv (frK p a) ≤ 0 ∧ 0 < rv (frK p b)) ∨ (rv (frK p b) ≤ 0 ∧ 0 < rv (frK p a)) := by
    by_cases h1 : rv (frK p a) ≤ 0
    · left
      refine ⟨h1, ?_⟩
      apply Classical.byContradiction
      intro hc
      have hc : rv (frK p b) ≤ 0 := by grind
      exact h (by unfold wiB; rw [ia.2 h1, ib.2 hc])
    · right
      refine ⟨?_, by grind⟩
      apply Classical.byContradiction
      intro hc
      apply h
      unfold wiB
      cases e1 : leK .f64 (frK p a) 0 <;> cases e2 : leK .f64 (frK p b) 0
      · rfl
      · exact absurd (ib.1 e2) hc
      · exact absurd (ia.1 e1) h1
      · rfl
  have dp : 0 < av (Dv .sub (frK p a) (frK p b)) := rlt_le (by decide +kernel) ag
  have hd := ab_rv (Dv .sub (frK p a) (frK p b))
  have hu := ab_rv (frK p a)
  rw [← e4, ← hd] at ag
  unfold nrS at rd q2
  generalize rv (Dv .sub (frK p a) (frK p b)) = D at *
  generalize rv (frK p a) = U at *
  generalize rv (frK p b) = W at *
  generalize av (Dv .sub (frK p a) (frK p b)) = N at *
  generalize av (frK p a) = X at *
  generalize rv (cuT p a b) = t at *
  have sg := sign_of e1 e0 ag e3 rd hs
  have qp := quo_pos (by grind) e0 q1 sg
  have hQ : Q ≤ 1 + epR := by
    refine Rat.le_of_mul_le_mul_right (c := N) ?_ dp
    have t1 := ab_add (Q * D - U) U
    rw [show Q * D - U + U = Q * D by grind, ab_mul, hd, hu, ab_pos qp] at t1
    rw [hu] at q1
    have t2 := rmul ge e0
    grind
  exact ctpart e1 e0 e2 qp hQ q2
/-- a cut's part, as near as it is -/
theorem cut_part2 {k a b t : Nat} {M : Rat} (ha : Bd k a) (hb : Bd k b) (ht : Bd 3 t) (t2 : ab (rv t) ≤ 101 / 100) (hk : k ≤ 600) (hM : 1 ≤ M) (h1 : ab (rv a) ≤ M) (h2 : ab (rv b) ≤ M) :
    ab (rv a + rv t * (rv b - rv a) - rv (Dv .add a (Dv .mul t (Dv .sub b a)))) ≤ 8 * (epR * M) := by
  have e0 : (0 : Rat) ≤ epR := by decide +kernel
  have bd := bd_sub hb ha (by omega)
  have bm := bd_mul ht bd (by omega)
  rw [show 3 + (k + 2) + 1 = k + 6 by omega] at bm
  have ba := bd_add (bd_mono ha (by omega : k ≤ k + 6)) bm (by omega)
  have rd := sub_rv ha.1 hb.2.1 ha.2.1 bd.2.1 (dv_res (some_sub hb.2.1 ha.2.1 ha.1))
  have rm := mul_rv ht.2.1 bd.2.1 bm.2.1 (dv_res (some_mul ht.2.1 bd.2.1))
  have ra := add_rv ha.2.1 bm.2.1 ba.2.1 (dv_res (some_add ha.2.1 bm.2.1))
  obtain ⟨d1, d2⟩ := op_tight (B := 2 * M) rd (Rat.le_trans (ab_sub _ _) (by grind)) (by grind)
  obtain ⟨m1, m2⟩ := op_tight (B := 21 / 10 * M) rm (Rat.le_trans (ab_mul_le t2 d1) (by grind)) (by grind)
  obtain ⟨a1, a2⟩ := op_tight (B := 32 / 10 * M) ra (Rat.le_trans (ab_add _ _) (by grind)) (by grind)
  generalize rv (Dv .add a (Dv .mul t (Dv .sub b a))) = C at *
  generalize rv (Dv .mul t (Dv .sub b a)) = Mm at *
  generalize rv (Dv .sub b a) = D at *
  have t1 := ab_mul_le t2 d2
  have t3 := ab_add (rv t * (rv b - rv a - D)) (rv t * D - Mm)
  have t4 := ab_add (rv t * (rv b - rv a - D) + (rv t * D - Mm)) (rv a + Mm - C)
  rw [show rv t * (rv b - rv a - D) + (rv t * D - Mm) + (rv a + Mm - C) = rv a + rv t * (rv b - rv a) - C by grind] at t4
  have k1 := Rat.mul_nonneg e0 (show 0 ≤ M by grind)
  grind
/-- a coordinate of a cut -/
theorem coord_cut {a b T d C M e : Rat} (e0 : 0 ≤ e) (hM : 1 ≤ M) (t0 : 0 ≤ T) (t1 : T ≤ 1) (hd : ab d ≤ 5 * e) (ha : ab a ≤ M) (hb : ab b ≤ M) (hC : ab (a + (T + d) * (b - a) - C) ≤ 8 * (e * M)) : ab C ≤ M + 20 * (e * M) := by
  have h1 : ab (b - a) ≤ 2 * M := Rat.le_trans (ab_sub _ _) (by grind)
  have h2 := ab_mul_le hd h1
  have h3 : ab (a + T * (b - a)) ≤ M := by
    have k1 := ab_le a
    have k2 := ab_le b
    have m1 := Rat.mul_le_mul_of_nonneg_left (show b ≤ M by grind) t0
    have m2 := Rat.mul_le_mul_of_nonneg_left (show -b ≤ M by grind) t0
    have m3 := Rat.mul_le_mul_of_nonneg_left (show a ≤ M by grind) (show 0 ≤ 1 - T by grind)
    have m4 := Rat.mul_le_mul_of_nonneg_left (show -a ≤ M by grind) (show 0 ≤ 1 - T by grind)
    refine ab_of ?_ ?_ <;> grind
  have h4 := ab_add (a + T * (b - a)) (d * (b - a))
  have h5 := ab_sub (a + T * (b - a) + d * (b - a)) (a + (T + d) * (b - a) - C)
  rw [show a + T * (b - a) + d * (b - a) - (a + (T + d) * (b - a) - C) = C by grind] at h5
  have z := Rat.mul_nonneg e0 (show 0 ≤ M by grind)
  have h6 : ab (d * (b - a)) ≤ 10 * (e * M) := by rw [show (10 : Rat) * (e * M) = 5 * e * (2 * M) by grind]; exact h2
  clear h2 h1 hd t0 t1 ha hb
  grind
/-- how far beyond a plane, as a number -/
def dR (q : Pn) (a : Pt) : Rat := rv q.1 * rv a.1 + rv q.2.1 * rv a.2 - rv q.2.2
theorem far_conv {n1 n2 F a1 a2 b1 b2 T d C1 C2 M e E : Rat} (e0 : 0 ≤ e) (hM : 1 ≤ M) (t0 : 0 ≤ T) (t1 : T ≤ 1) (hd : ab d ≤ 5 * e) (hn1 : ab n1 ≤ 11 / 10) (hn2 : ab n2 ≤ 11 / 10) (ha1 : ab a1 ≤ M) (ha2 : ab a2 ≤ M) (hb1 : ab b1 ≤ M) (hb2 : ab b2 ≤ M)
    (h1 : ab (a1 + (T + d) * (b1 - a1) - C1) ≤ 8 * (e * M)) (h2 : ab (a2 + (T + d) * (b2 - a2) - C2) ≤ 8 * (e * M)) (ga : n1 * a1 + n2 * a2 - F ≤ E) (gb : n1 * b1 + n2 * b2 - F ≤ E) : n1 * C1 + n2 * C2 - F ≤ E + 45 * (e * M) := by
  have k1 := ab_mul_le hn1 h1
  have k2 := ab_mul_le hn2 h2
  have k3 := ab_le (n1 * (a1 + (T + d) * (b1 - a1) - C1))
  have k4 := ab_le (n2 * (a2 + (T + d) * (b2 - a2) - C2))
  have d1 : ab (b1 - a1) ≤ 2 * M := Rat.le_trans (ab_sub _ _) (by grind)
  have d2 : ab (b2 - a2) ≤ 2 * M := Rat.le_trans (ab_sub _ _) (by grind)
  have w1 := ab_mul_le hd (ab_mul_le hn1 d1)
  have w2 := ab_mul_le hd (ab_mul_le hn2 d2)
  have w3 := ab_le (d * (n1 * (b1 - a1)))
  have w4 := ab_le (d * (n2 * (b2 - a2)))
  have m1 := Rat.mul_le_mul_of_nonneg_left gb t0
  have m2 := Rat.mul_le_mul_of_nonneg_left ga (show 0 ≤ 1 - T by grind)
  have key : n1 * C1 + n2 * C2 - F = (1 - T) * (n1 * a1 + n2 * a2 - F) + T * (n1 * b1 + n2 * b2 - F) + d * (n1 * (b1 - a1)) + d * (n2 * (b2 - a2)) - n1 * (a1 + (T + d) * (b1 - a1) - C1) - n2 * (a2 + (T + d) * (b2 - a2) - C2) := by grind
  rw [key]
  have z := Rat.mul_nonneg e0 (show 0 ≤ M by grind)
  grind
/-- a plane's normal is about 1 long -/
def Nrm (q : Pn) : Prop := ab (rv q.1) ≤ 11 / 10 ∧ ab (rv q.2.1) ≤ 11 / 10
theorem cut_keeps {k : Nat} {p q : Pn} {a b : Pt} {M E : Rat} (hp : PnB p) (ha : PtB k a) (hb : PtB k b) (hk : k ≤ 600) (hM : 1 ≤ M) (h : wiB p a ≠ wiB p b) (hn : Nrm q) (a1 : ab (rv a.1) ≤ M) (a2 : ab (rv a.2) ≤ M) (b1 : ab (rv b.1) ≤ M) (b2 : ab (rv b.2) ≤ M) :
    ab (rv (cuP p a b).1) ≤ M + 20 * (epR * M) ∧ ab (rv (cuP p a b).2) ≤ M + 20 * (epR * M) ∧ (dR q a ≤ E → dR q b ≤ E → dR q (cuP p a b) ≤ E + 45 * (epR * M)) := by
  have e0 : (0 : Rat) ≤ epR := by decide +kernel
  have e1 : epR * 1000 ≤ 1 := by decide +kernel
  obtain ⟨T, d, et, t0, t1, hd⟩ := cut_t hp ha hb hk h
  obtain ⟨nz, bd, bt, rq⟩ := cuT_bd hp ha hb hk h
  have t2 : ab (rv (cuT p a b)) ≤ 101 / 100 := by
    rw [et]
    refine Rat.le_trans (ab_add _ _) ?_
    rw [ab_pos t0]
    grind
  have x2 := cut_part2 ha.1 hb.1 bt t2 hk hM a1 b1
  have y2 := cut_part2 ha.2 hb.2 bt t2 hk hM a2 b2
  rw [et] at x2 y2
  exact ⟨coord_cut e0 hM t0 t1 hd a1 b1 x2, coord_cut e0 hM t0 t1 hd a2 b2 y2, fun ga gb => far_conv e0 hM t0 t1 hd hn.1 hn.2 a1 a2 b1 b2 x2 y2 ga gb⟩
end Go.Proofs.Ytpedpgpgcmhnoaa
namespace Go.Proofs.Ytpedpgpgcmhnoaa
open Ieee Go.RowKit
set_option linter.unusedSimpArgs false
set_option linter.unusedVariables false

/-! ### A polygon's sides as planes -/
theorem le_of_rv {x y : Nat} (fx : finK .f64 x = true) (fy : finK .f64 y = true) (h : rv x ≤ rv y) : leK .f64 x y = true := (le_rv (fin_num fx) (fin_num fy)).2 h
theorem within_rv {x c : Nat} (fx : finK .f64 x = true) (fc : finK .f64 c = true) (oc : okK .f64 c) (h : ab (rv x) ≤ rv c) : withinK .f64 x c = true := by
  unfold withinK
  have h1 := ab_le (rv x)
  rw [le_of_rv (by rw [fin_neg _ oc]; exact fc) fx (by rw [rv_turned oc]; grind), le_of_rv fx fc (by grind)]
  rfl
theorem sq_root {A : Rat} (h : A * A ≤ 103 / 100) : ab A ≤ 11 / 10 := by
  apply Classical.byContradiction
  intro hc
  have hc : 11 / 10 ≤ ab A := by grind
  have h1 := sq_le (show (0 : Rat) ≤ 11 / 10 by decide +kernel) hc
  have h2 : ab A * ab A = A * A := by unfold ab; split <;> grind
  rw [h2] at h1
  have : (103 / 100 : Rat) < 11 / 10 * (11 / 10) := by decide +kernel
  grind
theorem len_parts {x y p q s e h : Rat} (he : e * 1000 ≤ 1) (he0 : 0 ≤ e) (hh : h * 1000 ≤ 1) (hh0 : 0 ≤ h) (h1 : ab (x * x - p) ≤ e * ab p + h) (h2 : ab (y * y - q) ≤ e * ab q + h) (h3 : ab (p + q - s) ≤ e * ab s + h) (hs : s ≤ 1001 / 1000) (hs0 : 0 ≤ s) : x * x ≤ 103 / 100 ∧ y * y ≤ 103 / 100 := by
  have a1 := ab_le (x * x - p)
  have a2 := ab_le (y * y - q)
  have a3 := ab_le (p + q - s)
  have b1 := rmul he (ab_nn p)
  have b2 := rmul he (ab_nn q)
  have b3 := rmul he (ab_nn s)
  rw [ab_pos hs0] at *
  have x0 := rsq x
  have y0 := rsq y
  have c1 : ab p = p ∨ ab p = -p := by unfold ab; split <;> simp
  have c2 : ab q = q ∨ ab q = -q := by unfold ab; split <;> simp
  have n1 := ab_nn p
  have n2 := ab_nn q
  rcases c1 with c1 | c1 <;> rcases c2 with c2 | c2 <;> constructor <;> grind
theorem unit_side {ax ay : Nat} (h1 : Bd 42 ax) (h2 : Bd 42 ay) (h : ltK .f64 (lnK ax ay) 4472074429978902528 = false) : UnitR ay (Op.negFloat .f64 ax) (unX ay (Op.negFloat .f64 ax)) (unY ay (Op.negFloat .f64 ax)) true := by
  obtain ⟨hu, b1, b2⟩ := n_bd h1 h2 h
  obtain ⟨f, g, o, hb⟩ := ln_facts h1 h2 h
  have e := ln_right h1 h2
  refine ⟨lnK ay (Op.negFloat .f64 ax), lnK_res h2 (bd_neg h1) (by decide), ?_, ?_⟩
  · exact hu.symm
  · rw [if_pos rfl]
    unfold unX unY
    rw [hu, if_pos rfl, if_pos rfl, e]
    exact ⟨(bd_quo h2 (ln_bd h1 h2 h) hb (by decide)).2, (bd_quo (bd_neg h1) (ln_bd h1 h2 h) hb (by decide)).2⟩
theorem nrm_side {ax ay : Nat} (h1 : Bd 42 ax) (h2 : Bd 42 ay) (h : ltK .f64 (lnK ax ay) 4472074429978902528 = false) :
    leK .f64 4607182418800017376 (dtK (unX ay (Op.negFloat .f64 ax)) (unY ay (Op.negFloat .f64 ax)) (unX ay (Op.negFloat .f64 ax)) (unY ay (Op.negFloat .f64 ax))) = true ∧ leK .f64 (dtK (unX ay (Op.negFloat .f64 ax)) (unY ay (Op.negFloat .f64 ax)) (unX ay (Op.negFloat .f64 ax)) (unY ay (Op.negFloat .f64 ax))) 4607182418800017424 = true ∧ ab (rv (unX ay (Op.negFloat .f64 ax))) ≤ 11 / 10 ∧ ab (rv (unY ay (Op.negFloat .f64 ax))) ≤ 11 / 10 := by
  obtain ⟨hu, b1, b2⟩ := n_bd h1 h2 h
  have e := ln_right h1 h2
  have hl := (sq_low h2 (bd_neg h1) (by rw [e]; exact h)).1
  obtain ⟨fs, ns⟩ := sq_ng h2 (bd_neg h1) (by decide)
  have h9 : ltK .f64 (dtK ay (Op.negFloat .f64 ax) ay (Op.negFloat .f64 ax)) 553942754166571008 = false := by
    cases hc : ltK .f64 (dtK ay (Op.negFloat .f64 ax) ay (Op.negFloat .f64 ax)) 553942754166571008 with
    | false => rfl
    | true =>
      exfalso
      have := (lt_rv (fin_num fs) (show nanK .f64 553942754166571008 = false by decide +kernel)).1 hc
      rw [rv_pos ns] at this
      have c1 : rv 553942754166571008 * 2 ^ 63 < 1 := by decide +kernel
      have c2 : (0 : Rat) < 2 ^ 63 := by decide +kernel
      have c3 := Rat.mul_lt_mul_of_pos_right this c2
      generalize (2 : Rat) ^ 63 = K at *
      grind
  obtain ⟨l1, l2⟩ := unit_long (unit_side h1 h2 h) (dtK_res h2 (bd_neg h1) h2 (bd_neg h1) (by decide)) h9 (dtK_res b1 b2 b1 b2 (by decide))
  refine ⟨l1, l2, ?_⟩
  generalize unX ay (Op.negFloat .f64 ax) = x at *
  generalize unY ay (Op.negFloat .f64 ax) = y at *
  have px := bd_mul b1 b1 (by decide)
  have p_y := bd_mul b2 b2 (by decide)
  have ps := bd_add px p_y (by decide)
  have r1 := mul_rv b1.2.1 b1.2.1 px.2.1 (dv_res (some_mul b1.2.1 b1.2.1))
  have r2 := mul_rv b2.2.1 b2.2.1 p_y.2.1 (dv_res (some_mul b2.2.1 b2.2.1))
  have r3 := add_rv px.2.1 p_y.2.1 ps.2.1 (dv_res (some_add px.2.1 p_y.2.1))
  have l3 := (le_rv (fin_num ps.2.1) (show nanK .f64 4607182418800017424 = false by decide +kernel)).1 l2
  have l4 := (le_rv (show nanK .f64 4607182418800017376 = false by decide +kernel) (fin_num ps.2.1)).1 l1
  have c1 : rv 4607182418800017424 ≤ 1001 / 1000 := by decide +kernel
  have c2 : 0 ≤ rv 4607182418800017376 := by decide +kernel
  have e0 : (0 : Rat) ≤ epR := by decide +kernel
  have e1 : epR * 1000 ≤ 1 := by decide +kernel
  have e2 : etR * 1000 ≤ 1 := by decide +kernel
  have e3 : (0 : Rat) ≤ etR := by decide +kernel
  obtain ⟨k1, k2⟩ := len_parts e1 e0 e2 e3 r1 r2 r3 (Rat.le_trans l3 c1) (Rat.le_trans c2 l4)
  exact ⟨sq_root k1, sq_root k2⟩
/-- what a side's plane is -/
theorem side_far {xs ys : Nat → Nat} {n i : Nat} {M : Rat} (g : Gd xs ys n) (hi : i < n) (h : outB xs ys n i = true) (hM : 1 ≤ M) (m1 : ab (rv (xs i)) ≤ M) (m2 : ab (rv (ys i)) ≤ M) :
    Nrm (sdP xs ys n i) ∧ ab (rv (sdP xs ys n i).2.2) ≤ 23 / 10 * M ∧ ab (rv (nX xs ys n i) * rv (xs i) + rv (nY xs ys n i) * rv (ys i) - rv (sdP xs ys n i).2.2) ≤ 5 * (epR * M) := by
  obtain ⟨w1, w2⟩ := wX_bd g hi
  obtain ⟨_, n1, n2⟩ := n_bd w1 w2 (out_len h)
  obtain ⟨_, _, k1, k2⟩ := nrm_side w1 w2 (out_len h)
  obtain ⟨g1, g2⟩ := g i hi
  have bx := bd_mul n1 g1 (by decide)
  have b_y := bd_mul n2 g2 (by decide)
  have bs := bd_add bx b_y (by decide)
  have rx := mul_rv n1.2.1 g1.2.1 bx.2.1 (dv_res (some_mul n1.2.1 g1.2.1))
  have ry := mul_rv n2.2.1 g2.2.1 b_y.2.1 (dv_res (some_mul n2.2.1 g2.2.1))
  have rs := add_rv bx.2.1 b_y.2.1 bs.2.1 (dv_res (some_add bx.2.1 b_y.2.1))
  obtain ⟨x1, x2⟩ := op_tight (B := 11 / 10 * M) rx (ab_mul_le k1 m1) (by grind)
  obtain ⟨y1, y2⟩ := op_tight (B := 11 / 10 * M) ry (ab_mul_le k2 m2) (by grind)
  obtain ⟨s1, s2⟩ := op_tight (B := 225 / 100 * M) rs (Rat.le_trans (ab_add _ _) (by grind)) (by grind)
  have ef : (sdP xs ys n i).2.2 = Dv .add (Dv .mul (unX (wX ys n i) (Op.negFloat .f64 (wX xs n i))) (xs i)) (Dv .mul (unY (wX ys n i) (Op.negFloat .f64 (wX xs n i))) (ys i)) := rfl
  have en : nX xs ys n i = unX (wX ys n i) (Op.negFloat .f64 (wX xs n i)) := rfl
  have em : nY xs ys n i = unY (wX ys n i) (Op.negFloat .f64 (wX xs n i)) := rfl
  rw [ef, en, em]
  refine ⟨⟨k1, k2⟩, by grind, ?_⟩
  generalize rv (Dv .add (Dv .mul (unX (wX ys n i) (Op.negFloat .f64 (wX xs n i))) (xs i)) (Dv .mul (unY (wX ys n i) (Op.negFloat .f64 (wX xs n i))) (ys i))) = S at *
  generalize rv (Dv .mul (unX (wX ys n i) (Op.negFloat .f64 (wX xs n i))) (xs i)) = X1 at *
  generalize rv (Dv .mul (unY (wX ys n i) (Op.negFloat .f64 (wX xs n i))) (ys i)) = Y1 at *
  generalize rv (unX (wX ys n i) (Op.negFloat .f64 (wX xs n i))) = N1 at *
  generalize rv (unY (wX ys n i) (Op.negFloat .f64 (wX xs n i))) = N2 at *
  have t1 := ab_add (N1 * rv (xs i) - X1) (N2 * rv (ys i) - Y1)
  have t2 := ab_add (N1 * rv (xs i) - X1 + (N2 * rv (ys i) - Y1)) (X1 + Y1 - S)
  rw [show N1 * rv (xs i) - X1 + (N2 * rv (ys i) - Y1) + (X1 + Y1 - S) = N1 * rv (xs i) + N2 * rv (ys i) - S by grind] at t2
  have z := Rat.mul_nonneg (show (0 : Rat) ≤ epR by decide +kernel) (show 0 ≤ M by grind)
  grind
theorem side_may {xs ys : Nat → Nat} {n i : Nat} (g : Gd xs ys n) (hi : i < n) (h : outB xs ys n i = true) : pnB (sdP xs ys n i) = true := by
  obtain ⟨w1, w2⟩ := wX_bd g hi
  obtain ⟨_, n1, n2⟩ := n_bd w1 w2 (out_len h)
  obtain ⟨l1, l2, k1, k2⟩ := nrm_side w1 w2 (out_len h)
  obtain ⟨g1, g2⟩ := g i hi
  have hp := sd_bd g hi h
  obtain ⟨_, f1, _⟩ := side_far (M := 2 ^ 40) g hi h (by decide +kernel) (ab_bd g1) (ab_bd g2)
  have ds := bd_dt n1 n2 n1 n2 (by decide)
  have c2 : rv 4611686018427387904 = 2 := by decide +kernel
  have cf : rv 4796333603149578240 = 2 ^ 42 := by decide +kernel
  have q1 : (23 / 10 : Rat) * 2 ^ 40 ≤ 2 ^ 42 := by decide +kernel
  have a1 : withinK .f64 (nX xs ys n i) 4611686018427387904 = true := within_rv n1.2.1 (by decide +kernel) (by rw [okK64]; decide) (by rw [c2]; refine Rat.le_trans k1 (by decide +kernel))
  have a2 : withinK .f64 (nY xs ys n i) 4611686018427387904 = true := within_rv n2.2.1 (by decide +kernel) (by rw [okK64]; decide) (by rw [c2]; refine Rat.le_trans k2 (by decide +kernel))
  have a3 : withinK .f64 (sdP xs ys n i).2.2 4796333603149578240 = true := within_rv hp.2.2.2.1 (by decide +kernel) (by rw [okK64]; decide) (by rw [cf]; exact Rat.le_trans f1 q1)
  have l3 := (le_rv (fin_num ds.2.1) (show nanK .f64 4607182418800017424 = false by decide +kernel)).1 l2
  have l4 := (le_rv (show nanK .f64 4607182418800017376 = false by decide +kernel) (fin_num ds.2.1)).1 l1
  have a4 : leK .f64 4607182418800009216 (dtK (nX xs ys n i) (nY xs ys n i) (nX xs ys n i) (nY xs ys n i)) = true := le_of_rv (by decide +kernel) ds.2.1 (Rat.le_trans (by decide +kernel) l4)
  have a5 : leK .f64 (dtK (nX xs ys n i) (nY xs ys n i) (nX xs ys n i) (nY xs ys n i)) 4607182418800021504 = true := le_of_rv ds.2.1 (by decide +kernel) (Rat.le_trans l3 (by decide +kernel))
  unfold pnB
  have e1 : (sdP xs ys n i).1 = nX xs ys n i := rfl
  have e2 : (sdP xs ys n i).2.1 = nY xs ys n i := rfl
  rw [e1, e2, a1, a2, a3, a4, a5]
  rfl
/-- outward: the numbers -/
theorem out_rat {ax ay px q N Nx Ny Q1 Q2 X1 Y1 C M e h : Rat} (he : e * 1000 ≤ 1) (he0 : 0 < e) (hh : h * 2 ^ 40 ≤ e) (hh0 : 0 ≤ h) (hM : 1 ≤ M) (hN : 1 ≤ N * 2 ^ 30)
    (q1 : ab (Q1 * N - ay) ≤ e * ab ay) (q2 : ab (Q2 * N - -ax) ≤ e * ab ax) (n1 : ab (Q1 - Nx) ≤ e * ab Nx + h) (n2 : ab (Q2 - Ny) ≤ e * ab Ny + h) (k1 : ab Nx ≤ 11 / 10) (k2 : ab Ny ≤ 11 / 10)
    (p1 : ab px ≤ 21 / 10 * M) (p2 : ab q ≤ 21 / 10 * M) (hc : -(4 * (e * (ab ax * (21 / 10 * M) + ab ay * (21 / 10 * M)))) - 4 * h ≤ ax * q - ay * px) : Nx * px + Ny * q ≤ 60 * (e * M) := by
  have hN0 : 0 < N := by
    apply Classical.byContradiction
    intro hc
    have := Rat.mul_le_mul_of_nonneg_right (show N ≤ 0 by grind) (show (0 : Rat) ≤ 2 ^ 30 by decide +kernel)
    grind
  have eM := Rat.mul_nonneg (Rat.le_of_lt he0) (show 0 ≤ M by grind)
  have c40 : (1 : Rat) ≤ 2 ^ 40 := by decide +kernel
  have hhe : h ≤ e := by
    have := rmul c40 hh0
    grind
  have eN := Rat.mul_nonneg (Rat.le_of_lt he0) (Rat.le_of_lt hN0)
  have r1 : ab (Nx * N - ay) ≤ e * ab ay + (e * (11 / 10) + h) * N := by
    have t1 := ab_mul (Q1 - Nx) N
    rw [ab_pos (Rat.le_of_lt hN0)] at t1
    have t2 := Rat.mul_le_mul_of_nonneg_right (show ab (Q1 - Nx) ≤ e * (11 / 10) + h from Rat.le_trans n1 (by have := rmul k1 (Rat.le_of_lt he0); grind)) (Rat.le_of_lt hN0)
    have t3 := ab_sub (Q1 * N - ay) ((Q1 - Nx) * N)
    rw [show Q1 * N - ay - (Q1 - Nx) * N = Nx * N - ay by grind] at t3
    grind
  have r2 : ab (Ny * N - -ax) ≤ e * ab ax + (e * (11 / 10) + h) * N := by
    have t1 := ab_mul (Q2 - Ny) N
    rw [ab_pos (Rat.le_of_lt hN0)] at t1
    have t2 := Rat.mul_le_mul_of_nonneg_right (show ab (Q2 - Ny) ≤ e * (11 / 10) + h from Rat.le_trans n2 (by have := rmul k2 (Rat.le_of_lt he0); grind)) (Rat.le_of_lt hN0)
    have t3 := ab_sub (Q2 * N - -ax) ((Q2 - Ny) * N)
    rw [show Q2 * N - -ax - (Q2 - Ny) * N = Ny * N - -ax by grind] at t3
    grind
  have b1 : ab ay ≤ 12 / 10 * N := by
    have t1 := ab_sub (Nx * N) (Nx * N - ay)
    rw [show Nx * N - (Nx * N - ay) = ay by grind, ab_mul, ab_pos (Rat.le_of_lt hN0)] at t1
    have t2 := Rat.mul_le_mul_of_nonneg_right k1 (Rat.le_of_lt hN0)
    have t3 := rmul he (ab_nn ay)
    have t4 := rmul he (Rat.le_of_lt hN0)
    have t5 : h * N ≤ 1 / 1000 * N := Rat.mul_le_mul_of_nonneg_right (by grind) (Rat.le_of_lt hN0)
    grind
  have b2 : ab ax ≤ 12 / 10 * N := by
    have t1 := ab_sub (Ny * N - -ax) (Ny * N)
    rw [show Ny * N - -ax - Ny * N = ax by grind, ab_mul, ab_pos (Rat.le_of_lt hN0)] at t1
    have t2 := Rat.mul_le_mul_of_nonneg_right k2 (Rat.le_of_lt hN0)
    have t3 := rmul he (ab_nn ax)
    have t4 := rmul he (Rat.le_of_lt hN0)
    have t5 : h * N ≤ 1 / 1000 * N := Rat.mul_le_mul_of_nonneg_right (by grind) (Rat.le_of_lt hN0)
    grind
  -- all of it by N
  have g1 : e * ab ay + (e * (11 / 10) + h) * N ≤ 4 * (e * N) := by
    have t1 := rmul b1 (Rat.le_of_lt he0)
    have t2 := Rat.mul_le_mul_of_nonneg_right hhe (Rat.le_of_lt hN0)
    grind
  have g2 : e * ab ax + (e * (11 / 10) + h) * N ≤ 4 * (e * N) := by
    have t1 := rmul b2 (Rat.le_of_lt he0)
    have t2 := Rat.mul_le_mul_of_nonneg_right hhe (Rat.le_of_lt hN0)
    grind
  have s1 := ab_mul_le (Rat.le_trans r1 g1) p1
  have s2 := ab_mul_le (Rat.le_trans r2 g2) p2
  have s3 := (ab_le ((Nx * N - ay) * px)).1
  have s4 := (ab_le ((Ny * N - -ax) * q)).1
  have s5 : ab ax * (21 / 10 * M) + ab ay * (21 / 10 * M) ≤ 51 / 10 * (N * M) := by
    have t1 := Rat.mul_le_mul_of_nonneg_right b1 (show 0 ≤ M by grind)
    have t2 := Rat.mul_le_mul_of_nonneg_right b2 (show 0 ≤ M by grind)
    have t3 := Rat.mul_nonneg (Rat.le_of_lt hN0) (show 0 ≤ M by grind)
    clear hc s1 s2 s3 s4 r1 r2 q1 q2 n1 n2
    grind
  have s6 := rmul s5 (Rat.le_of_lt he0)
  have s7 : 4 * h ≤ e * (N * M) := by
    have t1 : h * 4 ≤ e * (1 / 2 ^ 30) := by
      have c1 : (2 : Rat) ^ 40 = 2 ^ 30 * 1024 := by decide +kernel
      have c2 : (1 : Rat) / 2 ^ 30 * 2 ^ 30 = 1 := by decide +kernel
      have c3 : (0 : Rat) < 2 ^ 30 := by decide +kernel
      refine Rat.le_of_mul_le_mul_right (c := 2 ^ 30) ?_ c3
      rw [c1] at hh
      rw [Rat.mul_assoc e, c2, Rat.mul_one]
      have := Rat.mul_nonneg hh0 (Rat.le_of_lt c3)
      clear hN c1 c2 c3
      generalize (2 : Rat) ^ 30 = K at *
      clear s1 s2 s3 s4 s5 s6 hc r1 r2 q1 q2 n1 n2 g1 g2 b1 b2 p1 p2
      grind
    have t2 : 1 / 2 ^ 30 ≤ N * M := by
      have c3 : (0 : Rat) < 2 ^ 30 := by decide +kernel
      have c2 : (1 : Rat) / 2 ^ 30 * 2 ^ 30 = 1 := by decide +kernel
      have k := Rat.mul_le_mul_of_nonneg_left hM (Rat.le_of_lt hN0)
      rw [Rat.mul_one] at k
      have k2 : 1 / 2 ^ 30 ≤ N := Rat.le_of_mul_le_mul_right (c := 2 ^ 30) (by rw [c2]; exact hN) c3
      exact Rat.le_trans k2 k
    have := rmul t2 (Rat.le_of_lt he0)
    grind
  refine Rat.le_of_mul_le_mul_right (c := N) ?_ hN0
  have key : (Nx * px + Ny * q) * N = (Nx * N - ay) * px + (Ny * N - -ax) * q - (ax * q - ay * px) := by grind
  rw [key]
  have e1 : 4 * (e * N) * (21 / 10 * M) = 84 / 10 * (e * (N * M)) := by grind
  rw [e1] at s1 s2
  have e2 : 60 * (e * M) * N = 60 * (e * (N * M)) := by grind
  rw [e2]
  generalize e * (N * M) = Z at *
  generalize e * (ab ax * (21 / 10 * M) + ab ay * (21 / 10 * M)) = Y at *
  have e3 : e * (51 / 10 * (N * M)) = 51 / 10 * (e * (N * M)) := by grind
  grind
end Go.Proofs.Ytpedpgpgcmhnoaa
namespace Go.Proofs.Ytpedpgpgcmhnoaa
open Ieee Go.RowKit
set_option linter.unusedSimpArgs false
set_option linter.unusedVariables false

theorem cross_low {a q b p P1 P2 C e h : Rat} (he : e * 1000 ≤ 1) (he0 : 0 ≤ e) (hh0 : 0 ≤ h) (h1 : ab (a * q - P1) ≤ e * ab P1 + h) (h2 : ab (b * p - P2) ≤ e * ab P2 + h) (h3 : ab (P1 - P2 - C) ≤ e * ab C + h) (hC : 0 < C) : -(2 * (e * (ab (a * q) + ab (b * p)))) - 4 * h ≤ a * q - b * p := by
  have a1 := ab_le (a * q - P1)
  have a2 := ab_le (b * p - P2)
  have a3 := ab_le (P1 - P2 - C)
  have b1 := rmul he (ab_nn P1)
  have b2 := rmul he (ab_nn P2)
  rw [ab_pos (Rat.le_of_lt hC)] at h3
  have b3 := rmul he (Rat.le_of_lt hC)
  have c1 := ab_sub (a * q) (a * q - P1)
  rw [show a * q - (a * q - P1) = P1 by grind] at c1
  have c2 := ab_sub (b * p) (b * p - P2)
  rw [show b * p - (b * p - P2) = P2 by grind] at c2
  have d1 := rmul c1 he0
  have d2 := rmul c2 he0
  have d3 := rmul h1 he0
  have d4 := rmul h2 he0
  have e1 : e * (e * ab P1 + h) ≤ 1 / 1000 * (e * ab P1) + h / 1000 := by
    have k1 := Rat.mul_nonneg he0 (ab_nn P1)
    have k2 := rmul he k1
    have k3 := rmul he hh0
    grind
  have e2 : e * (e * ab P2 + h) ≤ 1 / 1000 * (e * ab P2) + h / 1000 := by
    have k1 := Rat.mul_nonneg he0 (ab_nn P2)
    have k2 := rmul he k1
    have k3 := rmul he hh0
    grind
  have f1 := Rat.mul_nonneg he0 (ab_nn (a * q))
  have f2 := Rat.mul_nonneg he0 (ab_nn (b * p))
  have g1 : e * ab P1 ≤ 11 / 10 * (e * ab (a * q)) + h / 100 := by grind
  have g2 : e * ab P2 ≤ 11 / 10 * (e * ab (b * p)) + h / 100 := by grind
  clear d1 d2 d3 d4 e1 e2 b1 b2 c1 c2
  grind
theorem own_rat {Nx Ny Xk Yk Xi Yi px q F M e : Rat} (he : 0 ≤ e * M) (k1 : ab Nx ≤ 11 / 10) (k2 : ab Ny ≤ 11 / 10) (h1 : ab (Xk - Xi - px) ≤ 102 / 100 * (e * (2 * M))) (h2 : ab (Yk - Yi - q) ≤ 102 / 100 * (e * (2 * M))) (h3 : ab (Nx * Xi + Ny * Yi - F) ≤ 5 * (e * M)) (h4 : Nx * px + Ny * q ≤ 60 * (e * M)) : Nx * Xk + Ny * Yk - F ≤ 80 * (e * M) := by
  have t1 := ab_mul_le k1 h1
  have t2 := ab_mul_le k2 h2
  have s1 := (ab_le (Nx * (Xk - Xi - px))).1
  have s2 := (ab_le (Ny * (Yk - Yi - q))).1
  have s3 := (ab_le (Nx * Xi + Ny * Yi - F)).1
  have key : Nx * Xk + Ny * Yk - F = Nx * (Xk - Xi - px) + Ny * (Yk - Yi - q) + (Nx * Xi + Ny * Yi - F) + (Nx * px + Ny * q) := by grind
  rw [key]
  grind
/-- a polygon's points lie within its sides -/
theorem own_within {xs ys : Nat → Nat} {n i k : Nat} {M : Rat} (g : Gd xs ys n) (hi : i < n) (hk : k < n) (h : outB xs ys n i = true) (hM : 1 ≤ M) (hm : ∀ j, j < n → ab (rv (xs j)) ≤ M ∧ ab (rv (ys j)) ≤ M) : dR (sdP xs ys n i) (xs k, ys k) ≤ 80 * (epR * M) := by
  have e0 : (0 : Rat) < epR := by decide +kernel
  have e1 : epR * 1000 ≤ 1 := by decide +kernel
  have e2 : etR * 2 ^ 40 ≤ epR := by decide +kernel
  have e3 : (0 : Rat) ≤ etR := by decide +kernel
  have eM := Rat.mul_nonneg (Rat.le_of_lt e0) (show 0 ≤ M by grind)
  obtain ⟨w1, w2⟩ := wX_bd g hi
  have hl := out_len h
  obtain ⟨hu, n1, n2⟩ := n_bd w1 w2 hl
  obtain ⟨_, _, k1, k2⟩ := nrm_side w1 w2 hl
  obtain ⟨fl, ng, ol, hb⟩ := ln_facts w1 w2 hl
  have en := ln_right w1 w2
  have lb := ln_bd w1 w2 hl
  have nz : mg (lnK (wX xs n i) (wX ys n i)) ≠ 0 := by
    intro h0
    have : av (lnK (wX xs n i) (wX ys n i)) = 0 := by unfold av; rw [h0]; decide +kernel
    rw [this] at hb
    exact absurd hb (by decide +kernel)
  have q1 := (bd_quo w2 lb hb (by decide)).2
  have q2 := (bd_quo (bd_neg w1) lb hb (by decide)).2
  have x1 : nX xs ys n i = Dv .quo (wX ys n i) (lnK (wX xs n i) (wX ys n i)) := by unfold nX unX; rw [hu, if_pos rfl, en]
  have y1 : nY xs ys n i = Dv .quo (Op.negFloat .f64 (wX xs n i)) (lnK (wX xs n i) (wX ys n i)) := by unfold nY unY; rw [hu, if_pos rfl, en]
  have bnx : Bd 80 (nX xs ys n i) := n1
  have bny : Bd 80 (nY xs ys n i) := n2
  have kx : ab (rv (nX xs ys n i)) ≤ 11 / 10 := k1
  have ky : ab (rv (nY xs ys n i)) ≤ 11 / 10 := k2
  obtain ⟨Q1, qa, qb⟩ := quo_rv w2.2.1 fl nz (by rw [← x1]; exact bnx.2.1) q1
  obtain ⟨Q2, qc, qd⟩ := quo_rv (bd_neg w1).2.1 fl nz (by rw [← y1]; exact bny.2.1) q2
  rw [← x1] at qb
  rw [← y1] at qd
  rw [rv_turned w1.1, ab_neg] at qc
  have rN : rv (lnK (wX xs n i) (wX ys n i)) = av (lnK (wX xs n i) (wX ys n i)) := rv_pos ng
  rw [← rN] at hb
  obtain ⟨gk1, gk2⟩ := g k hk
  obtain ⟨gi1, gi2⟩ := g i hi
  obtain ⟨m1, m2⟩ := hm i hi
  obtain ⟨m3, m4⟩ := hm k hk
  have bpx := bd_sub gk1 gi1 (by decide)
  have bq := bd_sub gk2 gi2 (by decide)
  have rpx := sub_rv gi1.1 gk1.2.1 gi1.2.1 bpx.2.1 (dv_res (some_sub gk1.2.1 gi1.2.1 gi1.1))
  have rq := sub_rv gi2.1 gk2.2.1 gi2.2.1 bq.2.1 (dv_res (some_sub gk2.2.1 gi2.2.1 gi2.1))
  obtain ⟨px1, px2⟩ := op_tight (B := 2 * M) rpx (Rat.le_trans (ab_sub _ _) (by grind)) (by grind)
  obtain ⟨qx1, qx2⟩ := op_tight (B := 2 * M) rq (Rat.le_trans (ab_sub _ _) (by grind)) (by grind)
  obtain ⟨_, _, ff⟩ := side_far g hi h hM m1 m2
  have pa : ab (rv (Dv .sub (xs k) (xs i))) ≤ 21 / 10 * M := by grind
  have qa' : ab (rv (Dv .sub (ys k) (ys i))) ≤ 21 / 10 * M := by grind
  have hc : -(4 * (epR * (ab (rv (wX xs n i)) * (21 / 10 * M) + ab (rv (wX ys n i)) * (21 / 10 * M)))) - 4 * etR ≤ rv (wX xs n i) * rv (Dv .sub (ys k) (ys i)) - rv (wX ys n i) * rv (Dv .sub (xs k) (xs i)) := by
    have z1 := ab_mul_le (Rat.le_refl (a := ab (rv (wX xs n i)))) qa'
    have z2 := ab_mul_le (Rat.le_refl (a := ab (rv (wX ys n i)))) pa
    have z3 := rmul z1 (Rat.le_of_lt e0)
    have z4 := rmul z2 (Rat.le_of_lt e0)
    have z5 := Rat.mul_nonneg (Rat.le_of_lt e0) (ab_nn (rv (wX xs n i) * rv (Dv .sub (ys k) (ys i))))
    have z6 := Rat.mul_nonneg (Rat.le_of_lt e0) (ab_nn (rv (wX ys n i) * rv (Dv .sub (xs k) (xs i))))
    by_cases ek : k = i
    · subst ek
      have t1 := sub_tiny gi1 gi1 (by decide) rfl
      have t2 := sub_tiny gi2 gi2 (by decide) rfl
      have c1 : (1 : Rat) / 2 ^ 1074 ≤ epR := by decide +kernel
      rw [← ab_rv] at t1 t2
      have s1 := ab_mul_le (Rat.le_refl (a := ab (rv (wX xs n k)))) (Rat.le_trans t2 c1)
      have s2 := ab_mul_le (Rat.le_refl (a := ab (rv (wX ys n k)))) (Rat.le_trans t1 c1)
      have s3 := ab_le (rv (wX xs n k) * rv (Dv .sub (ys k) (ys k)))
      have s4 := ab_le (rv (wX ys n k) * rv (Dv .sub (xs k) (xs k)))
      have s5 := Rat.mul_le_mul_of_nonneg_left hM (Rat.mul_nonneg (ab_nn (rv (wX xs n k))) (Rat.le_of_lt e0))
      have s6 := Rat.mul_le_mul_of_nonneg_left hM (Rat.mul_nonneg (ab_nn (rv (wX ys n k))) (Rat.le_of_lt e0))
      have s7 := Rat.mul_nonneg (ab_nn (rv (wX xs n k))) (Rat.le_of_lt e0)
      have s8 := Rat.mul_nonneg (ab_nn (rv (wX ys n k))) (Rat.le_of_lt e0)
      clear z1 z2 z3 z4 z5 z6 t1 t2 qa qb qc qd px1 px2 qx1 qx2 ff kx ky k1 k2 rpx rq
      generalize rv (wX xs n k) * rv (Dv .sub (ys k) (ys k)) = A1 at *
      generalize rv (wX ys n k) * rv (Dv .sub (xs k) (xs k)) = A2 at *
      grind
    · by_cases ek2 : k = (i + 1) % n
      · have ex : Dv .sub (xs k) (xs i) = wX xs n i := by rw [ek2]; rfl
        have ey : Dv .sub (ys k) (ys i) = wX ys n i := by rw [ek2]; rfl
        rw [ex, ey]
        have y1 := Rat.mul_nonneg (Rat.le_of_lt e0) (Rat.mul_nonneg (ab_nn (rv (wX xs n i))) (show 0 ≤ 21 / 10 * M by grind))
        have y2 := Rat.mul_nonneg (Rat.le_of_lt e0) (Rat.mul_nonneg (ab_nn (rv (wX ys n i))) (show 0 ≤ 21 / 10 * M by grind))
        have : rv (wX xs n i) * rv (wX ys n i) - rv (wX ys n i) * rv (wX xs n i) = 0 := by grind
        rw [this]
        clear z1 z2 z3 z4 z5 z6 qa qb qc qd px1 px2 qx1 qx2 ff kx ky k1 k2 rpx rq
        grind
      · -- another point: left of the side
        obtain ⟨j, hj2, hjn, ejk⟩ : ∃ j, 2 ≤ j ∧ j < n ∧ k = (i + j) % n := by
          refine ⟨(k + n - i) % n, ?_, Nat.mod_lt _ (by omega), ?_⟩
          · by_cases hlt : i < k
            · rw [show k + n - i = (k - i) + n by omega, Nat.add_mod_right, Nat.mod_eq_of_lt (by omega)]
              have : k ≠ i + 1 := fun hc => ek2 (by rw [hc, Nat.mod_eq_of_lt (by omega)])
              omega
            · rw [Nat.mod_eq_of_lt (show k + n - i < n by omega)]
              by_cases h1 : k + n - i = 1
              · exfalso
                apply ek2
                have : i + 1 = n := by omega
                rw [this, Nat.mod_self]; omega
              · omega
          · rw [Nat.add_mod_mod, show i + (k + n - i) = k + n by omega, Nat.add_mod_right, Nat.mod_eq_of_lt hk]
        have hpos : ltK .f64 0 (lnS xs ys n i (xs k) (ys k)) = true := by
          have ho := h
          unfold outB at ho
          rw [Bool.and_eq_true] at ho
          have := allB_iff.1 ho.2 j hjn
          rw [← ejk] at this
          simpa [show ¬ j < 2 by omega] using this
        have bm1 := bd_mul w1 bq (by decide)
        have bm2 := bd_mul w2 bpx (by decide)
        have bc := bd_sub bm1 bm2 (by decide)
        have r1 := mul_rv w1.2.1 bq.2.1 bm1.2.1 (dv_res (some_mul w1.2.1 bq.2.1))
        have r2 := mul_rv w2.2.1 bpx.2.1 bm2.2.1 (dv_res (some_mul w2.2.1 bpx.2.1))
        have r3 := sub_rv bm2.1 bm1.2.1 bm2.2.1 bc.2.1 (dv_res (some_sub bm1.2.1 bm2.2.1 bm2.1))
        have hp := (lt_rv (show nanK .f64 0 = false by decide +kernel) (fin_num bc.2.1)).1 hpos
        rw [show rv 0 = 0 by decide +kernel] at hp
        have := cross_low e1 (Rat.le_of_lt e0) e3 r1 r2 r3 hp
        clear qa qb qc qd px1 px2 qx1 qx2 ff kx ky k1 k2 rpx rq r1 r2 r3
        generalize rv (wX xs n i) * rv (Dv .sub (ys k) (ys i)) = A1 at *
        generalize rv (wX ys n i) * rv (Dv .sub (xs k) (xs i)) = A2 at *
        grind
  unfold nrS at qb qd
  have key := out_rat e1 e0 e2 e3 hM hb qa qc qb qd kx ky pa qa' (X1 := 0) (Y1 := 0) (C := 0) hc
  exact own_rat eM kx ky px2 qx2 ff key
/-- a cut lies on its plane -/
theorem cut_on {k : Nat} {p : Pn} {a b : Pt} {M : Rat} (hp : PnB p) (ha : PtB k a) (hb : PtB k b) (hk : k ≤ 600) (hM : 1 ≤ M) (n1 : ab (rv p.1) ≤ 2) (n2 : ab (rv p.2.1) ≤ 2) (hf : ab (rv p.2.2) ≤ M) (a1 : ab (rv a.1) ≤ M) (a2 : ab (rv a.2) ≤ M) (b1 : ab (rv b.1) ≤ M) (b2 : ab (rv b.2) ≤ M) (h : wiB p a ≠ wiB p b) : dR p (cuP p a b) ≤ 5725 * (epR * M) := by
  have e0 : (0 : Rat) ≤ epR := by decide +kernel
  have e5 : etR ≤ epR := by decide +kernel
  obtain ⟨nz, bd, bt, rq⟩ := cuT_bd hp ha hb hk h
  have fa := fr_bd hp ha hk
  have fb := fr_bd hp hb hk
  obtain ⟨u1, u2⟩ := far_err hp ha hk hM n1 n2 hf a1 a2
  obtain ⟨w1, w2⟩ := far_err hp hb hk hM n1 n2 hf b1 b2
  have rd := sub_rv fb.1 fa.2.1 fb.2.1 bd.2.1 (dv_res (some_sub fa.2.1 fb.2.1 fb.1))
  obtain ⟨d1, d2⟩ := op_err (B := 68 * M) rd (Rat.le_trans (ab_sub _ _) (by grind)) (by grind)
  have t8 : ab (rv (cuT p a b)) ≤ 8 := by have := ab_bd bt; rwa [show (2 : Rat) ^ 3 = 8 by decide +kernel] at this
  obtain ⟨Q, q1, q2⟩ := quo_rv fa.2.1 bd.2.1 nz bt.2.1 rq
  have qM := rmul hM e0
  have ht : ab (rv (cuT p a b) * rv (Dv .sub (frK p a) (frK p b)) - rv (frK p a)) ≤ 1258 * (epR * M) := by
    unfold nrS at q2
    have z1 : ab (Q - rv (cuT p a b)) ≤ 9 * epR := by
      have := rmul t8 e0
      grind
    have z2 := ab_mul_le z1 d1
    have z3 := ab_sub (Q * rv (Dv .sub (frK p a) (frK p b)) - rv (frK p a)) ((Q - rv (cuT p a b)) * rv (Dv .sub (frK p a) (frK p b)))
    rw [show Q * rv (Dv .sub (frK p a) (frK p b)) - rv (frK p a) - (Q - rv (cuT p a b)) * rv (Dv .sub (frK p a) (frK p b)) = rv (cuT p a b) * rv (Dv .sub (frK p a) (frK p b)) - rv (frK p a) by grind] at z3
    have z4 := rmul u1 e0
    grind
  obtain ⟨x1, x2⟩ := cut_part ha.1 hb.1 bt hk hM a1 b1
  obtain ⟨y1, y2⟩ := cut_part ha.2 hb.2 bt hk hM a2 b2
  have key := far_mix (e := epR) (M := M) (by grind) t8 n1 n2 u2 w2 (by grind) ht x2 y2
  exact Rat.le_trans (ab_le _).1 key
/-! ### Cut by one plane, and by one after another -/
def Sz (M : Rat) (L : List Pt) : Prop := ∀ a, a ∈ L → ab (rv a.1) ≤ M ∧ ab (rv a.2) ≤ M
theorem left_of {p : Pn} {L : List Pt} {q : Pt} (h : q ∈ leftL p L) : (q ∈ L ∧ wiB p q = true) ∨ ∃ a b, a ∈ L ∧ b ∈ L ∧ wiB p a ≠ wiB p b ∧ q = cuP p a b := by
  rcases row_of _ (Nat.le_refl _) (left_mem h) with ⟨j, hj, e, hw⟩ | ⟨j, hj, hne, e⟩
  · exact .inl ⟨by rw [e]; exact pt_mem hj, hw⟩
  · exact .inr ⟨_, _, pt_mem hj, pt_mem (Nat.mod_lt _ (by omega)), hne, e⟩
theorem left_sz {k : Nat} {p : Pn} {L : List Pt} {M : Rat} (hp : PnB p) (hL : PsB k L) (hk : k ≤ 600) (hM : 1 ≤ M) (hS : Sz M L) : Sz (M + 20 * (epR * M)) (leftL p L) := by
  intro q hq
  have z := Rat.mul_nonneg (show (0 : Rat) ≤ epR by decide +kernel) (show 0 ≤ M by grind)
  rcases left_of hq with ⟨h, _⟩ | ⟨a, b, ha, hb, hne, rfl⟩
  · obtain ⟨h1, h2⟩ := hS q h
    exact ⟨by grind, by grind⟩
  · have hn : Nrm (0, 0, 0) := ⟨by decide +kernel, by decide +kernel⟩
    obtain ⟨h1, h2, _⟩ := cut_keeps (E := 0) hp (hL a ha) (hL b hb) hk hM hne hn (hS a ha).1 (hS a ha).2 (hS b hb).1 (hS b hb).2
    exact ⟨h1, h2⟩
theorem left_keep {k : Nat} {p q : Pn} {L : List Pt} {M E : Rat} (hp : PnB p) (hL : PsB k L) (hk : k ≤ 600) (hM : 1 ≤ M) (hS : Sz M L) (hn : Nrm q) (hE : ∀ a, a ∈ L → dR q a ≤ E) : ∀ a, a ∈ leftL p L → dR q a ≤ E + 45 * (epR * M) := by
  intro c hc
  have z := Rat.mul_nonneg (show (0 : Rat) ≤ epR by decide +kernel) (show 0 ≤ M by grind)
  rcases left_of hc with ⟨h, _⟩ | ⟨a, b, ha, hb, hne, rfl⟩
  · have := hE c h
    grind
  · exact (cut_keeps hp (hL a ha) (hL b hb) hk hM hne hn (hS a ha).1 (hS a ha).2 (hS b hb).1 (hS b hb).2).2.2 (hE a ha) (hE b hb)
theorem left_on {k : Nat} {p : Pn} {L : List Pt} {M : Rat} (hp : PnB p) (hL : PsB k L) (hk : k ≤ 600) (hM : 1 ≤ M) (hS : Sz M L) (hn : Nrm p) (hf : ab (rv p.2.2) ≤ 3 * M) : ∀ a, a ∈ leftL p L → dR p a ≤ 17175 * (epR * M) := by
  intro c hc
  have z := Rat.mul_nonneg (show (0 : Rat) ≤ epR by decide +kernel) (show 0 ≤ M by grind)
  have n1 : ab (rv p.1) ≤ 2 := Rat.le_trans hn.1 (by decide +kernel)
  have n2 : ab (rv p.2.1) ≤ 2 := Rat.le_trans hn.2 (by decide +kernel)
  rcases left_of hc with ⟨h, hw⟩ | ⟨a, b, ha, hb, hne, rfl⟩
  · have hb := hL c h
    obtain ⟨h1, h2⟩ := hS c h
    obtain ⟨_, fe⟩ := far_err (B := 3 * M) hp hb hk (by grind) n1 n2 hf (by grind) (by grind)
    have fb := fr_bd hp hb hk
    have hl := (le_rv (fin_num fb.2.1) (show nanK .f64 0 = false by decide +kernel)).1 hw
    rw [show rv 0 = 0 by decide +kernel] at hl
    have := (ab_le (rv p.1 * rv c.1 + rv p.2.1 * rv c.2 - rv p.2.2 - rv (frK p c))).1
    unfold dR
    grind
  · obtain ⟨a1, a2⟩ := hS a ha
    obtain ⟨b1, b2⟩ := hS b hb
    have := cut_on (M := 3 * M) hp (hL a ha) (hL b hb) hk (by grind) n1 n2 hf (by grind) (by grind) (by grind) (by grind) hne
    grind
/-- the sizes behind k cuts -/
def mK (M : Rat) (k : Nat) : Rat := M + 40 * (k : Rat) * (epR * M)
theorem mK_le {M : Rat} {k : Nat} (hM : 1 ≤ M) (hk : k ≤ 64) : M ≤ mK M k ∧ mK M k ≤ 101 / 100 * M := by
  have e1 : epR * (40 * 64 * 100) ≤ 1 := by decide +kernel
  have z := Rat.mul_nonneg (show (0 : Rat) ≤ epR by decide +kernel) (show 0 ≤ M by grind)
  have k0 : (0 : Rat) ≤ (k : Rat) := Rat.natCast_nonneg
  have k1 : (k : Rat) ≤ 64 := by exact_mod_cast hk
  have a1 := Rat.mul_nonneg k0 z
  have a2 := Rat.mul_le_mul_of_nonneg_right k1 z
  have a3 := rmul e1 (show 0 ≤ M by grind)
  unfold mK
  constructor <;> grind
theorem mK_step {M : Rat} {k : Nat} (hM : 1 ≤ M) (hk : k ≤ 64) : mK M k + 20 * (epR * mK M k) ≤ mK M (k + 1) := by
  obtain ⟨_, h2⟩ := mK_le hM hk
  have z := Rat.mul_nonneg (show (0 : Rat) ≤ epR by decide +kernel) (show 0 ≤ M by grind)
  have a1 := rmul h2 (show (0 : Rat) ≤ epR by decide +kernel)
  have e : mK M (k + 1) = mK M k + 40 * (epR * M) := by
    unfold mK
    rw [show ((k + 1 : Nat) : Rat) = (k : Rat) + 1 by norm_cast]
    grind
  rw [e]
  grind
theorem Sz.mono {M N : Rat} {L : List Pt} (h : Sz M L) (hn : M ≤ N) : Sz N L := fun a ha => ⟨Rat.le_trans (h a ha).1 hn, Rat.le_trans (h a ha).2 hn⟩
theorem both_sz {xs ys : Nat → Nat} {n : Nat} {L : List Pt} {M : Rat} (g : Gd xs ys n) (ho : ∀ i, i < n → outB xs ys n i = true) (hn : n ≤ 64) (hL : PsB 40 L) (hM : 1 ≤ M) (hS : Sz M L) : ∀ k, k ≤ n → Sz (mK M k) (bothL xs ys n L k) := by
  intro k
  induction k with
  | zero => intro _; exact hS.mono (mK_le hM (by omega)).1
  | succ k ih =>
    intro hk
    have hb := both_bd g ho hL hn k (by omega)
    obtain ⟨m1, _⟩ := mK_le (M := M) (k := k) hM (by omega)
    exact (left_sz (sd_bd g (by omega) (ho k (by omega))) hb (by omega) (Rat.le_trans hM m1) (ih (by omega))).mono (mK_step hM (by omega))
theorem both_keep {xs ys : Nat → Nat} {n : Nat} {L : List Pt} {M E : Rat} {q : Pn} (g : Gd xs ys n) (ho : ∀ i, i < n → outB xs ys n i = true) (hn : n ≤ 64) (hL : PsB 40 L) (hM : 1 ≤ M) (hS : Sz M L) (hq : Nrm q) (s : Nat) (hE : ∀ a, a ∈ bothL xs ys n L s → dR q a ≤ E) : ∀ d, s + d ≤ n → ∀ a, a ∈ bothL xs ys n L (s + d) → dR q a ≤ E + 46 * (d : Rat) * (epR * M) := by
  have z := Rat.mul_nonneg (show (0 : Rat) ≤ epR by decide +kernel) (show 0 ≤ M by grind)
  intro d
  induction d with
  | zero => intro _ a ha; have := hE a ha; simp; grind
  | succ d ih =>
    intro hd a ha
    have hb := both_bd g ho hL hn (s + d) (by omega)
    have hz := both_sz g ho hn hL hM hS (s + d) (by omega)
    obtain ⟨m1, m2⟩ := mK_le (M := M) (k := s + d) hM (by omega)
    have h1 := left_keep (sd_bd g (by omega) (ho (s + d) (by omega))) hb (by omega) (Rat.le_trans hM m1) hz hq (ih (by omega)) a ha
    have a1 := rmul m2 (show (0 : Rat) ≤ epR by decide +kernel)
    rw [show ((d + 1 : Nat) : Rat) = (d : Rat) + 1 by norm_cast]
    grind
theorem sixty {d : Nat} {M : Rat} (hM : 1 ≤ M) (hd : d ≤ 64) : 46 * (d : Rat) * (epR * M) ≤ 2944 * (epR * M) := by
  have z := Rat.mul_nonneg (show (0 : Rat) ≤ epR by decide +kernel) (show 0 ≤ M by grind)
  have k1 : (d : Rat) ≤ 64 := by exact_mod_cast hd
  have := Rat.mul_le_mul_of_nonneg_right k1 z
  grind
/-- within both: the second one's planes -/
theorem both_second {xs ys : Nat → Nat} {n j : Nat} {L : List Pt} {M : Rat} (g : Gd xs ys n) (ho : ∀ i, i < n → outB xs ys n i = true) (hn : n ≤ 64) (hL : PsB 40 L) (hM : 1 ≤ M) (hS : Sz M L) (hm : ∀ j, j < n → ab (rv (xs j)) ≤ M ∧ ab (rv (ys j)) ≤ M) (hj : j < n) : ∀ a, a ∈ bothL xs ys n L n → dR (sdP xs ys n j) a ≤ 20300 * (epR * M) := by
  have z := Rat.mul_nonneg (show (0 : Rat) ≤ epR by decide +kernel) (show 0 ≤ M by grind)
  obtain ⟨nr, nf, _⟩ := side_far g hj (ho j hj) hM (hm j hj).1 (hm j hj).2
  obtain ⟨m1, m2⟩ := mK_le (M := M) (k := j) hM (by omega)
  have h1 := left_on (sd_bd g hj (ho j hj)) (both_bd g ho hL hn j (by omega)) (by omega) (Rat.le_trans hM m1) (both_sz g ho hn hL hM hS j (by omega)) nr (by grind)
  have a1 := rmul m2 (show (0 : Rat) ≤ epR by decide +kernel)
  intro a ha
  have h2 := both_keep (E := 17175 * (epR * mK M j)) g ho hn hL hM hS nr (j + 1) h1 (n - (j + 1)) (by omega) a (by rw [show j + 1 + (n - (j + 1)) = n by omega]; exact ha)
  have h3 := sixty (M := M) (d := n - (j + 1)) hM (by omega)
  grind
/-- and the first one's -/
theorem both_first {xs ys : Nat → Nat} {n : Nat} {L : List Pt} {M : Rat} {q : Pn} (g : Gd xs ys n) (ho : ∀ i, i < n → outB xs ys n i = true) (hn : n ≤ 64) (hL : PsB 40 L) (hM : 1 ≤ M) (hS : Sz M L) (hq : Nrm q) (hE : ∀ a, a ∈ L → dR q a ≤ 80 * (epR * M)) : ∀ a, a ∈ bothL xs ys n L n → dR q a ≤ 20300 * (epR * M) := by
  have z := Rat.mul_nonneg (show (0 : Rat) ≤ epR by decide +kernel) (show 0 ≤ M by grind)
  intro a ha
  have h2 := both_keep (E := 80 * (epR * M)) g ho hn hL hM hS hq 0 hE n (by omega) a (by rw [Nat.zero_add]; exact ha)
  have h3 := sixty (M := M) (d := n) hM hn
  grind
theorem plane_in {k : Nat} {q : Pn} {a : Pt} {m : Nat} (hq : PnB q) (hn : Nrm q) (ha : PtB k a) (hk : k ≤ 600) (hm : Bd 43 m) (hM : 1 ≤ rv m) (hf : ab (rv q.2.2) ≤ 3 * rv m) (a1 : ab (rv a.1) ≤ 101 / 100 * rv m) (a2 : ab (rv a.2) ≤ 101 / 100 * rv m) (h : dR q a ≤ 20300 * (epR * rv m)) : leK .f64 (frK q a) (Dv .mul 4436045632959938560 m) = true := by
  have n1 : ab (rv q.1) ≤ 2 := Rat.le_trans hn.1 (by decide +kernel)
  have n2 : ab (rv q.2.1) ≤ 2 := Rat.le_trans hn.2 (by decide +kernel)
  have z := Rat.mul_nonneg (show (0 : Rat) ≤ epR by decide +kernel) (show 0 ≤ rv m by grind)
  obtain ⟨_, fe⟩ := far_err (B := 3 * rv m) hq ha hk (by grind) n1 n2 hf (by grind) (by grind)
  have fb := fr_bd hq ha hk
  obtain ⟨bl, hl⟩ := most_low hm hM
  refine (le_rv (fin_num fb.2.1) (fin_num bl.2.1)).2 ?_
  have := (ab_le (rv q.1 * rv a.1 + rv q.2.1 * rv a.2 - rv q.2.2 - rv (frK q a))).2
  unfold dR at h
  grind
end Go.Proofs.Ytpedpgpgcmhnoaa
