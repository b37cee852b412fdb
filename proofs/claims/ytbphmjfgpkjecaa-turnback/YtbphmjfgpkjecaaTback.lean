/-
  Plain facts on floats, more: rounding to the nearest rung, sums and products of finite floats, signs turned. No program is named here.
-/
import Derived.Test.YtbphmjfgpkjecaaTlong
namespace Go.Proofs.Ytbphmjfgpkjecaa
open Ieee Go.RowKit
set_option linter.unusedSimpArgs false
set_option linter.unusedVariables false

/-! ### What is turned is turned back -/
theorem res_mul_neg {y v q : Nat} (oy : okK .f64 y) (h : resK .mul .f64 (Op.negFloat .f64 y) v q) : resK .mul .f64 y v (Op.negFloat .f64 q) := by
  refine ⟨neg_ok h.1, ?_⟩
  have e := mul_neg_l .f64 y v oy
  cases g : floatBits .mul .f64 y v with
  | none =>
    rw [g] at e
    exact .inr ⟨rfl, by rw [neg_nan _ _ h.1]; exact res_nan h e⟩
  | some z =>
    rw [g] at e
    rw [res_is h e, neg_neg]
    exact .inl rfl
theorem res_add_sub {x y r : Nat} (oy : okK .f64 y) (h : resK .add .f64 x y r) : resK .sub .f64 x (Op.negFloat .f64 y) r := by
  unfold resK at *
  rwa [sub_is_add _ _ _ (neg_ok oy), neg_neg]
theorem then_undo {x y u v r i : Nat} (oy : okK .f64 y) (h : ThenR x (Op.negFloat .f64 y) u v r i) : UndoR x y u v r i := by
  obtain ⟨p, q, c, d, h1, h2, h3, h4, h5, h6⟩ := h
  exact ⟨p, _, c, _, h1, res_mul_neg oy h2, h3, res_mul_neg oy h4, res_sub_add h2.1 h5, res_add_sub h4.1 h6⟩
theorem then_cross {x y u v r i : Nat} (oy : okK .f64 y) (h : ThenR x (Op.negFloat .f64 y) u v r i) : CrossR x y u v i := by
  obtain ⟨p, q, c, d, h1, h2, h3, h4, h5, h6⟩ := h
  exact ⟨c, _, h3, res_mul_neg oy h4, res_add_sub h4.1 h6⟩
theorem cross_fin {x y u v c : Nat} (fx : finK .f64 x = true) (fy : finK .f64 y = true) (fu : finK .f64 u = true) (fv : finK .f64 v = true) (bx : ab (rv x) ≤ 2) (b_y : ab (rv y) ≤ 2) (bu : ab (rv u) ≤ 2) (bv : ab (rv v) ≤ 2) (h : CrossR x y u v c) : finK .f64 c = true := by
  obtain ⟨p, q, h1, h2, h3⟩ := h
  obtain ⟨f1, b1, _⟩ := mul_rv2 fx fv h1 bx bv (by decide +kernel) (by decide +kernel)
  obtain ⟨f2, b2, _⟩ := mul_rv2 fy fu h2 b_y bu (by decide +kernel) (by decide +kernel)
  exact (sub_rv2 h2.1 f1 f2 h3 b1 b2 (by decide +kernel)).1
theorem turn_two {x y s : Nat} (h : DotR x y x y s) (c : chk s = true) : finK .f64 x = true ∧ finK .f64 y = true ∧ ab (rv x) ≤ 2 ∧ ab (rv y) ≤ 2 := by
  unfold chk at c
  rw [Bool.and_eq_true] at c
  obtain ⟨fx, fy, _, b1, b2⟩ := turn_num h c.1 c.2
  have k : (1 : Rat) + 1 / 4 ≤ 2 := by decide +kernel
  exact ⟨fx, fy, Rat.le_trans b1 k, Rat.le_trans b2 k⟩
theorem angle_anti {x y u v s t r i r' i' : Nat} (oy : okK .f64 y) (ov : okK .f64 v) (hx : DotR x y x y s) (c1 : chk s = true) (hu : DotR u v u v t) (c2 : chk t = true) (h : ThenR x (Op.negFloat .f64 y) u v r i) (g : ThenR u (Op.negFloat .f64 v) x y r' i') : eqK .f64 i (Op.negFloat .f64 i') = true := by
  obtain ⟨fx, fy, bx, b_y⟩ := turn_two hx c1
  obtain ⟨fu, fv, bu, bv⟩ := turn_two hu c2
  have k := cross_anti (then_cross oy h) (then_cross ov g)
  rw [k.2, fin_num (cross_fin fx fy fu fv bx b_y bu bv (then_cross oy h))]
  rfl
theorem angle_self {x y s r i : Nat} (oy : okK .f64 y) (hx : DotR x y x y s) (c1 : chk s = true) (h : ThenR x (Op.negFloat .f64 y) x y r i) : eqK .f64 i 0 = true := by
  obtain ⟨fx, fy, bx, b_y⟩ := turn_two hx c1
  obtain ⟨p, q, h1, h2, h3⟩ := then_cross oy h
  obtain ⟨f1, _, _⟩ := mul_rv2 fx fy h1 bx b_y (by decide +kernel) (by decide +kernel)
  obtain ⟨f2, _, _⟩ := mul_rv2 fy fx h2 b_y bx (by decide +kernel) (by decide +kernel)
  rcases smK_cases (res_congr (smK_self _ _) (smK_self _ _) h1 (res_mul_comm h2)) with e | ⟨e, _⟩
  · subst e
    rw [res_is h3 (self_sub_bits p f1 h1.1)]
    decide +kernel
  · rw [fin_num f1] at e; cases e

/-- the word of a float without its sign -/
theorem rgw (x : Nat) : rgK .f64 (rgK .f64 x) = rgK .f64 x ∧ ngK .f64 (rgK .f64 x) = false ∧ okK .f64 (rgK .f64 x) := by
  refine ⟨by rw [rg64, rg64]; omega, by rw [ng64, rg64, beq_eq_false_iff_ne]; omega, by rw [okK64, rg64]; omega⟩
theorem rg_av (x : Nat) : av (rgK .f64 x) = av x := by unfold av mg; rw [(rgw x).1]
theorem rg_rv (x : Nat) : rv (rgK .f64 x) = av x := by rw [rv_pos (rgw x).2.1, rg_av]
theorem rg_fin (x : Nat) : finK .f64 (rgK .f64 x) = finK .f64 x := by unfold finK; rw [(rgw x).1]

/-- nought stays nought -/
theorem nought_then {x y u v A B : Nat} (fx : finK .f64 x = true) (fy : finK .f64 y = true) (hu : rgK .f64 u = 0) (hv : rgK .f64 v = 0) (h : ThenR x y u v A B) : rgK .f64 A = 0 ∧ rgK .f64 B = 0 := by
  have f0 : finK .f64 0 = true := by decide +kernel
  have s0 : svK .f64 0 = 0 := by decide +kernel
  obtain ⟨p, q, c, d, h1, h2, h3, h4, h5, h6⟩ := h
  obtain ⟨f1, e1⟩ := mul_nought fx hu h1
  obtain ⟨f2, e2⟩ := mul_nought fy hv h2
  obtain ⟨f3, e3⟩ := mul_nought fx hv h3
  obtain ⟨f4, e4⟩ := mul_nought fy hu h4
  obtain ⟨g1, g2⟩ := sub_exact h2.1 f1 f2 f0 h5 (by rw [e1, e2, s0]; rfl)
  obtain ⟨g3, g4⟩ := add_exact f3 f4 f0 h6 (by rw [e3, e4, s0]; rfl)
  have z : ∀ {a : Nat}, svK .f64 a = svK .f64 0 → rgK .f64 a = 0 := by
    intro a e
    rw [s0] at e
    have k := sv_abs a
    rw [e] at k
    exact mg_zero.1 k.symm
  exact ⟨z g2, z g4⟩
theorem nought_sub {a b d : Nat} (ob : okK .f64 b) (ha : rgK .f64 a = 0) (hb : rgK .f64 b = 0) (h : resK .sub .f64 a b d) : rgK .f64 d = 0 := by
  have f0 : finK .f64 0 = true := by decide +kernel
  have s0 : svK .f64 0 = 0 := by decide +kernel
  have z : ∀ {a : Nat}, rgK .f64 a = 0 → finK .f64 a = true ∧ svK .f64 a = 0 := by
    intro a e
    refine ⟨by unfold finK; rw [e, inf64]; rfl, ?_⟩
    have k := sv_abs a
    rw [e, vl_nought] at k
    omega
  obtain ⟨fa, ea⟩ := z ha
  obtain ⟨fb, eb⟩ := z hb
  obtain ⟨_, g⟩ := sub_exact ob fa fb f0 h (by rw [ea, eb, s0]; rfl)
  rw [s0] at g
  have k := sv_abs d
  rw [g] at k
  exact mg_zero.1 k.symm

def smallK (x : Nat) : Bool := eqK .f64 (rgK .f64 x) 0 || (leK .f64 3256102530588868608 (rgK .f64 x) && leK .f64 (rgK .f64 x) 5958262307011166208)
theorem small_num {x : Nat} (h : smallK x = true) : finK .f64 x = true ∧ (rgK .f64 x = 0 ∨ 1 / 2 ^ 300 ≤ av x) ∧ av x ≤ 2 ^ 300 := by
  unfold smallK at h
  rw [Bool.or_eq_true, Bool.and_eq_true] at h
  obtain ⟨w1, w2, w3⟩ := rgw x
  rcases h with h | ⟨h1, h2⟩
  · rw [eqK_nought, w1] at h
    have z := of_decide_eq_true h
    refine ⟨by unfold finK; rw [z, inf64]; rfl, .inl z, ?_⟩
    have : av x = av 0 := by unfold av mg; rw [z, nought_rg]
    rw [this]
    decide +kernel
  · obtain ⟨f, b⟩ := fin_of_le (by decide +kernel) w2 (by decide +kernel) h2
    rw [rg_fin] at f
    rw [rg_av] at b
    obtain ⟨_, c⟩ := av_of_le (by decide +kernel) (by decide +kernel) h1
    rw [rg_av] at c
    refine ⟨f, .inr ?_, ?_⟩
    · exact Rat.le_trans (by decide +kernel) c
    · exact Rat.le_trans b (by decide +kernel)

/-- the errors one after another -/
theorem back_last {e h M C u d m0 s most t : Rat} (he : 0 ≤ e) (he1 : e * 1048576 ≤ 1) (h0 : 0 ≤ h) (hh : h ≤ e * e * M) (hM : 0 ≤ M)
    (b : ab (C - u) ≤ 9000 * (e * M)) (hd : ns e h (C - u) d) (hs : M ≤ s) (hm : ns e h s m0) (m00 : 0 ≤ m0) (ht : t = 32768 * e) (hq : ns e h (t * m0) most) (q0 : 0 ≤ most) : ab d ≤ most := by
  unfold ns at *
  have eM : 0 ≤ e * M := Rat.mul_nonneg he hM
  have eeM : e * (e * M) * 1048576 ≤ e * M := by
    have := Rat.mul_le_mul_of_nonneg_left he1 eM
    grind
  -- d
  have d1 : ab d ≤ ab (C - u) + ab (C - u - d) := by
    have := ab_sub (C - u) (C - u - d)
    rw [show C - u - (C - u - d) = d by grind] at this
    exact this
  have hh2 : h * 1048576 ≤ e * M := by grind
  have dn := ab_nn d
  have k1 : e * ab d * 1048576 ≤ ab d := by
    have := Rat.mul_le_mul_of_nonneg_left he1 dn
    grind
  have d2 : ab d ≤ 9002 * (e * M) := by grind
  -- m0
  rw [ab_pos m00] at hm
  obtain ⟨m1, _⟩ := ab_two hm
  have k2 : e * m0 * 1048576 ≤ m0 := by
    have := Rat.mul_le_mul_of_nonneg_left he1 m00
    grind
  have k3 : e * M * 1048576 ≤ M := by
    have := Rat.mul_le_mul_of_nonneg_left he1 hM
    grind
  have m2 : M ≤ 2 * m0 := by grind
  -- most
  rw [ab_pos q0] at hq
  obtain ⟨q1, _⟩ := ab_two hq
  have k4 : e * most * 1048576 ≤ most := by
    have := Rat.mul_le_mul_of_nonneg_left he1 q0
    grind
  have k5 : e * M ≤ 2 * (e * m0) := by
    have := Rat.mul_le_mul_of_nonneg_left m2 he
    grind
  subst ht
  grind
theorem mostOf {u v M : Rat} (h : M = if u ≤ v then v else u) (hu : 0 ≤ u) (hv : 0 ≤ v) : u ≤ M ∧ v ≤ M ∧ M ≤ u + v ∧ (M = u ∨ M = v) := by
  subst h
  split
  · exact ⟨by assumption, by grind, by grind, .inr rfl⟩
  · exact ⟨by grind, by grind, by grind, .inl rfl⟩
theorem le_not_lt {d m : Nat} (fd : finK .f64 d = true) (fm : finK .f64 m = true) (nm : ngK .f64 m = false) (h : av d ≤ av m) : ltK .f64 m (rgK .f64 d) = false := by
  refine not_lt_of_le (le_of_av (rgw d).2.1 nm (by rw [rg_fin]; exact fd) fm ?_)
  rw [rg_av]; exact h
theorem sign_add {a b r : Nat} (fa : finK .f64 a = true) (fb : finK .f64 b = true) (na : ngK .f64 a = false) (nb : ngK .f64 b = false) (h : resK .add .f64 a b r) : ngK .f64 r = false := by
  have e := res_is h (add_spec .f64 a b fa fb)
  rw [e, ngK_word _ _ _ (Nat.min_le_right _ _), na, nb]
  have h1 : 0 ≤ svK .f64 a := by unfold svK; rw [na]; simp
  have h2 : 0 ≤ svK .f64 b := by unfold svK; rw [nb]; simp
  split
  · rfl
  · exact decide_eq_false (by omega)
theorem sign_mul {a b r : Nat} (fa : finK .f64 a = true) (fb : finK .f64 b = true) (na : ngK .f64 a = false) (nb : ngK .f64 b = false) (h : resK .mul .f64 a b r) : ngK .f64 r = false := by
  have e := res_is h (mul_spec a b fa fb)
  rw [e, ngK_word _ _ _ (Nat.min_le_right _ _), na, nb]
  rfl
def tenW : Nat := 4436045632959938560
theorem tenW_fin : finK .f64 tenW = true := by decide +kernel
theorem tenW_ng : ngK .f64 tenW = false := by decide +kernel
theorem tenW_rv : rv tenW = 32768 * epR := by decide +kernel
theorem M_low {M : Rat} (h : 1 / 2 ^ 300 ≤ M) : etR ≤ epR * epR * M ∧ etR ≤ epR * M := by
  have e0 : 0 ≤ epR := by decide +kernel
  have k : etR ≤ epR * epR * (1 / 2 ^ 300) := by decide +kernel
  have k2 : etR ≤ epR * (1 / 2 ^ 300) := by decide +kernel
  exact ⟨Rat.le_trans k (rmul h (Rat.mul_nonneg e0 e0)), Rat.le_trans k2 (rmul h e0)⟩
theorem M_high {M : Rat} (h : M ≤ 2 ^ 300) : M * 4096 + 2 ≤ 2 ^ 1000 ∧ (M * 65536) * 2 + 2 ≤ 2 ^ 1000 := by
  have k : (2 : Rat) ^ 300 * 4096 + 2 ≤ 2 ^ 1000 := by decide +kernel
  have k2 : ((2 : Rat) ^ 300 * 65536) * 2 + 2 ≤ 2 ^ 1000 := by decide +kernel
  generalize (2 : Rat) ^ 300 = H at *
  generalize (2 : Rat) ^ 1000 = K at *
  exact ⟨by grind, by grind⟩
/-- one part: it is back up to the bound, all rounded -/
theorem part_back {C u d m0 most s0 s1 : Nat} {M : Rat} (ou : okK .f64 u) (fC : finK .f64 C = true) (fu : finK .f64 u = true) (hM1 : 1 / 2 ^ 300 ≤ M) (hM2 : M ≤ 2 ^ 300) (bu : av u ≤ M) (b : ab (rv C - rv u) ≤ 9000 * (epR * M))
    (f0 : finK .f64 s0 = true) (f1 : finK .f64 s1 = true) (n0 : ngK .f64 s0 = false) (n1 : ngK .f64 s1 = false) (b0 : av s0 ≤ M) (b1 : av s1 ≤ M) (hs : M ≤ av s0 + av s1) (hm : resK .add .f64 s0 s1 m0) (hq : resK .mul .f64 tenW m0 most) (hd : resK .sub .f64 C u d) :
    ltK .f64 most (rgK .f64 d) = false := by
  have e0 : 0 ≤ epR := by decide +kernel
  have M0 : 0 ≤ M := Rat.le_trans (by decide +kernel) hM1
  obtain ⟨k1, k2⟩ := M_low hM1
  obtain ⟨k3, k4⟩ := M_high hM2
  have eM : 9000 * (epR * M) ≤ M := by
    have q : epR * 9000 ≤ 1 := by decide +kernel
    have := Rat.mul_le_mul_of_nonneg_left q M0
    generalize epR = e at *
    grind
  have bC : av C ≤ 2 * M := by
    have t1 := ab_add (rv C - rv u) (rv u)
    rw [show rv C - rv u + rv u = rv C by grind, ab_rv, ab_rv] at t1
    generalize epR = e at *
    grind
  have fd : finK .f64 d = true := sub_small2 ou fC fu hd (B := M * 65536) k4 (by generalize epR = e at *; grind)
  have nd := sub_rv ou fC fu fd hd
  have fm : finK .f64 m0 = true := add_small2 f0 f1 hm (B := M * 65536) k4 (by grind)
  have nm := add_rv f0 f1 fm hm
  have sm := sign_add f0 f1 n0 n1 hm
  have bm : av m0 ≤ 4 * M := by
    have t := nm
    unfold nrS at t
    rw [rv_pos n0, rv_pos n1, rv_pos sm, ab_pos (av_nn m0)] at t
    have t2 := (ab_two t).2
    have q : epR * 16 ≤ 1 := by decide +kernel
    have q1 := Rat.mul_le_mul_of_nonneg_left q (av_nn m0)
    have q2 := Rat.mul_le_mul_of_nonneg_left q M0
    have a0 := av_nn s0
    generalize epR = e at *
    generalize etR = h at *
    grind
  have aT : av tenW = 32768 * epR := by rw [← tenW_rv, rv_pos tenW_ng]
  have fq : finK .f64 most = true := by
    refine mul_small2 tenW_fin fm hq (B := M * 65536) k4 ?_
    rw [aT]
    have q : 32768 * epR ≤ 1 := by decide +kernel
    have q1 := Rat.mul_le_mul_of_nonneg_right q (av_nn m0)
    generalize epR = e at *
    grind
  have nq := mul_rv tenW_fin fm fq hq
  have sq := sign_mul tenW_fin fm tenW_ng sm hq
  refine le_not_lt fd fq sq ?_
  rw [← ab_rv d, ← rv_pos sq]
  refine back_last (M := M) (C := rv C) (u := rv u) (m0 := rv m0) (s := rv s0 + rv s1) (t := rv tenW) e0 (by decide +kernel) (by decide +kernel) k1 M0 b nd (by rw [rv_pos n0, rv_pos n1]; exact hs) nm (by rw [rv_pos sm]; exact av_nn m0) tenW_rv nq (by rw [rv_pos sq]; exact av_nn most)

theorem turn_back {x y u v s A B C D m0 most d1 d2 : Nat} (ou : okK .f64 u) (ov : okK .f64 v) (oy : okK .f64 y) (hx : DotR x y x y s) (c : chk s = true) (su : smallK u = true) (sv : smallK v = true) (hm : resK .add .f64 (rgK .f64 u) (rgK .f64 v) m0) (hq : resK .mul .f64 tenW m0 most)
    (h1 : ThenR x y u v A B) (h2 : ThenR x (Op.negFloat .f64 y) A B C D) (g1 : resK .sub .f64 C u d1) (g2 : resK .sub .f64 D v d2) :
    ltK .f64 most (rgK .f64 d1) = false ∧ ltK .f64 most (rgK .f64 d2) = false ∧ nanK .f64 C = false ∧ nanK .f64 D = false := by
  obtain ⟨fu, lu, bu⟩ := small_num su
  obtain ⟨fv, lv, bv⟩ := small_num sv
  obtain ⟨fx, fy, bx, b_y⟩ := turn_two hx c
  by_cases z : rgK .f64 u = 0 ∧ rgK .f64 v = 0
  · obtain ⟨zu, zv⟩ := z
    obtain ⟨zA, zB⟩ := nought_then fx fy zu zv h1
    obtain ⟨zC, zD⟩ := nought_then fx (by rw [fin_neg _ oy]; exact fy) zA zB h2
    rw [zu, zv] at hm
    have e1 := res_is hm (v := 0) (by decide +kernel)
    rw [e1] at hq
    have e2 := res_is hq (v := 0) (by decide +kernel)
    rw [e2, nought_sub ou zC zu g1, nought_sub ov zD zv g2]
    exact ⟨by decide +kernel, by decide +kernel, rg_zero_nan _ _ zC, rg_zero_nan _ _ zD⟩
  · obtain ⟨M, hM⟩ : ∃ M, M = if av u ≤ av v then av v else av u := ⟨_, rfl⟩
    obtain ⟨p1, p2, p3, p4⟩ := mostOf hM (av_nn u) (av_nn v)
    have low : 1 / 2 ^ 300 ≤ M := by
      rcases lu with a | a
      · rcases lv with b | b
        · exact absurd ⟨a, b⟩ z
        · exact Rat.le_trans b p2
      · exact Rat.le_trans a p1
    have high : M ≤ 2 ^ 300 := by rcases p4 with e | e <;> rw [e] <;> assumption
    unfold chk at c
    rw [Bool.and_eq_true] at c
    obtain ⟨k1, k2⟩ := M_low low
    obtain ⟨k3, k4⟩ := M_high high
    obtain ⟨fC, fD, b1, b2⟩ := there_back (M := M) hx c.1 c.2 fu fv (by rw [ab_rv]; exact p1) (by rw [ab_rv]; exact p2) k2 k3 (then_apply h1) (then_undo oy h2)
    have w1 := rgw u
    have w2 := rgw v
    refine ⟨?_, ?_, fin_num fC, fin_num fD⟩
    · exact part_back ou fC fu low high p1 b1 (by rw [rg_fin]; exact fu) (by rw [rg_fin]; exact fv) w1.2.1 w2.2.1 (by rw [rg_av]; exact p1) (by rw [rg_av]; exact p2) (by rw [rg_av, rg_av]; exact p3) hm hq g1
    · exact part_back ov fD fv low high p2 b2 (by rw [rg_fin]; exact fu) (by rw [rg_fin]; exact fv) w1.2.1 w2.2.1 (by rw [rg_av]; exact p1) (by rw [rg_av]; exact p2) (by rw [rg_av, rg_av]; exact p3) hm hq g2
end Go.Proofs.Ytbphmjfgpkjecaa
