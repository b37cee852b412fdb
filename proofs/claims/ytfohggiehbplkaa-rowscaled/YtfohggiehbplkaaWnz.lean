/-
  Plain facts on floats, more: rounding to the nearest rung, sums and products of finite floats, signs turned. No program is named here.
-/
import Derived.Test.YtfohggiehbplkaaWnv
namespace Go.Proofs.Ytfohggiehbplkaa
open Ieee Go.RowKit
set_option linter.unusedSimpArgs false
set_option linter.unusedVariables false

/-! ### Powers of two: what compares, quotients -/
theorem le_fin {x y : Nat} (nx : nanK .f64 x = false) (ny : nanK .f64 y = false) : leK .f64 x y = decide (woK .f64 x ≤ woK .f64 y) := by unfold leK; rw [nx, ny]; rfl
theorem lt_fin {x y : Nat} (nx : nanK .f64 x = false) (ny : nanK .f64 y = false) : ltK .f64 x y = decide (woK .f64 x < woK .f64 y) := by unfold ltK; rw [nx, ny]; rfl
theorem eq_fin {x y : Nat} (nx : nanK .f64 x = false) (ny : nanK .f64 y = false) : eqK .f64 x y = decide (woK .f64 x = woK .f64 y) := by unfold eqK; rw [nx, ny]; rfl
theorem sc_rg {i j x x' y y' : Nat} (h : Sc i j x x') (g : Sc i j y y') : rgK .f64 x' ≤ rgK .f64 y' ↔ rgK .f64 x ≤ rgK .f64 y := by
  rw [← mg_rg, ← mg_rg]
  have e1 := h.2.2.2.2.2
  have e2 := g.2.2.2.2.2
  have p1 := Nat.two_pow_pos i
  have p2 := Nat.two_pow_pos j
  constructor
  · intro k
    have := Nat.mul_le_mul_right (2 ^ i) k
    rw [e1, e2] at this
    exact Nat.le_of_mul_le_mul_right this p2
  · intro k
    have := Nat.mul_le_mul_right (2 ^ j) k
    rw [← e1, ← e2] at this
    exact Nat.le_of_mul_le_mul_right this p1
theorem sc_rg0 {i j x x' : Nat} (h : Sc i j x x') : rgK .f64 x' = 0 ↔ rgK .f64 x = 0 := by
  rw [← mg_zero, ← mg_zero]; exact h.zero
theorem sc_wo {i j x x' y y' : Nat} (h : Sc i j x x') (g : Sc i j y y') : woK .f64 x' ≤ woK .f64 y' ↔ woK .f64 x ≤ woK .f64 y := by
  have a := sc_rg h g
  have b := sc_rg g h
  have c := sc_rg0 h
  have d := sc_rg0 g
  rw [woK_eq, woK_eq, woK_eq, woK_eq, h.2.2.2.2.1, g.2.2.2.2.1]
  cases ngK .f64 x <;> cases ngK .f64 y <;> simp <;> omega
theorem sc_le {i j x x' y y' : Nat} (h : Sc i j x x') (g : Sc i j y y') : leK .f64 x' y' = leK .f64 x y := by
  rw [le_fin (fin_num h.1) (fin_num g.1), le_fin (fin_num h.2.1) (fin_num g.2.1)]
  exact decide_eq_decide.2 (sc_wo h g)
theorem sc_lt {i j x x' y y' : Nat} (h : Sc i j x x') (g : Sc i j y y') : ltK .f64 x' y' = ltK .f64 x y := by
  rw [lt_fin (fin_num h.1) (fin_num g.1), lt_fin (fin_num h.2.1) (fin_num g.2.1)]
  have := sc_wo g h
  exact decide_eq_decide.2 (by omega)
theorem sc_lt0 {i j x x' : Nat} (h : Sc i j x x') : ltK .f64 x' 0 = ltK .f64 x 0 ∧ ltK .f64 0 x' = ltK .f64 0 x := by
  have n0 : nanK .f64 0 = false := by decide +kernel
  have z : woK .f64 0 = 0 := by decide +kernel
  rw [lt_fin (fin_num h.1) n0, lt_fin (fin_num h.2.1) n0, lt_fin n0 (fin_num h.1), lt_fin n0 (fin_num h.2.1), z]
  have c := sc_rg0 h
  rw [woK_eq, woK_eq, h.2.2.2.2.1]
  constructor <;> apply decide_eq_decide.2 <;> cases ngK .f64 x <;> simp <;> omega

theorem lt_two53 {m p a : Nat} (h : m < 2 ^ 53) (g : 2 ^ a ≤ m * 2 ^ p) : a ≤ p + 52 := by
  apply Decidable.byContradiction
  intro n
  have h1 : m * 2 ^ p < 2 ^ 53 * 2 ^ p := Nat.mul_lt_mul_of_pos_right h (Nat.two_pow_pos p)
  rw [← Nat.pow_add] at h1
  have := Nat.pow_le_pow_right (show 0 < 2 by decide) (show 53 + p ≤ a by omega)
  omega
theorem ge_two52 {m p b : Nat} (h : 2 ^ 52 ≤ m) (g : m * 2 ^ p ≤ 2 ^ b) : p + 52 ≤ b := by
  apply Decidable.byContradiction
  intro n
  have h1 := Nat.mul_le_mul_right (2 ^ p) h
  rw [← Nat.pow_add] at h1
  have := Nat.pow_lt_pow_right (show 1 < 2 by decide) (show b < 52 + p by omega)
  omega
/-- the digits of a quotient -/
def dgQ (m k : Nat) : Nat := 2 * (m * 2 ^ 54 / k) + (m * 2 ^ 54 % k != 0).toNat
theorem dg_size {m k : Nat} (h1 : 2 ^ 52 ≤ m) (h2 : m < 2 ^ 53) (h3 : 2 ^ 52 ≤ k) (h4 : k < 2 ^ 53) : 2 ^ 54 ≤ dgQ m k ∧ dgQ m k ≤ 2 ^ 56 := by
  have k0 : 0 < k := Nat.lt_of_lt_of_le (Nat.two_pow_pos 52) h3
  have lo : 2 ^ 53 ≤ m * 2 ^ 54 / k := by
    rw [Nat.le_div_iff_mul_le k0]
    have a := Nat.mul_le_mul_left (2 ^ 53) (Nat.le_of_lt h4)
    have b := Nat.mul_le_mul_right (2 ^ 54) h1
    have c : (2 : Nat) ^ 53 * 2 ^ 53 = 2 ^ 52 * 2 ^ 54 := by rw [← Nat.pow_add]
    rw [c] at a
    exact Nat.le_trans a b
  have hi : m * 2 ^ 54 / k < 2 ^ 55 := by
    rw [Nat.div_lt_iff_lt_mul k0]
    have a := Nat.mul_le_mul_left (2 ^ 55) h3
    have b : m * 2 ^ 54 < 2 ^ 53 * 2 ^ 54 := Nat.mul_lt_mul_of_pos_right h2 (Nat.two_pow_pos 54)
    have c : (2 : Nat) ^ 55 * 2 ^ 52 = 2 ^ 53 * 2 ^ 54 := by rw [← Nat.pow_add]
    rw [c] at a
    exact Nat.lt_of_lt_of_le b a
  have s : (m * 2 ^ 54 % k != 0).toNat ≤ 1 := by cases (m * 2 ^ 54 % k != 0) <;> decide
  unfold dgQ
  generalize m * 2 ^ 54 / k = D at *
  have e1 : (2 : Nat) ^ 54 = 2 * 2 ^ 53 := by decide
  have e2 : (2 : Nat) ^ 56 = 2 * 2 ^ 55 := by decide
  omega
/-- a quotient, by its digits -/
theorem quo_dg {x n m k p q Q : Nat} (fx : finK .f64 x = true) (fn : finK .f64 n = true) (e1 : DF.read x = .number (ngK .f64 x) m (DF.leastPlace + (p : Nat))) (e2 : DF.read n = .number (ngK .f64 n) k (DF.leastPlace + (q : Nat)))
    (h1 : 2 ^ 52 ≤ m) (h2 : m < 2 ^ 53) (h3 : 2 ^ 52 ≤ k) (h4 : k < 2 ^ 53) (hQ : Q + q = p + 4019) : floatBits .quo .f64 x n = some (DF.word (ngK .f64 x ^^ ngK .f64 n) (min (rr DF (dgQ m k * 2 ^ Q) 3000) (infK .f64))) := by
  have hk : k ≠ 0 := ne_of_pow h3
  have l1 : m.log2 = 52 := (Nat.log2_eq_iff (ne_of_pow h1)).2 ⟨h1, h2⟩
  have l2 : k.log2 = 52 := (Nat.log2_eq_iff (ne_of_pow h3)).2 ⟨h3, h4⟩
  show DF.div _ _ = _
  unfold Format.div
  rw [e1, e2]
  simp only [Datum.quotient, if_neg hk, Option.map_some, Format.write]
  rw [show DF.fractionBits + 2 = 54 from rfl, l1, l2, show 54 + 52 - 52 = 54 from rfl, Nat.shiftLeft_eq]
  show _ = some (DF.word _ (min (rr DF (dgQ m k * 2 ^ Q) 3000) DF.infRung))
  rw [← nearest_rr, ← nearest_shift]
  have e : (DF.leastPlace - (3000 : Nat) + (Q : Int)) = DF.leastPlace + (p : Int) - (DF.leastPlace + (q : Int)) - (54 : Nat) - 1 := by
    have l : DF.leastPlace = -1074 := rfl
    omega
  rw [e]
  rfl
theorem quo_sc {i j k l x x' n n' z z' a b c d a' b' c' d' : Nat} (h : Sc i j x x') (g : Sc k l n n') (hz : resK .quo .f64 x n z) (hz' : resK .quo .f64 x' n' z')
    (r1 : Rg a b x) (r2 : Rg c d n) (r3 : Rg a' b' x') (r4 : Rg c' d' n') (n0 : mg n ≠ 0) (u1 : 52 ≤ a) (u2 : 52 ≤ a') (u3 : 52 ≤ c) (u4 : 52 ≤ c') (v1 : d ≤ a + 1021) (v2 : d' ≤ a' + 1021) (w1 : b + 1075 ≤ c + 2097) (w2 : b' + 1075 ≤ c' + 2097) (y1 : b ≤ 2097) (y2 : b' ≤ 2097) (y3 : d ≤ 2097) (y4 : d' ≤ 2097) :
    Sc (i + l) (j + k) z z' ∧ Rg (a + 1073 - d) (b + 1075 - c) z ∧ Rg (a' + 1073 - d') (b' + 1075 - c') z' := by
  obtain ⟨fx, fx', ox, ox', nx, mx⟩ := h
  obtain ⟨fn, fn', on, on', nn, mn⟩ := g
  have n0' : mg n' ≠ 0 := fun e => by
    rw [e, Nat.zero_mul] at mn
    exact n0 ((Nat.mul_eq_zero.1 mn.symm).resolve_right (Nat.ne_of_gt (Nat.two_pow_pos _)))
  obtain ⟨c1, d1⟩ := r2.resolve_left n0
  obtain ⟨c2, d2⟩ := r4.resolve_left n0'
  obtain ⟨K, q, e2, v2', b2, c2'⟩ := read_big fn (pow_tr u3 c1)
  obtain ⟨K', q', e2', v2'', b2', c2''⟩ := read_big fn' (pow_tr u4 c2)
  have un : q' + k = q + l ∧ K' = K := by
    refine norm_unique b2 c2' b2' c2'' ?_
    rw [Nat.pow_add, Nat.pow_add, ← Nat.mul_assoc, ← Nat.mul_assoc, v2', v2'', mn]
  obtain ⟨un, rfl⟩ := un
  have hk : K' ≠ 0 := ne_of_pow b2
  by_cases hx : mg x = 0
  · have hx' : mg x' = 0 := by
      rw [hx, Nat.zero_mul] at mx
      exact (Nat.mul_eq_zero.1 mx).resolve_right (Nat.ne_of_gt (Nat.two_pow_pos _))
    obtain ⟨m, p, e3, v3, _⟩ := read_num64 x fx
    obtain ⟨m', p', e4, v4, _⟩ := read_num64 x' fx'
    have zz : ∀ {m p v : Nat}, m * 2 ^ p = v → v = 0 → m = 0 := fun h h0 => by
      rw [h0] at h; exact (Nat.mul_eq_zero.1 h).resolve_right (Nat.ne_of_gt (Nat.two_pow_pos _))
    have m0 := zz v3 hx
    have m0' := zz v4 hx'
    subst m0; subst m0'
    have f1 : floatBits .quo .f64 x n = some (DF.word (ngK .f64 x ^^ ngK .f64 n) (min 0 (infK .f64))) := by
      show DF.div _ _ = _
      unfold Format.div
      rw [e3, e2, quo_zero hk]
    have f2 : floatBits .quo .f64 x' n' = some (DF.word (ngK .f64 x' ^^ ngK .f64 n') (min 0 (infK .f64))) := by
      show DF.div _ _ = _
      unfold Format.div
      rw [e4, e2', quo_zero hk]
    have z1 := res_is hz f1
    have z2 := res_is hz' f2
    have pi := infK_pos .f64
    have s1 : mg z = 0 := by rw [z1]; exact (mg_word _ _ pi).trans (vl_zero DF)
    have s2 : mg z' = 0 := by rw [z2]; exact (mg_word _ _ pi).trans (vl_zero DF)
    refine ⟨⟨by rw [z1]; exact fin_of _ pi, by rw [z2]; exact fin_of _ pi, hz.1, hz'.1, ?_, by rw [s1, s2]; simp⟩, .inl s1, .inl s2⟩
    rw [z1, z2, ngK_word _ _ _ (Nat.min_le_right _ _), ngK_word _ _ _ (Nat.min_le_right _ _), nx, nn]
  · have hx' : mg x' ≠ 0 := fun e => by
      rw [e, Nat.zero_mul] at mx
      exact hx ((Nat.mul_eq_zero.1 mx.symm).resolve_right (Nat.ne_of_gt (Nat.two_pow_pos _)))
    obtain ⟨a1, b1⟩ := r1.resolve_left hx
    obtain ⟨a2, b2x⟩ := r3.resolve_left hx'
    obtain ⟨m, p, e3, v3, b3, c3⟩ := read_big fx (pow_tr u1 a1)
    obtain ⟨m', p', e4, v4, b4, c4⟩ := read_big fx' (pow_tr u2 a2)
    have ux : p' + i = p + j ∧ m' = m := by
      refine norm_unique b3 c3 b4 c4 ?_
      rw [Nat.pow_add, Nat.pow_add, ← Nat.mul_assoc, ← Nat.mul_assoc, v3, v4, mx]
    obtain ⟨ux, rfl⟩ := ux
    rw [← v3] at a1 b1
    rw [← v4] at a2 b2x
    rw [← v2'] at c1 d1
    rw [← v2''] at c2 d2
    have p1 := lt_two53 c3 a1
    have p2 := ge_two52 b3 b1
    have p3 := lt_two53 c3 a2
    have p4 := ge_two52 b3 b2x
    have q1 := lt_two53 c2' c1
    have q2 := ge_two52 b2 d1
    have q3 := lt_two53 c2' c2
    have q4 := ge_two52 b2 d2
    obtain ⟨Q, hQ⟩ : ∃ Q, Q + q = p + 4019 := ⟨p + 4019 - q, by omega⟩
    obtain ⟨Q', hQ'⟩ : ∃ Q', Q' + q' = p' + 4019 := ⟨p' + 4019 - q', by omega⟩
    have f1 := quo_dg fx fn e3 e2 b3 c3 b2 c2' hQ
    have f2 := quo_dg fx' fn' e4 e2' b3 c3 b2 c2' hQ'
    obtain ⟨s1, s2⟩ := dg_size b3 c3 b2 c2'
    generalize dgQ m' K' = A at *
    have lo : 2 ^ (54 + Q) ≤ A * 2 ^ Q := by rw [Nat.pow_add]; exact Nat.mul_le_mul_right _ s1
    have lo' : 2 ^ (54 + Q') ≤ A * 2 ^ Q' := by rw [Nat.pow_add]; exact Nat.mul_le_mul_right _ s1
    have hi : A * 2 ^ Q ≤ 2 ^ (56 + Q) := by rw [Nat.pow_add]; exact Nat.mul_le_mul_right _ s2
    have hi' : A * 2 ^ Q' ≤ 2 ^ (56 + Q') := by rw [Nat.pow_add]; exact Nat.mul_le_mul_right _ s2
    have k1 := rr_lo (m := A * 2 ^ Q) (t := 3000) (a := a + 1073 - d) (by omega) (pow_tr (by omega) lo)
    have k2 := rr_hi (m := A * 2 ^ Q) (t := 3000) (b := b + 1075 - c) (by omega) (Nat.le_trans hi (Nat.pow_le_pow_right (by decide) (by omega)))
    have k3 := rr_lo (m := A * 2 ^ Q') (t := 3000) (a := a' + 1073 - d') (by omega) (pow_tr (by omega) lo')
    have k4 := rr_hi (m := A * 2 ^ Q') (t := 3000) (b := b' + 1075 - c') (by omega) (Nat.le_trans hi' (Nat.pow_le_pow_right (by decide) (by omega)))
    have g1 := small_fin (show b + 1075 - c ≤ 2097 by omega) k2
    have g2 := small_fin (show b' + 1075 - c' ≤ 2097 by omega) k4
    have z1 := res_is hz f1
    have z2 := res_is hz' f2
    have m1 : mg z = vl DF (rr DF (A * 2 ^ Q) 3000) := by rw [z1]; exact mg_word _ _ g1
    have m2 : mg z' = vl DF (rr DF (A * 2 ^ Q') 3000) := by rw [z2]; exact mg_word _ _ g2
    refine ⟨⟨by rw [z1]; exact fin_of _ g1, by rw [z2]; exact fin_of _ g2, hz.1, hz'.1, ?_, ?_⟩, by unfold Rg; rw [m1]; exact .inr ⟨k1, k2⟩, by unfold Rg; rw [m2]; exact .inr ⟨k3, k4⟩⟩
    · rw [z1, z2, ngK_word _ _ _ (Nat.min_le_right _ _), ngK_word _ _ _ (Nat.min_le_right _ _), nx, nn]
    · rw [m1, m2]
      refine round_scale2 (a := 54 + Q) (a' := 54 + Q') ?_ (.inr ⟨lo, lo'⟩) (by omega) (by omega)
      rw [Nat.mul_assoc, Nat.mul_assoc, ← Nat.pow_add, ← Nat.pow_add]
      congr 2
      omega
end Go.Proofs.Ytfohggiehbplkaa
namespace Go.Proofs.Ytfohggiehbplkaa
open Ieee Go.RowKit
set_option linter.unusedSimpArgs false
set_option linter.unusedVariables false

/-! ### So many times as great: a relation with the power as a whole number -/
theorem sc_at {i j k l x x' : Nat} (h : Sc i j x x') (e : (j : Int) - i = (l : Int) - k) : Sc k l x x' := by
  obtain ⟨f, f', o, o', n, m⟩ := h
  refine ⟨f, f', o, o', n, ?_⟩
  rcases Nat.le_total i k with g | g
  · obtain ⟨c, rfl⟩ := Nat.exists_eq_add_of_le g
    have : l = j + c := by omega
    subst this
    rw [Nat.pow_add, Nat.pow_add, ← Nat.mul_assoc, ← Nat.mul_assoc, m]
  · obtain ⟨c, rfl⟩ := Nat.exists_eq_add_of_le g
    have : j = l + c := by omega
    subst this
    rw [Nat.pow_add, Nat.pow_add, ← Nat.mul_assoc, ← Nat.mul_assoc] at m
    exact Nat.eq_of_mul_eq_mul_right (Nat.two_pow_pos c) m
theorem sc_tr {i j k l x y z : Nat} (h : Sc i j x y) (g : Sc k l y z) : Sc (i + k) (j + l) x z := by
  obtain ⟨f, f', o, o', n, m⟩ := h
  obtain ⟨g1, g', p, p', q, r⟩ := g
  refine ⟨f, g', o, p', q.trans n, ?_⟩
  rw [Nat.pow_add, Nat.pow_add]
  have : mg z * (2 ^ i * 2 ^ k) = mg z * 2 ^ k * 2 ^ i := by grind
  rw [this, r]
  have : mg y * 2 ^ l * 2 ^ i = mg y * 2 ^ i * 2 ^ l := by grind
  rw [this, m]
  grind
theorem le_pw9 {m b c : Nat} (h : m ≤ 2 ^ b) (g : b ≤ c) : m ≤ 2 ^ c := Nat.le_trans h (Nat.pow_le_pow_right (by decide) g)
/-- x' is x times 2 ^ e, both nought or of a size -/
structure Sr (e : Int) (a b x x' : Nat) : Prop where
  sc : ∃ i j : Nat, (j : Int) - i = e ∧ Sc i j x x'
  r : Rg a b x
  r' : Rg a b x'
theorem Sr.wide {e : Int} {a b c d x x' : Nat} (h : Sr e a b x x') (h1 : c ≤ a) (h2 : b ≤ d) : Sr e c d x x' := ⟨h.sc, h.r.wide h1 h2, h.r'.wide h1 h2⟩
theorem Sr.eq {e f : Int} {a b x x' : Nat} (h : Sr e a b x x') (g : e = f) : Sr f a b x x' := g ▸ h
theorem Sr.fin {e : Int} {a b x x' : Nat} (h : Sr e a b x x') : finK .f64 x = true ∧ finK .f64 x' = true ∧ okK .f64 x ∧ okK .f64 x' := by
  obtain ⟨i, j, _, g⟩ := h.sc
  exact ⟨g.1, g.2.1, g.2.2.1, g.2.2.2.1⟩
theorem sr_uniq {e : Int} {a b c d x y z : Nat} (h : Sr e a b x y) (g : Sr e c d x z) : y = z := by
  obtain ⟨i, j, e1, h1⟩ := h.sc
  obtain ⟨k, l, e2, h2⟩ := g.sc
  exact (sc_at h1 (k := k) (l := l) (by omega)).unique h2
theorem sr_zero (e : Int) (a b : Nat) : Sr e a b 0 0 := by
  have z : mg 0 = 0 := by decide +kernel
  refine ⟨⟨(-e).toNat, e.toNat, by omega, by decide +kernel, by decide +kernel, ok_zero, ok_zero, rfl, by rw [z]; simp⟩, .inl z, .inl z⟩
theorem sr_cmp {e : Int} {a b c d x x' y y' : Nat} (h : Sr e a b x x') (g : Sr e c d y y') : ltK .f64 x' y' = ltK .f64 x y ∧ leK .f64 x' y' = leK .f64 x y := by
  obtain ⟨i, j, e1, h1⟩ := h.sc
  obtain ⟨k, l, e2, h2⟩ := g.sc
  have h3 := sc_at h1 (k := k) (l := l) (by omega)
  exact ⟨sc_lt h3 h2, sc_le h3 h2⟩
theorem get_of {op : BinOp} {x y : Nat} (h : finK .f64 ((floatBits op .f64 x y).getD 9221120237041090560) = true) : oF op x y = (floatBits op .f64 x y).getD 9221120237041090560 := by
  unfold oF
  exact bits_num (fin_nan h)
theorem sr_mul {e f : Int} {a b c d x x' y y' : Nat} (h : Sr e a b x x') (g : Sr f c d y y') (u1 : 1126 ≤ a + c) (u3 : b + d ≤ 3171) : Sr (e + f) (a + c - 1074) (b + d - 1074) (oF .mul x y) (oF .mul x' y') := by
  obtain ⟨i, j, e1, h1⟩ := h.sc
  obtain ⟨k, l, e2, h2⟩ := g.sc
  obtain ⟨s, r1, r2⟩ := mul_sc h1 h2 (res_o .mul x y) (res_o .mul x' y') h.r g.r h.r' g.r' u1 u1 u3 u3
  rw [get_of s.1, get_of s.2.1]
  exact ⟨⟨i + k, j + l, by omega, s⟩, r1, r2⟩
theorem sr_add {e : Int} {a b x x' y y' : Nat} (h : Sr e a b x x') (g : Sr e a b y y') (u1 : 104 ≤ a) (u3 : b ≤ 2096) (v1 : 52 ≤ b) : Sr e (a - 52) (b + 1) (oF .add x y) (oF .add x' y') := by
  obtain ⟨i, j, e1, h1⟩ := h.sc
  obtain ⟨k, l, e2, h2⟩ := g.sc
  have h3 := sc_at h1 (k := k) (l := l) (by omega)
  obtain ⟨s, r1, r2⟩ := add_sc h3 h2 (res_o .add x y) (res_o .add x' y') h.r g.r h.r' g.r' u1 u1 u3 u3 v1 v1
  rw [get_of s.1, get_of s.2.1]
  exact ⟨⟨k, l, e2, s⟩, r1, r2⟩
theorem sr_sub {e : Int} {a b x x' y y' : Nat} (h : Sr e a b x x') (g : Sr e a b y y') (u1 : 104 ≤ a) (u3 : b ≤ 2096) (v1 : 52 ≤ b) : Sr e (a - 52) (b + 1) (oF .sub x y) (oF .sub x' y') := by
  obtain ⟨i, j, e1, h1⟩ := h.sc
  obtain ⟨k, l, e2, h2⟩ := g.sc
  have h3 := sc_at h1 (k := k) (l := l) (by omega)
  obtain ⟨s, r1, r2⟩ := sub_sc h3 h2 (res_o .sub x y) (res_o .sub x' y') h.r g.r h.r' g.r' u1 u1 u3 u3 v1 v1
  rw [get_of s.1, get_of s.2.1]
  exact ⟨⟨k, l, e2, s⟩, r1, r2⟩
theorem sr_quo {e f : Int} {a b c d x x' y y' : Nat} (h : Sr e a b x x') (g : Sr f c d y y') (n0 : mg y ≠ 0) (u1 : 52 ≤ a) (u3 : 52 ≤ c) (v1 : d ≤ a + 1021) (w1 : b + 1075 ≤ c + 2097) (y1 : b ≤ 2097) (y3 : d ≤ 2097) : Sr (e - f) (a + 1073 - d) (b + 1075 - c) (oF .quo x y) (oF .quo x' y') := by
  obtain ⟨i, j, e1, h1⟩ := h.sc
  obtain ⟨k, l, e2, h2⟩ := g.sc
  obtain ⟨s, r1, r2⟩ := quo_sc h1 h2 (res_o .quo x y) (res_o .quo x' y') h.r g.r h.r' g.r' n0 u1 u1 u3 u3 v1 v1 w1 w1 y1 y1 y3 y3
  rw [get_of s.1, get_of s.2.1]
  exact ⟨⟨i + l, j + k, by omega, s⟩, r1, r2⟩
/-- the powers of two from 2^-8 to 2^8 -/
theorem sr_pw {p : Int} (h1 : -8 ≤ p) (h2 : p ≤ 8) : Sc 8 (8 + p).toNat oneB (pw p) ∧ Rg 1066 1082 (pw p) ∧ finK .f64 (pw p) = true ∧ okK .f64 (pw p) := by
  have : p = -8 ∨ p = -7 ∨ p = -6 ∨ p = -5 ∨ p = -4 ∨ p = -3 ∨ p = -2 ∨ p = -1 ∨ p = 0 ∨ p = 1 ∨ p = 2 ∨ p = 3 ∨ p = 4 ∨ p = 5 ∨ p = 6 ∨ p = 7 ∨ p = 8 := by omega
  rcases this with rfl | rfl | rfl | rfl | rfl | rfl | rfl | rfl | rfl | rfl | rfl | rfl | rfl | rfl | rfl | rfl | rfl
  all_goals exact ⟨⟨by decide +kernel, by decide +kernel, one_okK, by rw [okK64]; decide, by decide +kernel, by decide +kernel⟩, .inr ⟨by decide +kernel, by decide +kernel⟩, by decide +kernel, by rw [okK64]; decide⟩
theorem sr_times {e p : Int} {a b x x' : Nat} (h1 : -8 ≤ p) (h2 : p ≤ 8) (h : Sr e a b x x') (u1 : 60 ≤ a) (u2 : b ≤ 2089) : Sr (e + p) (a - 8) (b + 8) x (oF .mul x' (pw p)) := by
  obtain ⟨s, r, f, o⟩ := sr_pw h1 h2
  obtain ⟨i, j, e1, h1⟩ := h.sc
  obtain ⟨t, r2⟩ := scale_sc h1.2.1 h1.2.2.2.1 s (res_o .mul x' (pw p)) h.r' r (by omega) (by omega) (by omega) (by omega)
  rw [get_of t.2.1]
  exact ⟨⟨i + 8, j + (8 + p).toNat, by omega, sc_tr h1 t⟩, h.r.wide (by omega) (by omega), r2.wide (by omega) (by omega)⟩
theorem two_fin : finK .f64 twoB = true ∧ okK .f64 twoB ∧ mg twoB = 2 ^ 1075 := ⟨by decide +kernel, by rw [okK64]; decide, by decide +kernel⟩
theorem sr_over {e p : Int} {a b x x' : Nat} (h1 : -8 ≤ p) (h2 : p ≤ 8) (h : Sr e a b x x') (u1 : 70 ≤ a) (u2 : b ≤ 2080) : Sr (e - p) (a - 9) (b + 9) x (oF .quo x' (pw p)) := by
  obtain ⟨s, r, f, o⟩ := sr_pw h1 h2
  obtain ⟨i, j, e1, h1⟩ := h.sc
  obtain ⟨t1, t2, t3⟩ := two_fin
  have one9 : ∀ n, n = 1074 → mg oneB = 2 ^ n := fun n h => by subst h; exact one_mg
  have two9 : ∀ n, n = 1075 → mg twoB = 2 ^ n := fun n h => by subst h; exact t3
  obtain ⟨n, hn⟩ : ∃ n, n = 1074 := ⟨_, rfl⟩
  have s2 : Sc 0 1 oneB twoB := ⟨one_fin, t1, one_okK, t2, by decide +kernel, by rw [two9 (n + 1) (by omega), one9 n hn, Nat.pow_zero, Nat.mul_one, Nat.pow_one, Nat.pow_succ]⟩
  have s3 : Sc 9 (8 + p).toNat twoB (pw p) := by
    obtain ⟨x1, x2, x3, x4, x5, x6⟩ := s
    refine ⟨t1, x2, t2, x4, by rw [x5]; decide +kernel, ?_⟩
    have e9 : mg (pw p) * 2 ^ 9 = mg (pw p) * 2 ^ 8 * 2 := by rw [Nat.mul_assoc]
    rw [e9, x6, one9 n hn, two9 (n + 1) (by omega), Nat.pow_succ]
    exact Nat.mul_right_comm _ _ _
  have rt : Rg 1075 1075 twoB := .inr ⟨by rw [t3]; exact Nat.le_refl _, by rw [t3]; exact Nat.le_refl _⟩
  obtain ⟨z, rz⟩ := half_sc h1.2.1 h1.2.2.2.1 (res_o .quo x' twoB) h.r' (by omega) (by omega)
  obtain ⟨q, q1, q2⟩ := quo_sc (Sc.refl h1.2.1 h1.2.2.2.1) s3 (res_o .quo x' twoB) (res_o .quo x' (pw p)) h.r' rt h.r' r (by rw [two9 (n + 1) (by omega)]; exact Nat.ne_of_gt (Nat.two_pow_pos _)) (by omega) (by omega) (by omega) (by omega) (by omega) (by omega) (by omega) (by omega) (by omega) (by omega) (by omega) (by omega)
  rw [get_of q.2.1]
  refine ⟨⟨i + (1 + (0 + (8 + p).toNat)), j + (0 + (0 + 9)), by omega, sc_tr h1 (sc_tr z q)⟩, h.r.wide (by omega) (by omega), q2.wide (by omega) (by omega)⟩
/-- a usual float -/
theorem us_rg {x : Nat} (h : Us x) : Rg 1034 1114 x := by
  have hb := h.bd.2.2
  have ea : av x = (mg x : Rat) / 2 ^ 1074 := rfl
  rcases h.low with g | g
  · left
    have g2 : av x = 0 := by rw [← ab_rv, g]; decide +kernel
    rw [ea] at g2
    have : (mg x : Rat) = 0 := by
      have := congrArg (fun z => z * (2 : Rat) ^ 1074) g2
      simp only [Rat.div_def, Rat.zero_mul] at this
      rwa [Rat.mul_assoc, Rat.inv_mul_cancel _ (by decide +kernel), Rat.mul_one] at this
    exact_mod_cast this
  · right
    have k : av x * 2 ^ 1074 = (mg x : Rat) := by
      rw [ea, Rat.div_def, Rat.mul_assoc, Rat.inv_mul_cancel _ (by decide +kernel), Rat.mul_one]
    constructor
    · have c : (2 : Rat) ^ 1074 = 2 ^ 40 * 2 ^ 1034 := by decide +kernel
      have m := Rat.mul_le_mul_of_nonneg_right g (show (0 : Rat) ≤ 2 ^ 1034 by decide +kernel)
      have : (2 : Rat) ^ 1034 ≤ (mg x : Rat) := by
        rw [← k, c]
        grind
      have e : ((2 ^ 1034 : Nat) : Rat) = (2 : Rat) ^ 1034 := by decide +kernel
      rw [← e] at this
      exact_mod_cast this
    · have c : (2 : Rat) ^ 1114 = 2 ^ 40 * 2 ^ 1074 := by decide +kernel
      have m := Rat.mul_le_mul_of_nonneg_right hb (show (0 : Rat) ≤ 2 ^ 1074 by decide +kernel)
      have : (mg x : Rat) ≤ (2 : Rat) ^ 1114 := by
        rw [← k, c]
        exact m
      have e : ((2 ^ 1114 : Nat) : Rat) = (2 : Rat) ^ 1114 := by decide +kernel
      rw [← e] at this
      exact_mod_cast this
theorem sr_us {x : Nat} (h : Us x) : Sr 0 1034 1114 x x := ⟨⟨0, 0, rfl, Sc.refl h.bd.2.1 h.bd.1⟩, us_rg h, us_rg h⟩
end Go.Proofs.Ytfohggiehbplkaa
namespace Go.Proofs.Ytfohggiehbplkaa
open Ieee Go.RowKit
set_option linter.unusedSimpArgs false
set_option linter.unusedVariables false

/-! ### A row so many times as great -/
def eA (p : Int) (i : Nat) : Int := if i = 2 ∨ i = 5 then p else 0
def eV (p : Int) (i : Nat) : Int := if i = 2 ∨ i = 5 then 0 else p
def eM (p : Int) (i : Nat) : Int := if i = 2 ∨ i = 5 then -4 * p else -2 * p
structure ScR (p : Int) (A V Ms A' V' Ms' : Nat → Nat) (B B' P P' lo lo' : Nat) : Prop where
  a : ∀ i, i < 6 → Sr (eA p i) 998 1150 (A i) (A' i)
  v : ∀ i, i < 6 → Sr (eV p i) 998 1150 (V i) (V' i)
  m : ∀ i, i < 6 → Sr (eM p i) 998 1150 (Ms i) (Ms' i)
  b : Sr p 998 1150 B B'
  q : Sr (3 * p) 998 1150 P P'
  lo : Sr (3 * p) 998 1150 lo lo'
variable {p : Int} {A V Ms A' V' Ms' : Nat → Nat} {B B' P P' lo lo' : Nat}
theorem sc_prod (h : ScR p A V Ms A' V' Ms' B B' P P' lo lo') : ∀ i, i < 6 → Sr p 922 1226 (oF .mul (A i) (V i)) (oF .mul (A' i) (V' i)) := fun i hi =>
  (sr_mul (h.a i hi) (h.v i hi) (by omega) (by omega)).eq (by unfold eA eV; split <;> omega)
theorem sc_sp (h : ScR p A V Ms A' V' Ms' B B' P P' lo lo') : Sr p 714 1230 (spW A V) (spW A' V') := by
  have q := sc_prod h
  have d1 := sr_add (q 0 (by omega)) (q 1 (by omega)) (by omega) (by omega) (by omega)
  have s1 := sr_add d1 ((q 2 (by omega)).wide (c := 870) (d := 1227) (by omega) (by omega)) (by omega) (by omega) (by omega)
  have d2 := sr_add (q 3 (by omega)) (q 4 (by omega)) (by omega) (by omega) (by omega)
  have s2 := sr_add s1 (d2.wide (c := 818) (d := 1228) (by omega) (by omega)) (by omega) (by omega) (by omega)
  exact sr_add s2 ((q 5 (by omega)).wide (c := 766) (d := 1229) (by omega) (by omega)) (by omega) (by omega) (by omega)
theorem sc_wt (h : ScR p A V Ms A' V' Ms' B B' P P' lo lo') : Sr (-2 * p) 638 1306 (wtW A Ms) (wtW A' Ms') := by
  have s : ∀ i, i < 6 → Sr (eA p i + eA p i) 922 1226 (oF .mul (A i) (A i)) (oF .mul (A' i) (A' i)) := fun i hi => (sr_mul (h.a i hi) (h.a i hi) (by omega) (by omega)).eq rfl
  have a01 := sr_add (s 0 (by omega)) ((s 1 (by omega)).eq (by unfold eA; simp)) (by omega) (by omega) (by omega)
  have a34 := sr_add (s 3 (by omega)) ((s 4 (by omega)).eq (by unfold eA; simp)) (by omega) (by omega) (by omega)
  have m0 := (sr_mul (h.m 0 (by omega)) a01 (by omega) (by omega)).eq (f := -2 * p) (by unfold eA eM; simp)
  have m2 := ((sr_mul (h.m 2 (by omega)) (s 2 (by omega)) (by omega) (by omega)).eq (f := -2 * p) (by unfold eA eM; simp; omega)).wide (c := 794) (d := 1303) (by omega) (by omega)
  have m3 := (sr_mul (h.m 3 (by omega)) a34 (by omega) (by omega)).eq (f := -2 * p) (by unfold eA eM; simp)
  have m5 := ((sr_mul (h.m 5 (by omega)) (s 5 (by omega)) (by omega) (by omega)).eq (f := -2 * p) (by unfold eA eM; simp; omega)).wide (c := 794) (d := 1303) (by omega) (by omega)
  have b1 := sr_add (m0.wide (c := 794) (d := 1303) (by omega) (by omega)) m2 (by omega) (by omega) (by omega)
  have b2 := sr_add b1 (m3.wide (c := 742) (d := 1304) (by omega) (by omega)) (by omega) (by omega) (by omega)
  exact sr_add b2 (m5.wide (c := 690) (d := 1305) (by omega) (by omega)) (by omega) (by omega) (by omega)
theorem sc_lk (h : ScR p A V Ms A' V' Ms' B B' P P' lo lo') : Sr p 662 1231 (lkW A V B) (lkW A' V' B') :=
  sr_sub (h.b.wide (by omega) (by omega)) (sc_sp h) (by omega) (by omega) (by omega)
theorem sc_pu (h : ScR p A V Ms A' V' Ms' B B' P P' lo lo') (w : mg (wtW A Ms) ≠ 0) : Sr (3 * p) 377 1669 (puW A V Ms B P) (puW A' V' Ms' B' P') := by
  have q := (sr_quo (sc_lk h) (sc_wt h) w (by omega) (by omega) (by omega) (by omega) (by omega) (by omega)).eq (f := 3 * p) (by omega)
  exact sr_add (h.q.wide (by omega) (by omega)) q (by omega) (by omega) (by omega)
/-- an end, so many times as great, or beyond all that a push can be -/
def Hi (p : Int) (H H' : Nat) : Prop := Sr (3 * p) 998 1800 H H' ∨ (∀ x c, finK .f64 x = true → c ≤ 1699 → mg x ≤ 2 ^ c → ltK .f64 H x = false ∧ ltK .f64 H' x = false)
theorem sc_cl {a b x x' H H' : Nat} (hx : Sr (3 * p) a b x x') (ha : a ≤ 998) (hb : b ≤ 1699) (hl : Sr (3 * p) 998 1150 lo lo') (hh : Hi p H H') : Sr (3 * p) a 1800 (clK .f64 x lo H) (clK .f64 x' lo' H') := by
  unfold clK
  rw [(sr_cmp hl hx).1]
  cases g1 : ltK .f64 lo x
  · simp only [if_true]
    exact hl.wide (by omega) (by omega)
  · simp only [Bool.true_eq_false, if_false]
    rcases hh with hh | hh
    · rw [(sr_cmp hh hx).1]
      cases g2 : ltK .f64 H x
      · simp only [Bool.false_eq_true, if_false]
        exact hx.wide (by omega) (by omega)
      · simp only [if_true]
        exact hh.wide (by omega) (by omega)
    · have k1 := (hh x b hx.fin.1 hb (rg_le hx.r)).1
      have k2 := (hh x' b hx.fin.2.1 hb (rg_le hx.r')).2
      rw [k1, k2]
      simp only [Bool.false_eq_true, if_false]
      exact hx.wide (by omega) (by omega)
theorem sc_df {q q' : Nat} (h : ScR p A V Ms A' V' Ms' B B' P P' lo lo') (hq : Sr (3 * p) 377 1800 q q') : Sr (3 * p) 325 1801 (oF .sub q P) (oF .sub q' P') :=
  sr_sub hq (h.q.wide (by omega) (by omega)) (by omega) (by omega) (by omega)
theorem sc_vv {d d' : Nat} (h : ScR p A V Ms A' V' Ms' B B' P P' lo lo') (hd : Sr (3 * p) 325 1801 d d') : ∀ i, i < 6 → Sr (eV p i) 121 1954 (vvW Ms A V d i) (vvW Ms' A' V' d' i) := fun i hi => by
  have k : Sr (eV p i) 173 1953 (kkW Ms A d i) (kkW Ms' A' d' i) := by
    unfold kkW
    by_cases g : i = 2 ∨ i = 5
    · rw [if_pos g, if_pos g]
      have a := sr_mul hd (h.a i hi) (by omega) (by omega)
      have b := sr_mul (h.m i hi) a (by omega) (by omega)
      exact (b.eq (by unfold eM eA eV; rw [if_pos g, if_pos g, if_pos g]; omega)).wide (by omega) (by omega)
    · rw [if_neg g, if_neg g]
      have a := sr_mul (h.m i hi) hd (by omega) (by omega)
      have b := sr_mul a (h.a i hi) (by omega) (by omega)
      exact (b.eq (by unfold eM eA eV; rw [if_neg g, if_neg g, if_neg g]; omega)).wide (by omega) (by omega)
  have z := (sr_cmp (sr_zero (eM p i) 998 1150) (h.m i hi)).1
  unfold vvW
  rw [z]
  cases ltK .f64 0 (Ms i)
  · simp only [Bool.false_eq_true, if_false]
    exact (h.v i hi).wide (by omega) (by omega)
  · simp only [if_true]
    exact sr_add ((h.v i hi).wide (by omega) (by omega)) k (by omega) (by omega) (by omega)
end Go.Proofs.Ytfohggiehbplkaa
namespace Go.Proofs.Ytfohggiehbplkaa
open Ieee Go.RowKit
set_option linter.unusedSimpArgs false
set_option linter.unusedVariables false

/-! ### An end that may be infinite -/
def Bg (c x : Nat) : Prop := ngK .f64 x = false ∧ okK .f64 x ∧ ((finK .f64 x = true ∧ 2 ^ c ≤ mg x) ∨ x = infK .f64)
theorem bg_nan {c x : Nat} (h : Bg c x) : nanK .f64 x = false := by
  rcases h.2.2 with ⟨f, _⟩ | e
  · exact fin_nan f
  · rw [e]; decide +kernel
theorem pw_ng {p : Int} (h1 : -8 ≤ p) (h2 : p ≤ 8) : ngK .f64 (pw p) = false := by
  obtain ⟨s, _⟩ := sr_pw h1 h2
  rw [s.2.2.2.2.1]; decide +kernel
theorem inf_pw {p : Int} (h1 : -8 ≤ p) (h2 : p ≤ 8) : floatBits .mul .f64 (infK .f64) (pw p) = some (infK .f64) := by
  have : p = -8 ∨ p = -7 ∨ p = -6 ∨ p = -5 ∨ p = -4 ∨ p = -3 ∨ p = -2 ∨ p = -1 ∨ p = 0 ∨ p = 1 ∨ p = 2 ∨ p = 3 ∨ p = 4 ∨ p = 5 ∨ p = 6 ∨ p = 7 ∨ p = 8 := by omega
  rcases this with rfl | rfl | rfl | rfl | rfl | rfl | rfl | rfl | rfl | rfl | rfl | rfl | rfl | rfl | rfl | rfl | rfl
  all_goals decide +kernel
theorem oF_some {op : BinOp} {x y v : Nat} (h : floatBits op .f64 x y = some v) (n : nanK .f64 v = false) : oF op x y = v := by
  unfold oF
  rw [h]
  exact bits_num n
theorem bg_mul {p : Int} (h1 : -8 ≤ p) (h2 : p ≤ 8) {c x : Nat} (h : Bg c x) (hc : 60 ≤ c) : Bg (c - 8) (oF .mul x (pw p)) ∧ floatBits .mul .f64 x (pw p) = some (oF .mul x (pw p)) := by
  obtain ⟨s, r, f, o⟩ := sr_pw h1 h2
  obtain ⟨g1, g2, g3⟩ := h
  rcases g3 with ⟨fx, hx⟩ | e
  · have k : floatBits .mul .f64 x (pw p) = some (FloatKind.f64.format.word (ngK .f64 x ^^ ngK .f64 (pw p)) (min (rr DF (mg x * mg (pw p)) 1074) (infK .f64))) := mul_spec x (pw p) fx f
    rw [g1, pw_ng h1 h2] at k
    have lo : 2 ^ (c + 1066) ≤ mg x * mg (pw p) := by
      rcases r with z | ⟨r1, _⟩
      · exfalso
        have m := s.2.2.2.2.2
        rw [z, Nat.zero_mul] at m
        rcases Nat.mul_eq_zero.1 m.symm with e | e
        · exact absurd e (by decide +kernel)
        · exact absurd e (Nat.ne_of_gt (Nat.two_pow_pos _))
      · rw [Nat.pow_add]; exact Nat.mul_le_mul hx r1
    have l2 := rr_lo (m := mg x * mg (pw p)) (t := 1074) (a := c - 8) (by omega) (pow_tr (by omega) lo)
    generalize rr DF (mg x * mg (pw p)) 1074 = R at *
    rcases Nat.lt_or_ge R (infK .f64) with g | g
    · have fz := fin_of (false ^^ false) g
      have e := oF_some k (fin_nan fz)
      refine ⟨⟨?_, ?_, .inl ⟨?_, ?_⟩⟩, by rw [e]; exact k⟩
      · rw [e, ngK_word _ _ _ (Nat.min_le_right _ _)]; rfl
      · rw [e]; exact floatBits_ok k
      · rw [e]; exact fz
      · rw [e]
        have := mg_word (false ^^ false) R g
        rw [this]; exact l2
    · have em : min R (infK .f64) = infK .f64 := Nat.min_eq_right g
      rw [em] at k
      have ei : FloatKind.f64.format.word (false ^^ false) (infK .f64) = infK .f64 := by decide +kernel
      rw [ei] at k
      have e := oF_some k (by decide +kernel)
      rw [e]
      exact ⟨⟨by decide +kernel, by rw [okK64]; decide +kernel, .inr rfl⟩, k⟩
  · subst e
    have k := inf_pw h1 h2
    have e := oF_some k (by decide +kernel)
    rw [e]
    exact ⟨⟨g1, g2, .inr rfl⟩, k⟩
theorem mg_lt {x y b c : Nat} (hy : mg y ≤ 2 ^ b) (hb : b < c) (hx : 2 ^ c ≤ mg x) : rgK .f64 y < rgK .f64 x := by
  apply Decidable.byContradiction
  intro n
  have e : mg x ≤ mg y := mg_rg.2 (by omega)
  exact pow_no hb (Nat.le_trans hx (Nat.le_trans e hy))
theorem bg_wo {c x y b : Nat} (h : Bg c x) (fy : finK .f64 y = true) (hy : mg y ≤ 2 ^ b) (hb : b < c) : woK .f64 y < woK .f64 x := by
  have k : rgK .f64 y < rgK .f64 x := by
    rcases h.2.2 with ⟨f, g⟩ | e
    · exact mg_lt hy hb g
    · rw [e, show rgK .f64 (infK .f64) = infK .f64 by decide +kernel]
      exact of_decide_eq_true fy
  rw [woK_eq, woK_eq, h.1]
  cases ngK .f64 y <;> simp <;> omega
theorem bg_lt {c x y b : Nat} (h : Bg c x) (fy : finK .f64 y = true) (hy : mg y ≤ 2 ^ b) (hb : b < c) : ltK .f64 x y = false ∧ leK .f64 y x = true := by
  have w := bg_wo h fy hy hb
  rw [lt_fin (bg_nan h) (fin_nan fy), le_fin (fin_nan fy) (bg_nan h)]
  constructor
  · exact decide_eq_false (by omega)
  · exact decide_eq_true (by omega)
theorem bg_rg {c x y a b : Nat} (h : Bg c x) (fy : finK .f64 y = true) (r : Rg a b y) (hb : b < c) : leK .f64 y x = true := (bg_lt h fy (rg_le r) hb).2
theorem some_sr {e : Int} {a b x x' p : Nat} (f1 : finK .f64 x = true) (f2 : finK .f64 x' = true) (op : BinOp) (s : (floatBits op .f64 x x').isSome = true) (h : finK .f64 (oF op x x') = true) : floatBits op .f64 x x' = some (oF op x x') := by
  obtain ⟨v, hv⟩ := Option.isSome_iff_exists.1 s
  have : nanK .f64 v = false := by
    cases n : nanK .f64 v
    · rfl
    · unfold oF at h
      rw [hv] at h
      simp only [Option.getD_some] at h
      rw [bits_nan n] at h
      exact absurd h (by decide +kernel)
  rw [oF_some hv this, hv]
/-- three times by a power -/
def k3 (p : Int) (x : Nat) : Nat := oF .mul (oF .mul (oF .mul x (pw p)) (pw p)) (pw p)
structure K3 (p : Int) (x : Nat) : Prop where
  s1 : floatBits .mul .f64 x (pw p) = some (oF .mul x (pw p))
  s2 : floatBits .mul .f64 (oF .mul x (pw p)) (pw p) = some (oF .mul (oF .mul x (pw p)) (pw p))
  s3 : floatBits .mul .f64 (oF .mul (oF .mul x (pw p)) (pw p)) (pw p) = some (k3 p x)
theorem t_some {p : Int} (h1 : -8 ≤ p) (h2 : p ≤ 8) {x : Nat} (fx : finK .f64 x = true) (f : finK .f64 (oF .mul x (pw p)) = true) : floatBits .mul .f64 x (pw p) = some (oF .mul x (pw p)) :=
  some_sr (e := 0) (a := 0) (b := 0) (p := 0) fx (sr_pw h1 h2).2.2.1 .mul (some_mul fx (sr_pw h1 h2).2.2.1) f
theorem sr_k3 {p : Int} (h1 : -8 ≤ p) (h2 : p ≤ 8) {a b x : Nat} (h : Sr 0 a b x x) (u1 : 100 ≤ a) (u2 : b ≤ 2060) : Sr (3 * p) (a - 24) (b + 24) x (k3 p x) ∧ K3 p x := by
  have t1 := sr_times h1 h2 h (by omega) (by omega)
  have t2 := sr_times h1 h2 t1 (by omega) (by omega)
  have t3 := sr_times h1 h2 t2 (by omega) (by omega)
  exact ⟨(t3.eq (by omega)).wide (by omega) (by omega), t_some h1 h2 h.fin.1 t1.fin.2.1, t_some h1 h2 t1.fin.2.1 t2.fin.2.1, t_some h1 h2 t2.fin.2.1 t3.fin.2.1⟩
theorem hi_of {p : Int} (h1 : -8 ≤ p) (h2 : p ≤ 8) {H : Nat} (h : Us H ∨ (okK .f64 H ∧ ltK .f64 4787326403894837248 H = true)) : Hi p H (k3 p H) ∧ K3 p H ∧ (∀ y y', Sr (3 * p) 998 1150 y y' → leK .f64 y H = true → leK .f64 y' (k3 p H) = true) ∧ nanK .f64 (k3 p H) = false ∧ okK .f64 (k3 p H) := by
  have sm : ∀ {a b}, Sr 0 a b H H → 1034 ≤ a → b ≤ 1776 → Hi p H (k3 p H) ∧ K3 p H ∧ (∀ y y', Sr (3 * p) 998 1150 y y' → leK .f64 y H = true → leK .f64 y' (k3 p H) = true) ∧ nanK .f64 (k3 p H) = false ∧ okK .f64 (k3 p H) := fun {a b} s ha hb => by
    obtain ⟨t, k⟩ := sr_k3 h1 h2 s (by omega) (by omega)
    have t' := t.wide (c := 998) (d := 1800) (by omega) (by omega)
    exact ⟨.inl t', k, fun y y' s g => (sr_cmp s t').2.trans g, fin_nan t'.fin.2.1, t'.fin.2.2.2⟩
  rcases h with h | ⟨o, h⟩
  · exact sm (sr_us h) (Nat.le_refl _) (by omega)
  · have n := (le_nums (x := 4787326403894837248) (y := H) (by unfold ltK at h; unfold leK; simp only [Bool.and_eq_true, decide_eq_true_eq] at h ⊢; exact ⟨h.1, by omega⟩)).2
    have wl : woK .f64 4787326403894837248 < woK .f64 H := by
      unfold ltK at h; simp only [Bool.and_eq_true, decide_eq_true_eq] at h; exact h.2
    have w0 : woK .f64 4787326403894837248 = (rgK .f64 4787326403894837248 : Int) := by decide +kernel
    have ng : ngK .f64 H = false := by
      cases g : ngK .f64 H
      · rfl
      · rw [woK_eq .f64 H, g] at wl
        simp only [if_true] at wl
        omega
    have rl : rgK .f64 4787326403894837248 < rgK .f64 H := by
      rw [woK_eq .f64 H, ng, w0] at wl
      simp only [Bool.false_eq_true, if_false] at wl
      omega
    cases f : finK .f64 H
    · have e : H = infK .f64 := by
        have e1 := fin_inf f n
        refine (same_iff .f64 H (infK .f64) o (by rw [okK64]; decide +kernel)).2 ⟨by rw [ng]; decide +kernel, ?_⟩
        rw [e1]; decide +kernel
      have b0 : Bg 1776 H := ⟨ng, o, .inr e⟩
      obtain ⟨b1, k1⟩ := bg_mul h1 h2 b0 (by omega)
      obtain ⟨b2, k2⟩ := bg_mul h1 h2 b1 (by omega)
      obtain ⟨b3, k3_⟩ := bg_mul h1 h2 b2 (by omega)
      exact ⟨.inr fun x c fx hc hx => ⟨(bg_lt b0 fx hx (by omega)).1, (bg_lt b3 fx hx (by omega)).1⟩, ⟨k1, k2, k3_⟩, fun y y' s g => bg_rg b3 s.fin.2.1 s.r' (by omega), bg_nan b3, b3.2.1⟩
    · have lo : 2 ^ 1034 ≤ mg H := by
        have e : mg 4787326403894837248 ≤ mg H := mg_rg.2 (by omega)
        have c : 2 ^ 1034 ≤ mg 4787326403894837248 := by decide +kernel
        exact Nat.le_trans c e
      have dich : ∀ c, c = 1776 → mg H ≤ 2 ^ c ∨ 2 ^ c ≤ mg H := fun c _ => Nat.le_total _ _
      rcases dich _ rfl with g | g
      · exact sm (a := 1034) (b := 1776) ⟨⟨0, 0, rfl, Sc.refl f o⟩, .inr ⟨lo, g⟩, .inr ⟨lo, g⟩⟩ (Nat.le_refl _) (Nat.le_refl _)
      · have b0 : Bg 1776 H := ⟨ng, o, .inl ⟨f, g⟩⟩
        obtain ⟨b1, k1⟩ := bg_mul h1 h2 b0 (by omega)
        obtain ⟨b2, k2⟩ := bg_mul h1 h2 b1 (by omega)
        obtain ⟨b3, k3_⟩ := bg_mul h1 h2 b2 (by omega)
        exact ⟨.inr fun x c fx hc hx => ⟨(bg_lt b0 fx hx (by omega)).1, (bg_lt b3 fx hx (by omega)).1⟩, ⟨k1, k2, k3_⟩, fun y y' s g => bg_rg b3 s.fin.2.1 s.r' (by omega), bg_nan b3, b3.2.1⟩
end Go.Proofs.Ytfohggiehbplkaa
