/-
  Plain facts on floats, more: rounding to the nearest rung, sums and products of finite floats, signs turned. No program is named here.
-/
import Derived.Test.YtdeooadeohojcaaGreatRyc
namespace Go.Proofs.YtdeooadeohojcaaGreat
open Ieee Go.RowKit
set_option linter.unusedSimpArgs false
set_option linter.unusedVariables false

theorem ry_in {F Y : Vp} (h : ryE F Y = 0) : inB Y.1 Y.2 = true := by
  unfold ryE at h
  split at h
  · split at h
    · rename_i h2; rw [Bool.and_eq_true] at h2; exact h2.1
    · exact absurd h (by decide)
  · exact absurd h (by decide)
theorem bdP_of {x y : Nat} {P : Vp} (h : isP x y P) (hi : inB P.1 P.2 = true) : BdP 40 P := by
  have e := ib_is h
  obtain ⟨h1, h2, rfl⟩ := h
  exact inp_bd h1 h2 (by rw [e]; exact hi)
theorem lt_asym {a b : Nat} (h : ltK .f64 a b = true) : ltK .f64 b a = false := by
  unfold ltK at h ⊢
  simp only [Bool.and_eq_true, Bool.not_eq_true', decide_eq_true_eq] at h
  rw [decide_eq_false (by omega), Bool.and_false]
end Go.Proofs.YtdeooadeohojcaaGreat
namespace Go.Proofs.YtdeooadeohojcaaGreat
open Ieee Go.RowKit
set_option linter.unusedSimpArgs false
set_option linter.unusedVariables false

abbrev Rl := Int × Nat × Nat
/-- what one side does: the best one so far, its part, where the way goes out -/
def rlA (s : Rl) (i G T : Nat) : Rl := pkF (ltK .f64 G 0 && (decide (s.1 < 0) || ltK .f64 s.2.1 T)) ((i : Int), T, s.2.2) s
def rlB (s : Rl) (G T : Nat) : Rl := pkF (ltK .f64 0 G && ltK .f64 T s.2.2) (s.1, s.2.1, T) s
def rlN (s : Rl) (i G E T : Nat) : Option Rl := if eqK .f64 G 0 && ltK .f64 0 E then none else some (rlB (rlA s i G T) G T)
def rlS (xs ys : Nat → Nat) (n : Nat) (F Y : Vp) : Nat → Option Rl
  | 0 => some (-1, 0, 9218868437227405312)
  | i + 1 => (rlS xs ys n F Y i).bind fun s => rlN s i (etG xs ys n Y i) (etF xs ys n F i) (etT xs ys n F Y i)
/-- two numbers that are alike to Go -/
def AlN (a b : Nat) : Prop := nanK .f64 a = false ∧ nanK .f64 b = false ∧ woK .f64 a = woK .f64 b
theorem alN_lt {a b : Nat} (h : AlN a b) (c : Nat) : ltK .f64 c a = ltK .f64 c b ∧ ltK .f64 a c = ltK .f64 b c ∧ leK .f64 c a = leK .f64 c b := by
  obtain ⟨h1, h2, h3⟩ := h
  unfold ltK leK
  rw [h1, h2, h3]
  exact ⟨rfl, rfl, rfl⟩
theorem alN_self {a : Nat} (h : nanK .f64 a = false) : AlN a a := ⟨h, h, rfl⟩
theorem mn_al {x r T : Nat} (h : AlN x r) (hT : nanK .f64 T = false) : AlN (mnF x T) (pkF (ltK .f64 T r) T r) := by
  have e := (alN_lt h T)
  obtain ⟨h1, h2, h3⟩ := h
  unfold mnF
  rw [h1, hT]
  simp only [Bool.or_self, Bool.false_eq_true, if_false]
  cases q1 : ltK .f64 x T with
  | true =>
    have q2 : ltK .f64 T r = false := by rw [← e.1]; exact lt_asym q1
    rw [q2, pkF_no rfl, if_pos rfl]
    exact ⟨h1, h2, h3⟩
  | false =>
    rw [if_neg (by decide)]
    cases q2 : ltK .f64 T x with
    | true =>
      have q3 : ltK .f64 T r = true := by rw [← e.1]; exact q2
      rw [q3, pkF_yes rfl, if_pos rfl]
      exact ⟨hT, hT, rfl⟩
    | false =>
      have q3 : ltK .f64 T r = false := by rw [← e.1]; exact q2
      rw [q3, pkF_no rfl, if_neg (by decide)]
      have hw : woK .f64 x = woK .f64 T := by
        unfold ltK at q1 q2
        rw [h1, hT] at q1 q2
        simp only [Bool.not_false, Bool.true_and, decide_eq_false_iff_not] at q1 q2
        omega
      split
      · exact ⟨h1, h2, h3⟩
      · exact ⟨hT, h2, hw.symm.trans h3⟩
theorem eq_nn {x y : Nat} (nx : nanK .f64 x = false) (ny : nanK .f64 y = false) : eqK .f64 x y = decide (woK .f64 x = woK .f64 y) := by unfold eqK; rw [nx, ny]; rfl
/-- how the two states go together -/
def RlE (xs ys : Nat → Nat) (n i : Nat) (s : Et) (r : Rl) : Prop :=
  AlN s.2.2 r.2.2 ∧ ((s.1 = false ∧ r.1 = -1) ∨ (s.1 = true ∧ ∃ j, j < i ∧ r.1 = (j : Int) ∧ s.2.1.2.1 = nmP xs ys n j ∧ s.2.1.2.2 = r.2.1))
theorem rl_step {xs ys : Nat → Nat} {n i G E T : Nat} {s : Et} {r : Rl} (h : RlE xs ys n i s r) (hG : nanK .f64 G = false) (hT : ltK .f64 G 0 = true ∨ ltK .f64 0 G = true → nanK .f64 T = false) :
    (etN s G E T (nmP xs ys n i) = none ∧ rlN r i G E T = none) ∨ ∃ s' r', etN s G E T (nmP xs ys n i) = some s' ∧ rlN r i G E T = some r' ∧ RlE xs ys n (i + 1) s' r' := by
  obtain ⟨ha, hs⟩ := h
  have w0 : woK .f64 0 = 0 := by decide +kernel
  have n0 : nanK .f64 0 = false := by decide +kernel
  have hup : (s.1 = false ∧ r.1 = -1) ∨ (s.1 = true ∧ ∃ j, j < i + 1 ∧ r.1 = (j : Int) ∧ s.2.1.2.1 = nmP xs ys n j ∧ s.2.1.2.2 = r.2.1) := by
    rcases hs with h | ⟨h, j, hj, h2⟩
    · exact .inl h
    · exact .inr ⟨h, j, by omega, h2⟩
  cases q1 : ltK .f64 G 0 with
  | true =>
    have q2 : ltK .f64 0 G = false := lt_asym q1
    have q3 : eqK .f64 G 0 = false := by
      have hl := q1
      unfold ltK at hl
      rw [hG, n0] at hl
      simp only [Bool.not_false, Bool.true_and, decide_eq_true_eq] at hl
      rw [eq_nn hG n0]
      exact decide_eq_false (by omega)
    right
    have e1 : etN s G E T (nmP xs ys n i) = some (true, pkF (etK s T) ((0, 0), nmP xs ys n i, T) s.2.1, s.2.2) := by unfold etN; rw [q1]; rfl
    have e2 : rlN r i G E T = some (rlA r i G T) := by
      unfold rlN rlB
      rw [q3, q2]
      rfl
    refine ⟨_, _, e1, e2, ?_⟩
    have ek : (decide (r.1 < 0) || ltK .f64 r.2.1 T) = etK s T := by
      unfold etK
      rcases hs with ⟨h1, h2⟩ | ⟨h1, j, hj, h2, h3, h4⟩
      · rw [h1, h2]; rfl
      · rw [h1, h2, h4, decide_eq_false (by omega)]; rfl
    have eA : rlA r i G T = pkF (etK s T) ((i : Int), T, r.2.2) r := by unfold rlA; rw [q1, ek]; rfl
    rw [eA]
    cases qk : etK s T with
    | true =>
      refine ⟨ha, .inr ⟨rfl, i, by omega, rfl, rfl, rfl⟩⟩
    | false =>
      refine ⟨ha, .inr ⟨rfl, ?_⟩⟩
      rcases hs with ⟨h1, h2⟩ | ⟨h1, j, hj, h2, h3, h4⟩
      · unfold etK at qk; rw [h1] at qk; cases qk
      · exact ⟨j, by omega, h2, h3, h4⟩
  | false =>
    have eA : rlA r i G T = r := by unfold rlA; rw [q1]; rfl
    cases q2 : ltK .f64 0 G with
    | true =>
      have q3 : eqK .f64 G 0 = false := by
        have hl := q2
        unfold ltK at hl
        rw [hG, n0] at hl
        simp only [Bool.not_false, Bool.true_and, decide_eq_true_eq] at hl
        rw [eq_nn hG n0]
        exact decide_eq_false (by omega)
      right
      have e1 : etN s G E T (nmP xs ys n i) = some (s.1, s.2.1, mnF s.2.2 T) := by unfold etN; rw [q1, q2]; rfl
      have e2 : rlN r i G E T = some (rlB r G T) := by unfold rlN; rw [q3, eA]; rfl
      refine ⟨_, _, e1, e2, ?_⟩
      have hm := mn_al ha (hT (.inr q2))
      have eB : rlB r G T = (r.1, r.2.1, pkF (ltK .f64 T r.2.2) T r.2.2) := by
        unfold rlB
        rw [q2]
        cases ltK .f64 T r.2.2 <;> rfl
      rw [eB]
      exact ⟨hm, hup⟩
    | false =>
      have q3 : eqK .f64 G 0 = true := by
        unfold ltK at q1 q2
        rw [hG, n0] at q1 q2
        simp only [Bool.not_false, Bool.true_and, decide_eq_false_iff_not] at q1 q2
        rw [eq_nn hG n0]
        exact decide_eq_true (by omega)
      cases q4 : ltK .f64 0 E with
      | true => left; exact ⟨by unfold etN; rw [q1, q2, q4]; rfl, by unfold rlN; rw [q3, q4]; rfl⟩
      | false =>
        right
        have e1 : etN s G E T (nmP xs ys n i) = some s := by unfold etN; rw [q1, q2, q4]; rfl
        have e2 : rlN r i G E T = some r := by
          unfold rlN
          rw [q3, q4, eA]
          unfold rlB
          rw [q2]
          rfl
        exact ⟨_, _, e1, e2, ha, hup⟩
/-- both ways through the sides -/
theorem rl_all {xs ys : Nat → Nat} {n : Nat} {F Y : Vp} (h : ∀ i, i < n → nanK .f64 (etG xs ys n Y i) = false ∧ (ltK .f64 (etG xs ys n Y i) 0 = true ∨ ltK .f64 0 (etG xs ys n Y i) = true → nanK .f64 (etT xs ys n F Y i) = false)) :
    ∀ i, i ≤ n → (etS xs ys n F Y i = none ∧ rlS xs ys n F Y i = none) ∨ ∃ s r, etS xs ys n F Y i = some s ∧ rlS xs ys n F Y i = some r ∧ RlE xs ys n i s r
  | 0, _ => .inr ⟨_, _, rfl, rfl, alN_self (by decide +kernel), .inl ⟨rfl, rfl⟩⟩
  | i + 1, hi => by
    rcases rl_all h i (by omega) with ⟨h1, h2⟩ | ⟨s, r, h1, h2, h3⟩
    · left
      exact ⟨by show (etS xs ys n F Y i).bind _ = none; rw [h1]; rfl, by show (rlS xs ys n F Y i).bind _ = none; rw [h2]; rfl⟩
    · have e1 : etS xs ys n F Y (i + 1) = etN s (etG xs ys n Y i) (etF xs ys n F i) (etT xs ys n F Y i) (nmP xs ys n i) := by show (etS xs ys n F Y i).bind _ = _; rw [h1]; rfl
      have e2 : rlS xs ys n F Y (i + 1) = rlN r i (etG xs ys n Y i) (etF xs ys n F i) (etT xs ys n F Y i) := by show (rlS xs ys n F Y i).bind _ = _; rw [h2]; rfl
      rw [e1, e2]
      exact rl_step h3 (h i (by omega)).1 (h i (by omega)).2
/-- what is told at the end -/
theorem rl_end {xs ys : Nat → Nat} {n : Nat} {s : Et} {r : Rl} (h : RlE xs ys n n s r) : etB s = (!decide (r.1 < 0) && paB r.2.1 && !ltK .f64 r.2.2 r.2.1) := by
  obtain ⟨ha, hs⟩ := h
  unfold etB
  rcases hs with ⟨h1, h2⟩ | ⟨h1, j, hj, h2, h3, h4⟩
  · rw [h1, h2]; rfl
  · rw [h1, h2, h4, decide_eq_false (by omega)]
    simp only [Bool.not_false, Bool.true_and]
    cases qp : paB r.2.1 with
    | false => rfl
    | true =>
      simp only [Bool.true_and]
      rw [(alN_lt ha r.2.1).2.2]
      have hn : nanK .f64 r.2.1 = false := by
        unfold paB leK at qp
        simp only [Bool.and_eq_true, Bool.not_eq_true'] at qp
        exact qp.1.1.2
      unfold leK ltK
      rw [hn, ha.2.1]
      simp only [Bool.not_false, Bool.true_and]
      by_cases hc : woK .f64 r.2.1 ≤ woK .f64 r.2.2
      · rw [decide_eq_true hc, decide_eq_false (by omega)]; rfl
      · rw [decide_eq_false hc, decide_eq_true (by omega)]; rfl
end Go.Proofs.YtdeooadeohojcaaGreat
namespace Go.Proofs.YtdeooadeohojcaaGreat
open Ieee Go.RowKit
set_option linter.unusedSimpArgs false
set_option linter.unusedVariables false

theorem ry_from {F Y : Vp} (h : ryE F Y = 0) : inB F.1 F.2 = true := by
  unfold ryE at h
  split at h
  · rename_i h2; exact h2
  · exact absurd h (by decide)
theorem bdP_nP {n x y : Nat} (h : Bd n x) (g : Bd n y) : BdP n (nP (x, y)) := by
  unfold nP BdP
  simp only
  rw [bits_num (fin_nan h.2.1), bits_num (fin_nan g.2.1)]
  exact ⟨h, g⟩
theorem neg_mg {G : Nat} (o : okK .f64 G) (f : finK .f64 G = true) (h : ltK .f64 G 0 = true) : mg G ≠ 0 := by
  have w0 : woK .f64 0 = 0 := by decide +kernel
  have n0 : nanK .f64 0 = false := by decide +kernel
  have hl : ltK .f64 0 (Op.negFloat .f64 G) = true := by
    unfold ltK at h ⊢
    rw [n0, fin_nan f] at h
    rw [n0, neg_nan .f64 G o, fin_nan f, neg_wo .f64 G o, w0]
    rw [w0] at h
    simp only [Bool.not_false, Bool.true_and, decide_eq_true_eq] at h ⊢
    omega
  have := pos_mg hl
  unfold mg at this ⊢
  rwa [show rgK .f64 (Op.negFloat .f64 G) = rgK .f64 G from (neg_facts .f64 G o).1] at this
theorem nm_bd {xs ys : Nat → Nat} {n i : Nat} (o : Oks xs ys n) (hz : chkE xs ys n = 0) (hi : i < n) : Bd 80 (nX xs ys n i) ∧ Bd 80 (nY xs ys n i) := by
  obtain ⟨gd, h3, h64, hout⟩ := chk_ok o hz
  exact (n_bd (wX_bd gd hi).1 (wX_bd gd hi).2 (by have q := hout i hi; unfold outB at q; rw [Bool.and_eq_true] at q; simpa using q.1)).2
/-- what is reckoned of each side is a number -/
theorem et_nums {xs ys : Nat → Nat} {n fx fy wx wy : Nat} {F Y : Vp} (o : Oks xs ys n) (hz : chkE xs ys n = 0) (hf : isP fx fy F) (hw : isP wx wy Y) (he : ryE F Y = 0) :
    ∀ i, i < n → nanK .f64 (etG xs ys n Y i) = false ∧ (ltK .f64 (etG xs ys n Y i) 0 = true ∨ ltK .f64 0 (etG xs ys n Y i) = true → nanK .f64 (etT xs ys n F Y i) = false) := by
  intro i hi
  obtain ⟨gd, h3, h64, hout⟩ := chk_ok o hz
  obtain ⟨b1, b2⟩ := nm_bd o hz hi
  have bN : BdP 80 (nmP xs ys n i) := bdP_nP b1 b2
  have bY := bdP_of hw (ry_in he)
  have bF := bdP_of hf (ry_from he)
  have bS : BdP 40 (sdA xs ys i) := bdP_nP (gd i hi).1 (gd i hi).2
  have bG : Bd 123 (etG xs ys n Y i) := dtF_bd bN bY (by omega)
  have bE : Bd 125 (etF xs ys n F i) := dtF_bd bN (su_bd bF bS (by omega)) (by omega)
  refine ⟨fin_nan bG.2.1, fun hg => ?_⟩
  have hm : mg (etG xs ys n Y i) ≠ 0 := by
    rcases hg with h | h
    · exact neg_mg bG.1 bG.2.1 h
    · exact pos_mg h
  have bNg := bd_neg bE
  have e : ngF (etF xs ys n F i) = Op.negFloat .f64 (etF xs ys n F i) := by unfold ngF; rw [bits_num (fin_nan bNg.2.1)]
  have hq := quo_num bNg.2.1 bG.2.1 hm
  unfold etT
  rw [e]
  obtain ⟨r, hr⟩ := Option.isSome_iff_exists.1 (some_quo bNg.2.1 bG.2.1 hm)
  have e2 : Dv .quo (Op.negFloat .f64 (etF xs ys n F i)) (etG xs ys n Y i) = r := by unfold Dv; rw [hr]; rfl
  rw [e2] at hq
  unfold oF
  rw [hr]
  show nanK .f64 (bitsK r) = false
  rw [bits_num hq]
  exact hq
end Go.Proofs.YtdeooadeohojcaaGreat
