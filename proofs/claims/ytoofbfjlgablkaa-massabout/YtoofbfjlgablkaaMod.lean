/-
  Plain facts on floats, more: rounding to the nearest rung, sums and products of finite floats, signs turned. No program is named here.
-/
import Derived.Test.YtoofbfjlgablkaaMoc
namespace Go.Proofs.Ytoofbfjlgablkaa
open Ieee Go.RowKit
set_option linter.unusedSimpArgs false
set_option linter.unusedVariables false

/-! ### Several masses in the opposite order, on floats -/
def nearW (a b c : Nat) : Prop := ∀ d p, resK .sub .f64 a b d → resK .mul .f64 4427038433705197568 (rgK .f64 c) p → leK .f64 (rgK .f64 d) p = true
theorem rg_abs (x : Nat) : rgK .f64 (rgK .f64 x) = rgK .f64 x ∧ ngK .f64 (rgK .f64 x) = false := ⟨by rw [rg64, rg64]; omega, by rw [ng64, rg64, beq_eq_false_iff_ne]; omega⟩
theorem fin_abs (x : Nat) : finK .f64 (rgK .f64 x) = finK .f64 x := by unfold finK; rw [(rg_abs x).1]
theorem rv_abs (x : Nat) : rv (rgK .f64 x) = av x := by rw [rv_pos (rg_abs x).2]; unfold av mg; rw [(rg_abs x).1]
theorem eR0 : (0 : Rat) ≤ epR ∧ epR * 1048576 ≤ 1 ∧ (0 : Rat) ≤ etR := by decide +kernel
theorem part_rv : rv 4427038433705197568 = 8192 * epR ∧ finK .f64 4427038433705197568 = true ∧ av 4427038433705197568 = 8192 * epR := by decide +kernel
theorem near_of {a b c : Nat} (ob : okK .f64 b) (fa : finK .f64 a = true) (fb : finK .f64 b = true) (fc : finK .f64 c = true) (hd : ∀ d, resK .sub .f64 a b d → finK .f64 d = true)
    (h : ab (rv a - rv b) ≤ 2092 * (epR * av c)) (hh : etR ≤ epR * av c) : nearW a b c := by
  intro d p h1 h2
  have fd := hd d h1
  have fc' : finK .f64 (rgK .f64 c) = true := by rw [fin_abs]; exact fc
  have hb : av 4427038433705197568 * av (rgK .f64 c) ≤ 2 ^ 984 := by
    rw [part_rv.2.2, show av (rgK .f64 c) = av c by unfold av mg; rw [(rg_abs c).1]]
    have a1 := Rat.mul_le_mul_of_nonneg_left (av_le fc) (show (0 : Rat) ≤ 8192 * epR by decide +kernel)
    refine Rat.le_trans a1 ?_
    decide +kernel
  have fp := mul_small2 part_rv.2.1 fc' h2 (by decide +kernel) hb
  have n1 := sub_rv ob fa fb fd h1
  have n2 := mul_rv part_rv.2.1 fc' fp h2
  rw [part_rv.1, rv_abs] at n2
  have := near_rat eR0.1 eR0.2.1 eR0.2.2 (av_nn c) h hh n1 n2
  rw [le_rv (fin_num (by rw [fin_abs]; exact fd)) (fin_num fp), rv_abs, ← ab_rv]
  exact this
/-- sums of finite floats: how far off -/
theorem sumR_err {n r : Nat} {T : Nat → Nat → Prop} (hn : 1 ≤ n) (h64 : n ≤ 64) (h : SumR n T r) (fr : finK .f64 r = true) : ∃ ts : Nat → Nat, (∀ q, q < n → T q (ts q)) ∧ (∀ q, q < n → finK .f64 (ts q) = true) ∧
    ab (rv r - sumQ (fun i => rv (ts i)) (n - 1)) ≤ 4 * (((n - 1 : Nat) : Rat) * (epR * sumQ (fun i => ab (rv (ts i))) (n - 1) + etR)) := by
  obtain ⟨ts, h1, f, f0, fk, hs⟩ := h
  have back : ∀ j, j ≤ n - 1 → finK .f64 (f (n - 1 - j)) = true := by
    intro j
    induction j with
    | zero => intro _; rw [Nat.sub_zero, fk]; exact fr
    | succ j ih =>
      intro hj
      have h2 := hs (n - 1 - (j + 1)) (by omega)
      rw [show n - 1 - (j + 1) + 1 = n - 1 - j by omega] at h2
      exact (add_fin h2 (ih (by omega))).1
  have ff : ∀ i, i ≤ n - 1 → finK .f64 (f i) = true := fun i hi => by have := back (n - 1 - i) (by omega); rwa [show n - 1 - (n - 1 - i) = i by omega] at this
  have ft : ∀ q, q < n → finK .f64 (ts q) = true := fun q hq => by
    rcases Nat.eq_zero_or_pos q with rfl | hp
    · rw [← f0]; exact ff 0 (by omega)
    · have h2 := hs (q - 1) (by omega)
      have e9 : f (q - 1 + 1) = f q := by rw [show q - 1 + 1 = q by omega]
      rw [e9] at h2
      exact (add_fin h2 (ff q (by omega))).2 |> fun z => by have z' : finK .f64 (ts (q - 1 + 1)) = true := z; rwa [show q - 1 + 1 = q by omega] at z'
  refine ⟨ts, h1, ft, ?_⟩
  have := sum_err (e := epR) (h := etR) (f := fun i => rv (f i)) (t := fun i => rv (ts i)) eR0.1 (by decide +kernel) eR0.2.2 (by show rv (f 0) = rv (ts 0); rw [f0]) (n - 1) (by omega) (fun i hi => add_rv (ff i (by omega)) (ft (i + 1) (by omega)) (ff (i + 1) (by omega)) (hs i hi))
  have e8 : rv (f (n - 1)) = rv r := by rw [fk]
  rw [← e8]
  exact this
theorem lt_le9 {a b c : Rat} (h : a < b) (g : b ≤ c) : a < c := by grind
theorem sumR_ok {n r : Nat} {T : Nat → Nat → Prop} (hn : 2 ≤ n) (h : SumR n T r) : okK .f64 r := by
  obtain ⟨ts, h1, f, f0, fk, hs⟩ := h
  have h2 := (hs (n - 2) (by omega)).1
  rwa [show n - 2 + 1 = n - 1 by omega, fk] at h2
theorem quo_numer {x y r : Nat} (fy : finK .f64 y = true) (fr : finK .f64 r = true) (h : resK .quo .f64 x y r) : finK .f64 x = true := by
  cases hx : finK .f64 x
  · exfalso
    cases nx : nanK .f64 x
    · have e : floatBits .quo .f64 x y = some (FloatKind.f64.format.word (ngK .f64 x ^^ ngK .f64 y) (infK .f64)) := by
        obtain ⟨n, q, e', hv', hn⟩ := read_num64 y fy
        show FloatKind.f64.format.div _ _ = _
        unfold Format.div
        rw [read_inf _ (okF .f64) x (fin_inf hx nx), e']
        rfl
      rw [res_is h e, inf_not_fin] at fr
      cases fr
    · have := res_nan h (floatBits_nan_l .quo .f64 x y nx)
      rw [fin_num fr] at this
      cases this
  · rfl
theorem rv_end {a : Nat} (h : endB a = true) : finK .f64 a = true ∧ 0 ≤ rv a := by
  obtain ⟨h1, h2⟩ := end_fin h
  refine ⟨h1, ?_⟩
  have := (le_rv (x := 0) (y := a) (by decide +kernel) (fin_num h1)).1 (by unfold endB at h; rw [Bool.and_eq_true] at h; exact h.1)
  rwa [show rv 0 = 0 by decide +kernel] at this
theorem small_et : 1048576 * etR ≤ epR * (1 / 2 ^ 102) ∧ 524288 * etR ≤ epR * (1 / 2 ^ 900 * (1 / 2 ^ 103)) ∧ etR ≤ epR * (1 / 2 ^ 900) ∧ etR ≤ epR * (1 / 2 ^ 100) := by decide +kernel
/-- the mass, and one part of the centre -/
theorem join_num {ms xs : Nat → Nat} {n M sx px : Nat} {X : Rat} (hn : 1 ≤ n) (h64 : n ≤ 64) (hms : ∀ i, i < n → endB (ms i) = true) (fx : ∀ i, i < n → finK .f64 (xs i) = true) (hx : ∀ i, i < n → av (xs i) ≤ X)
    (hX : 1 / 2 ^ 900 ≤ X) (fM : finK .f64 M = true) (hM : 1 / 2 ^ 102 ≤ rv M) (fp : finK .f64 px = true) (h1 : SumR n (fun q t => t = ms q) M) (h2 : SumR n (fun q t => resK .mul .f64 (ms q) (xs q) t) sx) (h3 : resK .quo .f64 sx M px) :
    ab (rv M - sumQ (fun i => rv (ms i)) (n - 1)) ≤ 253 * (epR * sumQ (fun i => rv (ms i)) (n - 1)) ∧ sumQ (fun i => rv (ms i)) (n - 1) ≤ 2 * rv M ∧ rv M ≤ 2 * sumQ (fun i => rv (ms i)) (n - 1) ∧ 1048576 * etR ≤ 2 * (epR * sumQ (fun i => rv (ms i)) (n - 1)) ∧ 0 < sumQ (fun i => rv (ms i)) (n - 1) ∧
    ab (rv px * sumQ (fun i => rv (ms i)) (n - 1) - sumQ (fun i => rv (ms i) * rv (xs i)) (n - 1)) ≤ 1046 * (epR * (X * sumQ (fun i => rv (ms i)) (n - 1))) := by
  have fs := quo_numer fM fp h3
  obtain ⟨us, u1, u2, u3⟩ := sumR_err hn h64 h1 fM
  obtain ⟨ts, t1, t2, t3⟩ := sumR_err hn h64 h2 fs
  have eu : ∀ i, i ≤ n - 1 → rv (us i) = rv (ms i) := fun i hi => by rw [u1 i (by omega)]
  have a0 : ∀ i, i ≤ n - 1 → 0 ≤ rv (ms i) := fun i hi => (rv_end (hms i (by omega))).2
  rw [sumQ_congr (n - 1) eu, sumQ_congr (t := fun i => ab (rv (us i))) (u := fun i => rv (ms i)) (n - 1) (fun i hi => by show ab (rv (us i)) = _; rw [eu i hi, ab_pos (a0 i hi)])] at u3
  have A0 := sumQ_nn (n - 1) a0
  have T0 : (0 : Rat) ≤ 1 / 2 ^ 102 := by decide +kernel
  obtain ⟨m1, m2, m3, m4⟩ := mass_rat (show n - 1 ≤ 63 by omega) eR0.1 eR0.2.1 eR0.2.2 A0 u3 hM small_et.1 T0
  have Xn : 0 ≤ X := Rat.le_trans (by decide +kernel) hX
  have Al : 1 / 2 ^ 103 ≤ sumQ (fun i => rv (ms i)) (n - 1) := by
    have q : (1 : Rat) / 2 ^ 102 = 2 * (1 / 2 ^ 103) := by decide +kernel
    rw [q] at hM
    generalize (1 : Rat) / 2 ^ 103 = z at *
    grind
  have hXA : (1 : Rat) / 2 ^ 900 * (1 / 2 ^ 103) ≤ X * sumQ (fun i => rv (ms i)) (n - 1) := by
    have b1 := Rat.mul_le_mul_of_nonneg_right hX (show (0 : Rat) ≤ 1 / 2 ^ 103 by decide +kernel)
    have b2 := Rat.mul_le_mul_of_nonneg_left Al Xn
    exact Rat.le_trans b1 b2
  have eXA := Rat.le_trans small_et.2.1 (Rat.mul_le_mul_of_nonneg_left hXA eR0.1)
  obtain ⟨s1, s2⟩ := sums_rat (a := fun i => rv (ms i)) (x := fun i => rv (xs i)) (p := fun i => rv (ts i)) (show n - 1 ≤ 63 by omega) eR0.1 eR0.2.1 eR0.2.2 a0 (fun i hi => by show ab (rv (xs i)) ≤ X; rw [ab_rv]; exact hx i (by omega))
    (fun i hi => mul_rv (rv_end (hms i (by omega))).1 (fx i (by omega)) (t2 i (by omega)) (t1 i (by omega))) t3 eXA
  have A1 : 0 < sumQ (fun i => rv (ms i)) (n - 1) := lt_le9 (by decide +kernel) Al
  have M1 : 0 < rv M := lt_le9 (by decide +kernel) hM
  obtain ⟨Q, q1, q2⟩ := quo_rv fs fM (fun z => by
    have : rv M = 0 := by
      have a : av M = 0 := by unfold av; rw [z, Rat.div_def]; exact Rat.zero_mul _
      unfold rv; rw [a]; split <;> simp
    rw [this] at M1
    exact absurd M1 (by decide)) fp h3
  exact ⟨m1, m3, m2, m4, A1, centre_rat eR0.1 eR0.2.1 eR0.2.2 A0 Xn m1 s2 s1 q1 q2 (Rat.le_trans small_et.2.2.1 (Rat.mul_le_mul_of_nonneg_left hX eR0.1)) A1⟩
theorem ge_rv {m T : Nat} (nm : nanK .f64 m = false) (nT : nanK .f64 T = false) (h : ltK .f64 m T = false) : rv T ≤ rv m := by
  rcases Rat.le_total (a := rv T) (b := rv m) with g | g
  · exact g
  · by_cases e : rv T = rv m
    · rw [e]; exact Rat.le_refl
    · have := (lt_rv nm nT).2 (by grind)
      rw [h] at this
      cases this
theorem sub_end {a b d : Nat} (ob : okK .f64 b) (ha : endB a = true) (hb : endB b = true) (h : resK .sub .f64 a b d) : finK .f64 d = true := by
  obtain ⟨fa, wa⟩ := end_fin ha
  obtain ⟨fb, wb⟩ := end_fin hb
  have fn : finK .f64 (Op.negFloat .f64 b) = true := by unfold finK; rw [(neg_facts .f64 b ob).1]; exact fb
  have va := o_sv wa
  have vb := o_sv wb
  rcases Int.le_total (svK .f64 a) (svK .f64 b) with g | g
  · exact o_fin fa fn fb (o_sub ob h) (by rw [sv_neg b ob]; omega)
  · exact o_fin fa fn fa (o_sub ob h) (by rw [sv_neg b ob]; omega)
theorem sub_bd {a b d : Nat} (ha : Bd 40 a) (hb : Bd 40 b) (h : resK .sub .f64 a b d) : finK .f64 d = true := by
  rw [res_is h (v := Dv .sub a b) (by obtain ⟨v, hv⟩ := Option.isSome_iff_exists.1 (some_sub ha.2.1 hb.2.1 hb.1); rw [hv, dv_some hv])]
  exact (bd_sub ha hb (by decide)).2.1
theorem tinies : rv 4156822456062967808 = 1 / 2 ^ 100 ∧ rv 553942754166571008 = 1 / 2 ^ 900 ∧ nanK .f64 4156822456062967808 = false ∧ nanK .f64 553942754166571008 = false ∧ ltK .f64 0 4156822456062967808 = true := by decide +kernel
/-- what a sum of several masses says that may be -/
theorem joinM_is {ms js xs ys : Nat → Nat} {n m j x y : Nat} (h : JoinM ms js xs ys n AboutR m j x y 0) (t1 : m ≠ 0) : ∃ sx sy, SumR n (fun q t => t = ms q) m ∧ SumR n (fun q t => resK .mul .f64 (ms q) (xs q) t) sx ∧ SumR n (fun q t => resK .mul .f64 (ms q) (ys q) t) sy ∧ resK .quo .f64 sx m x ∧ resK .quo .f64 sy m y ∧ mB m j x y = true := by
  obtain ⟨M, h1, h⟩ := h
  rcases h with ⟨_, h2, _⟩ | ⟨_, sx, sy, px, py, I, a1, a2, a3, a4, _, h8⟩
  · exact absurd h2 t1
  · rcases h8 with ⟨b, rfl, rfl, rfl, rfl, _⟩ | ⟨_, _, _, _, _, h9⟩
    · exact ⟨sx, sy, h1, a1, a2, a3, a4, b⟩
    · cases h9
theorem mB_is {m j x y : Nat} (h : mB m j x y = true) (ox : okK .f64 x) (oy : okK .f64 y) : endB m = true ∧ endB j = true ∧ Bd 40 x ∧ Bd 40 y := by
  unfold mB at h
  simp only [Bool.and_eq_true] at h
  exact ⟨h.1.1, h.1.2, bd_within ox h.2.1, bd_within oy h.2.2⟩
theorem back_mass {e h N A k : Rat} (k0 : 0 ≤ k) (k63 : k ≤ 63) (he : 0 ≤ e) (he1 : e * 1048576 ≤ 1) (h0 : 0 ≤ h) (hA : 0 ≤ A) (hh : 1048576 * h ≤ 2 * (e * A)) (hN : ab (N - A) ≤ 4 * (k * (e * A + h))) : ab (N - A) ≤ 253 * (e * A) ∧ A ≤ 2 * N := by
  have eA := Rat.mul_nonneg he hA
  have eA1 := Rat.mul_le_mul_of_nonneg_right he1 hA
  have a1 := Rat.mul_le_mul_of_nonneg_right k63 (show 0 ≤ e * A + h by grind)
  have m1 := ab_two hN
  exact ⟨by grind, by grind⟩
theorem no_sum {e h A k : Rat} (k0 : 0 ≤ k) (k63 : k ≤ 63) (he : 0 ≤ e) (he1 : e * 1048576 ≤ 1) (h0 : 0 ≤ h) (hh : 1048576 * h ≤ 2 * (e * A)) (hN : ab (0 - A) ≤ 4 * (k * (e * A + h))) : ¬ 0 < A := by
  intro hA
  have := (back_mass k0 k63 he he1 h0 (Rat.le_of_lt hA) hh hN).2
  grind
theorem back_near {ms js xs ys ms' js' xs' ys' : Nat → Nat} {n m j x y m2 j2 x2 y2 X : Nat} (hn : 2 ≤ n) (h64 : n ≤ 64) (hr : ∀ i, i < n → ms' i = ms (n - 1 - i) ∧ xs' i = xs (n - 1 - i) ∧ ys' i = ys (n - 1 - i))
    (hm : allM ms js xs ys n) (o : ∀ q, q < n → okK .f64 (xs q) ∧ okK .f64 (ys q)) (h : JoinM ms js xs ys n AboutR m j x y 0) (g : JoinM ms' js' xs' ys' n AboutR m2 j2 x2 y2 0)
    (fX : finK .f64 X = true) (hX : ∀ i, i < n → av (xs i) ≤ av X ∧ av (ys i) ≤ av X) (pX : rv X = av X) (t1 : ltK .f64 m 4156822456062967808 = false) (t2 : ltK .f64 X 553942754166571008 = false) : nearW m m2 m ∧ nearW x x2 X ∧ nearW y y2 X := by
  have m0 : m ≠ 0 := by rintro rfl; rw [tinies.2.2.2.2] at t1; cases t1
  obtain ⟨sx, sy, a1, a2, a3, a4, a5, a6⟩ := joinM_is h m0
  obtain ⟨b1, b2, b3, b4⟩ := mB_is a6 a4.1 a5.1
  have hms : ∀ i, i < n → endB (ms i) = true := fun i hi => (mB_is (hm i hi) (o i hi).1 (o i hi).2).1
  have bx : ∀ i, i < n → Bd 40 (xs i) := fun i hi => (mB_is (hm i hi) (o i hi).1 (o i hi).2).2.2.1
  have by' : ∀ i, i < n → Bd 40 (ys i) := fun i hi => (mB_is (hm i hi) (o i hi).1 (o i hi).2).2.2.2
  have fM := (rv_end b1).1
  have hM : 1 / 2 ^ 100 ≤ rv m := by have := ge_rv (fin_num fM) tinies.2.2.1 t1; rwa [tinies.1] at this
  have hM' : 1 / 2 ^ 102 ≤ rv m := Rat.le_trans (by decide +kernel) hM
  have hXl : 1 / 2 ^ 900 ≤ av X := by have := ge_rv (fin_num fX) tinies.2.2.2.1 t2; rw [tinies.2.1, pX] at this; exact this
  obtain ⟨c1, c2, c6, c7, c3, c4⟩ := join_num (by omega) h64 hms (fun i hi => (bx i hi).2.1) (fun i hi => (hX i hi).1) hXl fM hM' b3.2.1 a1 a2 a4
  obtain ⟨_, _, _, _, _, c5⟩ := join_num (by omega) h64 hms (fun i hi => (by' i hi).2.1) (fun i hi => (hX i hi).2) hXl fM hM' b4.2.1 a1 a3 a5
  -- the other way round
  have hms' : ∀ i, i < n → endB (ms' i) = true := fun i hi => by rw [(hr i hi).1]; exact hms _ (by omega)
  have sA : sumQ (fun i => rv (ms' i)) (n - 1) = sumQ (fun i => rv (ms i)) (n - 1) := by
    rw [← sumQ_back (fun i => rv (ms i)) (n - 1)]
    exact sumQ_congr _ (fun i hi => by show rv (ms' i) = rv (ms (n - 1 - i)); rw [(hr i (by omega)).1])
  have sX : sumQ (fun i => rv (ms' i) * rv (xs' i)) (n - 1) = sumQ (fun i => rv (ms i) * rv (xs i)) (n - 1) := by
    rw [← sumQ_back (fun i => rv (ms i) * rv (xs i)) (n - 1)]
    exact sumQ_congr _ (fun i hi => by show rv (ms' i) * rv (xs' i) = rv (ms (n - 1 - i)) * rv (xs (n - 1 - i)); rw [(hr i (by omega)).1, (hr i (by omega)).2.1])
  have sY : sumQ (fun i => rv (ms' i) * rv (ys' i)) (n - 1) = sumQ (fun i => rv (ms i) * rv (ys i)) (n - 1) := by
    rw [← sumQ_back (fun i => rv (ms i) * rv (ys i)) (n - 1)]
    exact sumQ_congr _ (fun i hi => by show rv (ms' i) * rv (ys' i) = rv (ms (n - 1 - i)) * rv (ys (n - 1 - i)); rw [(hr i (by omega)).1, (hr i (by omega)).2.2])
  have k0 : (0 : Rat) ≤ ((n - 1 : Nat) : Rat) := by exact_mod_cast Nat.zero_le _
  have k63 : ((n - 1 : Nat) : Rat) ≤ 63 := by exact_mod_cast (show n - 1 ≤ 63 by omega)
  have m20 : m2 ≠ 0 := by
    rintro rfl
    obtain ⟨M2, g1, g2⟩ := g
    rcases g2 with ⟨g3, _⟩ | ⟨_, sx', sy', px', py', I', _, _, _, _, _, g8⟩
    · have f2 : finK .f64 M2 = true ∧ rv M2 = 0 := by
        unfold eqK at g3
        simp only [Bool.and_eq_true, Bool.not_eq_true', decide_eq_true_eq] at g3
        have z : rgK .f64 M2 = 0 := (wo_zero .f64 M2).1 (by rw [g3.2]; decide +kernel)
        refine ⟨by unfold finK; rw [z, inf64]; rfl, ?_⟩
        have a : av M2 = 0 := by unfold av mg; rw [z, vl_zero, Rat.div_def]; exact Rat.zero_mul _
        unfold rv; rw [a]; split <;> simp
      obtain ⟨us, u1, u2, u3⟩ := sumR_err (by omega) h64 g1 f2.1
      have eu : ∀ i, i ≤ n - 1 → rv (us i) = rv (ms' i) := fun i hi => by rw [u1 i (by omega)]
      rw [sumQ_congr (n - 1) eu, sumQ_congr (t := fun i => ab (rv (us i))) (u := fun i => rv (ms' i)) (n - 1) (fun i hi => by show ab (rv (us i)) = _; rw [eu i hi, ab_pos (rv_end (hms' i (by omega))).2]), sA, f2.2] at u3
      exact absurd c3 (no_sum k0 k63 eR0.1 eR0.2.1 eR0.2.2 c7 u3)
    · rcases g8 with ⟨b, e1, _⟩ | ⟨_, _, _, _, _, h9⟩
      · subst e1
        obtain ⟨us, u1, u2, u3⟩ := sumR_err (by omega) h64 g1 (by decide +kernel)
        have eu : ∀ i, i ≤ n - 1 → rv (us i) = rv (ms' i) := fun i hi => by rw [u1 i (by omega)]
        rw [sumQ_congr (n - 1) eu, sumQ_congr (t := fun i => ab (rv (us i))) (u := fun i => rv (ms' i)) (n - 1) (fun i hi => by show ab (rv (us i)) = _; rw [eu i hi, ab_pos (rv_end (hms' i (by omega))).2]), sA, show rv 0 = 0 by decide +kernel] at u3
        exact absurd c3 (no_sum k0 k63 eR0.1 eR0.2.1 eR0.2.2 c7 u3)
      · cases h9
  obtain ⟨sx', sy', a1', a2', a3', a4', a5', a6'⟩ := joinM_is g m20
  obtain ⟨b1', b2', b3', b4'⟩ := mB_is a6' a4'.1 a5'.1
  have fM' := (rv_end b1').1
  have om := sumR_ok hn a1'
  obtain ⟨us, u1, u2, u3⟩ := sumR_err (by omega) h64 a1' fM'
  have eu : ∀ i, i ≤ n - 1 → rv (us i) = rv (ms' i) := fun i hi => by rw [u1 i (by omega)]
  rw [sumQ_congr (n - 1) eu, sumQ_congr (t := fun i => ab (rv (us i))) (u := fun i => rv (ms' i)) (n - 1) (fun i hi => by show ab (rv (us i)) = _; rw [eu i hi, ab_pos (rv_end (hms' i (by omega))).2]), sA] at u3
  have d1 := back_mass k0 k63 eR0.1 eR0.2.1 eR0.2.2 (Rat.le_of_lt c3) c7 u3
  have hM2 : 1 / 2 ^ 102 ≤ rv m2 := by
    have q : (1 : Rat) / 2 ^ 100 = 4 * (1 / 2 ^ 102) := by decide +kernel
    rw [q] at hM
    generalize (1 : Rat) / 2 ^ 102 = z at *
    have := d1.2
    grind
  have o' : ∀ i, i < n → Bd 40 (xs' i) ∧ Bd 40 (ys' i) ∧ av (xs' i) ≤ av X ∧ av (ys' i) ≤ av X := fun i hi => by
    rw [(hr i hi).2.1, (hr i hi).2.2]
    exact ⟨bx _ (by omega), by' _ (by omega), (hX _ (by omega)).1, (hX _ (by omega)).2⟩
  obtain ⟨_, _, _, _, _, c4'⟩ := join_num (by omega) h64 hms' (fun i hi => (o' i hi).1.2.1) (fun i hi => (o' i hi).2.2.1) hXl fM' hM2 b3'.2.1 a1' a2' a4'
  obtain ⟨_, _, _, _, _, c5'⟩ := join_num (by omega) h64 hms' (fun i hi => (o' i hi).2.1.2.1) (fun i hi => (o' i hi).2.2.2) hXl fM' hM2 b4'.2.1 a1' a3' a5'
  rw [sA, sX] at c4'
  rw [sA, sY] at c5'
  have hXe := Rat.le_trans small_et.2.2.1 (Rat.mul_le_mul_of_nonneg_left hXl eR0.1)
  have avm : av m = rv m := by have := ab_rv m; rwa [ab_pos (rv_end b1).2, eq_comm] at this
  refine ⟨near_of om fM fM' fM (fun d => sub_end om b1 b1') ?_ ?_, near_of b3'.1 b3.2.1 b3'.2.1 fX (fun d => sub_bd b3 b3') (centre_two c3 c4 c4') hXe, near_of b4'.1 b4.2.1 b4'.2.1 fX (fun d => sub_bd b4 b4') (centre_two c3 c5 c5') hXe⟩
  · rw [avm]
    have a := mass_two eR0.1 c2 c1 d1.1
    have b := Rat.mul_nonneg eR0.1 (rv_end b1).2
    grind
  · rw [avm]
    exact Rat.le_trans small_et.2.2.2 (Rat.mul_le_mul_of_nonneg_left hM eR0.1)
end Go.Proofs.Ytoofbfjlgablkaa
