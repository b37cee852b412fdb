/-
  Plain facts on floats, more: rounding to the nearest rung, sums and products of finite floats, signs turned. No program is named here.
-/
import Derived.Test.YthbdckjfekimdabLsd
import Derived.Test.YthbdckjfekimdabMau
namespace Go.Proofs.Ythbdckjfekimdab
open Ieee Go.RowKit
set_option linter.unusedSimpArgs false
set_option linter.unusedVariables false

/-! ### As near the one way as the other: floats that are finite and not below nought are ordered as their words -/
def Gf (x : Nat) : Prop := okK .f64 x ∧ finK .f64 x = true ∧ ngK .f64 x = false
theorem gf_rg {x : Nat} (h : Gf x) : rgK .f64 x = x := by
  have h3 := h.2.2
  rw [ng64, beq_eq_false_iff_ne] at h3
  have h1 := h.1
  rw [okK64] at h1
  rw [rg64]
  omega
theorem gf_lt {x y : Nat} (hx : Gf x) (hy : Gf y) : ltK .f64 x y = decide (x < y) := by
  unfold ltK
  rw [fin_nan hx.2.1, fin_nan hy.2.1, woK_eq, woK_eq, hx.2.2, hy.2.2, gf_rg hx, gf_rg hy]
  simp
theorem gf_zero : Gf 0 := ⟨ok_zero, by decide +kernel, by decide +kernel⟩
theorem gf_ln {n : Nat} {a : Vp} (ha : BdP n a) (hn : n ≤ 400) : Gf (lnF a) := by
  rw [lnF_eq ha hn]
  have b := ln_finG ha.1 ha.2 hn
  obtain ⟨f, g⟩ := sq_ng ha.1 ha.2 hn
  have q := sq_res (sqr_some f g)
  refine ⟨b.1, b.2.1, ?_⟩
  by_cases hz : mg (dtK a.1 a.2 a.1 a.2) = 0
  · have e := sqr_zero f g hz q
    unfold lnK
    rw [e]
    decide +kernel
  · exact (root_fin f g hz q).2.1
/-- a way back is as long -/
theorem oF_res (op : BinOp) (x y : Nat) : resK op .f64 x y ((floatBits op .f64 x y).getD 9221120237041090560) := res_o op x y
theorem ln_back {n : Nat} {a b : Vp} (ha : BdP n a) (hb : BdP n b) (hn : n ≤ 300) : lnF (suF a b) = lnF (suF b a) := by
  have h1 := su_bd ha hb (by omega)
  have h2 := su_bd hb ha (by omega)
  have r1 := bd_sub ha.1 hb.1 (show n ≤ 900 by omega)
  have r2 := bd_sub ha.2 hb.2 (show n ≤ 900 by omega)
  have r3 := bd_sub hb.1 ha.1 (show n ≤ 900 by omega)
  have r4 := bd_sub hb.2 ha.2 (show n ≤ 900 by omega)
  have e1 : suF a b = (Dv .sub a.1 b.1, Dv .sub a.2 b.2) := by
    unfold suF
    rw [oF_dv (some_sub ha.1.2.1 hb.1.2.1 hb.1.1) r1, oF_dv (some_sub ha.2.2.1 hb.2.2.1 hb.2.1) r2]
  have e2 : suF b a = (Dv .sub b.1 a.1, Dv .sub b.2 a.2) := by
    unfold suF
    rw [oF_dv (some_sub hb.1.2.1 ha.1.2.1 ha.1.1) r3, oF_dv (some_sub hb.2.2.1 ha.2.2.1 ha.2.1) r4]
  have m1 := bd_mul r1 r1 (by omega)
  have m2 := bd_mul r2 r2 (by omega)
  have m3 := bd_mul r3 r3 (by omega)
  have m4 := bd_mul r4 r4 (by omega)
  have s1 := sq_anti ha.1.1 hb.1.1 (dv_res (some_sub ha.1.2.1 hb.1.2.1 hb.1.1)) (dv_res (some_sub hb.1.2.1 ha.1.2.1 ha.1.1)) (dv_res (some_mul r1.2.1 r1.2.1)) (dv_res (some_mul r3.2.1 r3.2.1))
  have s2 := sq_anti ha.2.1 hb.2.1 (dv_res (some_sub ha.2.2.1 hb.2.2.1 hb.2.1)) (dv_res (some_sub hb.2.2.1 ha.2.2.1 ha.2.1)) (dv_res (some_mul r2.2.1 r2.2.1)) (dv_res (some_mul r4.2.1 r4.2.1))
  have w1 : Dv .mul (Dv .sub a.1 b.1) (Dv .sub a.1 b.1) = Dv .mul (Dv .sub b.1 a.1) (Dv .sub b.1 a.1) := by
    rcases smK_cases s1 with h | ⟨h, _⟩
    · exact h
    · rw [fin_nan m1.2.1] at h; cases h
  have w2 : Dv .mul (Dv .sub a.2 b.2) (Dv .sub a.2 b.2) = Dv .mul (Dv .sub b.2 a.2) (Dv .sub b.2 a.2) := by
    rcases smK_cases s2 with h | ⟨h, _⟩
    · exact h
    · rw [fin_nan m2.2.1] at h; cases h
  rw [lnF_eq h1 (by omega), lnF_eq h2 (by omega), e1, e2]
  unfold lnK dtK
  simp only
  rw [w1, w2]
theorem nrF_1 {N M : Nr} (h1 : Gf N.1) (h2 : Gf M.1) : (nrF N M).1 = min N.1 M.1 := by
  unfold nrF
  rw [gf_lt h2 h1]
  by_cases h : M.1 < N.1
  · rw [decide_eq_true h, if_pos rfl]; omega
  · rw [decide_eq_false h]
    show N.1 = _
    omega
theorem gf_min {x y : Nat} (hx : Gf x) (hy : Gf y) : Gf (min x y) := by
  by_cases h : x ≤ y
  · rw [Nat.min_eq_left h]; exact hx
  · rw [Nat.min_eq_right (by omega)]; exact hy
/-- the four distances -/
def d4 (c d a : Vp) : Nat := lnF (suF a (ptF c d a).1)
theorem d4_gf {c d a : Vp} (hc : BdP 40 c) (hd : BdP 40 d) (ha : BdP 40 a) : Gf (d4 c d a) := by
  unfold d4
  exact gf_ln (n := 48) (su_bd (n := 46) (ha.mono (by decide)) (pt_bd hc hd) (by decide)) (by decide)
theorem n0_1 {a c d : Vp} (hc : BdP 40 c) (hd : BdP 40 d) (ha : BdP 40 a) : (n0F a c d).1 = d4 c d a := by
  have h := ln_back (n := 46) (pt_bd (p := a) hc hd) (ha.mono (by decide)) (by decide)
  simp only [n0F, apN, d4]
  exact h
theorem n1_1 (a b c : Vp) : (n1F a b c).1 = d4 a b c := by simp only [n1F, apN, d4]
theorem end_1 {a b c d : Vp} (ha : BdP 40 a) (hb : BdP 40 b) (hc : BdP 40 c) (hd : BdP 40 d) : (endF a b c d).1 = min (min (d4 c d a) (d4 c d b)) (min (d4 a b c) (d4 a b d)) := by
  have g1 := d4_gf hc hd ha
  have g2 := d4_gf hc hd hb
  have g3 := d4_gf ha hb hc
  have g4 := d4_gf ha hb hd
  have f1 := n0_1 hc hd ha
  have f2 := n0_1 hc hd hb
  unfold endF
  have s1 : (nrF (n0F a c d) (n0F b c d)).1 = min (d4 c d a) (d4 c d b) := by rw [nrF_1 (by rw [f1]; exact g1) (by rw [f2]; exact g2), f1, f2]
  have s2 : (nrF (nrF (n0F a c d) (n0F b c d)) (n1F a b c)).1 = min (min (d4 c d a) (d4 c d b)) (d4 a b c) := by rw [nrF_1 (by rw [s1]; exact gf_min g1 g2) g3, s1, n1_1]
  rw [nrF_1 (by rw [s2]; exact gf_min (gf_min g1 g2) g3) g4, s2, n1_1]
  omega
theorem ac_back (a b c d : Vp) : acF a b c d = acF c d a b := by unfold acF; exact Bool.and_comm _ _
theorem seg_back {a b c d : Vp} (ha : BdP 40 a) (hb : BdP 40 b) (hc : BdP 40 c) (hd : BdP 40 d) : (segF a b c d).1 = (segF c d a b).1 := by
  unfold segF
  rw [ac_back c d a b]
  split
  · rfl
  · rw [end_1 ha hb hc hd, end_1 hc hd ha hb]
    omega
theorem seg_gf {a b c d : Vp} (ha : BdP 40 a) (hb : BdP 40 b) (hc : BdP 40 c) (hd : BdP 40 d) : Gf (segF a b c d).1 := by
  unfold segF
  split
  · exact gf_zero
  · rw [end_1 ha hb hc hd]
    exact gf_min (gf_min (d4_gf hc hd ha) (d4_gf hc hd hb)) (gf_min (d4_gf ha hb hc) (d4_gf ha hb hd))
/-! ### the least of all pairs of sides -/
def sidF (xs ys us vs : Nat → Nat) (n m i j : Nat) : Nat := (segF (sdA xs ys i) (sdA xs ys ((i + 1) % n)) (sdA us vs j) (sdA us vs ((j + 1) % m))).1
/-- finite, not below nought, or infinite -/
def Gi (x : Nat) : Prop := Gf x ∨ x = 9218868437227405312
theorem gi_lt {x y : Nat} (hx : Gf x) (hy : Gi y) : ltK .f64 x y = decide (x < y) := by
  rcases hy with hy | rfl
  · exact gf_lt hx hy
  · have h := hx.2.1
    unfold finK at h
    rw [gf_rg hx, inf64] at h
    rw [lt_inf hx.2.1, h]
theorem in_1 {A B : Vp} {us vs : Nat → Nat} {m : Nat} {N : Nr} (hA : BdP 40 A) (hB : BdP 40 B) (hm : ∀ j, j < m → BdP 40 (sdA us vs j)) (hN : Gi N.1) : ∀ k, k ≤ m → Gi (inF A B us vs m N k).1 ∧ (inF A B us vs m N k).1 ≤ N.1 ∧ (∀ j, j < k → (inF A B us vs m N k).1 ≤ (segF A B (sdA us vs j) (sdA us vs ((j + 1) % m))).1) ∧ ((inF A B us vs m N k).1 = N.1 ∨ ∃ j, j < k ∧ (inF A B us vs m N k).1 = (segF A B (sdA us vs j) (sdA us vs ((j + 1) % m))).1) := by
  intro k
  induction k with
  | zero => intro _; exact ⟨hN, Nat.le_refl _, fun j hj => by omega, .inl rfl⟩
  | succ k ih =>
    intro hk
    obtain ⟨h1, h2, h3, h4⟩ := ih (by omega)
    have g := seg_gf hA hB (hm k (by omega)) (hm ((k + 1) % m) (Nat.mod_lt _ (by omega)))
    have e : inF A B us vs m N (k + 1) = nrF (inF A B us vs m N k) (segF A B (sdA us vs k) (sdA us vs ((k + 1) % m))) := rfl
    rw [e]
    unfold nrF
    rw [gi_lt g h1]
    by_cases h : (segF A B (sdA us vs k) (sdA us vs ((k + 1) % m))).1 < (inF A B us vs m N k).1
    · rw [decide_eq_true h, if_pos rfl]
      refine ⟨.inl g, by omega, fun j hj => ?_, .inr ⟨k, by omega, rfl⟩⟩
      by_cases ej : j = k
      · subst ej; exact Nat.le_refl _
      · have := h3 j (by omega); omega
    · rw [decide_eq_false h]
      refine ⟨h1, h2, fun j hj => ?_, ?_⟩
      · by_cases ej : j = k
        · subst ej; simpa using h
        · exact h3 j (by omega)
      · rcases h4 with h4 | ⟨j, hj, h4⟩
        · exact .inl h4
        · exact .inr ⟨j, by omega, h4⟩
theorem ou_1 {xs ys us vs : Nat → Nat} {n m mb : Nat} (hn : ∀ i, i < n → BdP 40 (sdA xs ys i)) (hm : ∀ j, j < m → BdP 40 (sdA us vs j)) (hmb : mb ≤ m) : ∀ k, k ≤ n → Gi (ouF xs ys n us vs m mb k).1 ∧ (∀ i j, i < k → j < mb → (ouF xs ys n us vs m mb k).1 ≤ sidF xs ys us vs n m i j) ∧ ((ouF xs ys n us vs m mb k).1 = 9218868437227405312 ∨ ∃ i j, i < k ∧ j < mb ∧ (ouF xs ys n us vs m mb k).1 = sidF xs ys us vs n m i j) := by
  intro k
  induction k with
  | zero => intro _; exact ⟨.inr rfl, fun i j hi => by omega, .inl rfl⟩
  | succ k ih =>
    intro hk
    obtain ⟨h1, h2, h3⟩ := ih (by omega)
    obtain ⟨g1, g2, g3, g4⟩ := in_1 (A := sdA xs ys k) (B := sdA xs ys ((k + 1) % n)) (N := ouF xs ys n us vs m mb k) (hn k (by omega)) (hn _ (Nat.mod_lt _ (by omega))) hm h1 mb hmb
    have e : ouF xs ys n us vs m mb (k + 1) = inF (sdA xs ys k) (sdA xs ys ((k + 1) % n)) us vs m (ouF xs ys n us vs m mb k) mb := rfl
    rw [e]
    refine ⟨g1, fun i j hi hj => ?_, ?_⟩
    · by_cases ei : i = k
      · subst ei; exact g3 j hj
      · have := h2 i j (by omega) hj; omega
    · rcases g4 with g4 | ⟨j, hj, g4⟩
      · rw [g4]
        rcases h3 with h3 | ⟨i, j, hi, hj, h3⟩
        · exact .inl h3
        · exact .inr ⟨i, j, by omega, hj, h3⟩
      · exact .inr ⟨k, j, by omega, hj, g4⟩
/-- **as near the one way as the other** -/
theorem ou_back {xs ys us vs : Nat → Nat} {n m na mb : Nat} (hn : ∀ i, i < n → BdP 40 (sdA xs ys i)) (hm : ∀ j, j < m → BdP 40 (sdA us vs j)) (hna : na ≤ n) (hmb : mb ≤ m) (a0 : 0 < na) (b0 : 0 < mb) : (ouF xs ys n us vs m mb na).1 = (ouF us vs m xs ys n na mb).1 ∧ Gf (ouF xs ys n us vs m mb na).1 := by
  have sb : ∀ i j, i < n → j < m → sidF xs ys us vs n m i j = sidF us vs xs ys m n j i := fun i j hi hj => seg_back (hn i hi) (hn _ (Nat.mod_lt _ (by omega))) (hm j hj) (hm _ (Nat.mod_lt _ (by omega)))
  have sg : ∀ i j, i < n → j < m → Gf (sidF xs ys us vs n m i j) := fun i j hi hj => seg_gf (hn i hi) (hn _ (Nat.mod_lt _ (by omega))) (hm j hj) (hm _ (Nat.mod_lt _ (by omega)))
  obtain ⟨g1, g2, g3⟩ := ou_1 hn hm hmb na hna
  obtain ⟨k1, k2, k3⟩ := ou_1 hm hn hna mb hmb
  have fin : ∀ x, Gf x → x < 9218868437227405312 := fun x hx => by
    have h := hx.2.1
    unfold finK at h
    rw [gf_rg hx, inf64] at h
    exact of_decide_eq_true h
  have l0 := g2 0 0 a0 b0
  have l1 := k2 0 0 b0 a0
  have f0 := fin _ (sg 0 0 (by omega) (by omega))
  rw [← sb 0 0 (by omega) (by omega)] at l1
  rcases g3 with g3 | ⟨i, j, hi, hj, g3⟩
  · omega
  rcases k3 with k3 | ⟨j', i', hj', hi', k3⟩
  · omega
  have q1 := k2 j i hj hi
  rw [← sb i j (by omega) (by omega), ← g3] at q1
  have q2 := g2 i' j' hi' hj'
  rw [sb i' j' (by omega) (by omega), ← k3] at q2
  exact ⟨by omega, by rw [g3]; exact sg i j (by omega) (by omega)⟩
end Go.Proofs.Ythbdckjfekimdab
namespace Go.Proofs.Ythbdckjfekimdab
open Ieee Go.RowKit
set_option linter.unusedSimpArgs false
set_option linter.unusedVariables false

theorem co_back {o1 o2 : Option Nat} {us vs xs ys : Nat → Nat} {N M : Nr} (h : N.1 = M.1) : (coF o1 o2 us vs xs ys N).1 = (coF o2 o1 xs ys us vs M).1 := by
  cases o1 <;> cases o2 <;> simp only [coF]
  exact h
theorem co_gf {o1 o2 : Option Nat} {us vs xs ys : Nat → Nat} {N : Nr} (h : Gf N.1) : Gf (coF o1 o2 us vs xs ys N).1 := by
  cases o1 <;> cases o2 <;> simp only [coF]
  · exact h
  all_goals exact gf_zero
theorem fi_none {f : Nat → Bool} : ∀ {m : Nat}, fiN f m = none → ∀ j, j < m → f j = false
  | 0, _, j, hj => by omega
  | m + 1, h, j, hj => by
    change (match fiN f m with | some i => some i | none => if f m then some m else none) = none at h
    cases e : fiN f m with
    | some q => rw [e] at h; cases h
    | none =>
      rw [e] at h
      by_cases ej : j = m
      · subst ej
        cases g : f j
        · rfl
        · rw [g] at h; cases h
      · exact fi_none e j (by omega)
/-! ### noughts -/
def Zw (x : Nat) : Prop := x = 0 ∨ x = 9223372036854775808
theorem zw_of {x : Nat} (o : okK .f64 x) (h : rgK .f64 x = 0) : Zw x := zero_words o h
theorem sub_zw {n x y : Nat} (hx : Bd n x) (hy : Bd n y) (hn : n ≤ 900) (e : svK .f64 x = svK .f64 y) : Zw (Dv .sub x y) := by
  have r := bd_sub hx hy hn
  have e0 : floatBits .sub .f64 x y = floatBits .add .f64 x (Op.negFloat .f64 y) := sub_is_add .f64 x y hy.1
  have k := add_spec .f64 x (Op.negFloat .f64 y) hx.2.1 (by rw [fin_neg _ hy.1]; exact hy.2.1)
  rw [sv_neg y hy.1, ← e0, e, show svK .f64 y + -svK .f64 y = 0 by omega] at k
  rw [show (0 : Int).natAbs = 0 by rfl, rr_zero, Nat.zero_min] at k
  have ed := dv_some k
  refine zw_of r.1 ?_
  rw [ed, rgK_word _ _ _ (Nat.zero_le _)]
theorem mul0_zw {w : Nat} {n : Nat} (hw : Bd n w) (hn : n ≤ 800) : Zw (Dv .mul 0 w) := by
  have b0 : Bd 0 0 := ⟨ok_zero, by decide +kernel, by decide +kernel⟩
  have r := bd_mul b0 hw (by omega)
  have k := mul_spec 0 w (by decide +kernel) hw.2.1
  rw [show rgK .f64 0 = 0 by decide +kernel, show vl FloatKind.f64.format 0 = 0 by decide +kernel, Nat.zero_mul, rr_zero, Nat.zero_min] at k
  have ed := dv_some k
  refine zw_of r.1 ?_
  rw [ed, rgK_word _ _ _ (Nat.zero_le _)]
theorem add_zw {x z n : Nat} (hx : Bd n x) (hz : Zw z) (hn : n ≤ 900) : svK .f64 (Dv .add x z) = svK .f64 x := by
  have fz : finK .f64 z = true := by rcases hz with rfl | rfl <;> decide +kernel
  have sz : svK .f64 z = 0 := by rcases hz with rfl | rfl <;> decide +kernel
  have k := add_spec .f64 x z hx.2.1 fz
  rw [sz, Int.add_zero] at k
  have ea : (svK .f64 x).natAbs = vl FloatKind.f64.format (rgK .f64 x) := by unfold svK; split <;> simp
  have re := rr_exact FloatKind.f64.format fb1 (rgK .f64 x) 0
  rw [Nat.pow_zero, Nat.mul_one] at re
  rw [ea, re] at k
  have hr : rgK .f64 x < infK .f64 := of_decide_eq_true hx.2.1
  rw [Nat.min_eq_left (Nat.le_of_lt hr)] at k
  have ed := dv_some k
  rw [ed]
  by_cases h0 : svK .f64 x = 0
  · rw [if_pos h0]
    have hv : vl FloatKind.f64.format (rgK .f64 x) = 0 := by rw [← ea, h0]; rfl
    unfold svK
    rw [rgK_word _ _ _ (Nat.le_of_lt hr), hv]
    simp
  · rw [if_neg h0]
    have e1 : svK .f64 (FloatKind.f64.format.word (decide (svK .f64 x < 0)) (rgK .f64 x)) = if decide (svK .f64 x < 0) then -(vl FloatKind.f64.format (rgK .f64 x) : Int) else (vl FloatKind.f64.format (rgK .f64 x) : Int) := by
      unfold svK
      rw [ngK_word _ _ _ (Nat.le_of_lt hr), rgK_word _ _ _ (Nat.le_of_lt hr)]
    rw [e1, ← ea]
    by_cases h1 : svK .f64 x < 0
    · rw [decide_eq_true h1, if_pos rfl]; omega
    · rw [decide_eq_false h1, if_neg (by decide)]; omega
theorem ln_zw {x y : Nat} (hx : Zw x) (hy : Zw y) : lnF (x, y) = 0 := by
  rcases hx with rfl | rfl <;> rcases hy with rfl | rfl <;> decide +kernel
theorem dt_zw {x y a b n : Nat} (hx : Zw x) (hy : Zw y) (ha : Bd n a) (hb : Bd n b) (hn : n ≤ 300) : Zw (dtF (x, y) (a, b)) := by
  have z : ∀ {x a : Nat}, Zw x → Bd n a → Zw (oF .mul x a) := by
    intro x a hx ha
    have bx : Bd 0 x := by rcases hx with rfl | rfl <;> exact ⟨by rw [okK64]; decide, by decide +kernel, by decide +kernel⟩
    have r := bd_mul bx ha (by omega)
    rw [oF_dv (some_mul bx.2.1 ha.2.1) r]
    have k := mul_spec x a bx.2.1 ha.2.1
    rw [show rgK .f64 x = 0 by rcases hx with rfl | rfl <;> decide +kernel, show vl FloatKind.f64.format 0 = 0 by decide +kernel, Nat.zero_mul, rr_zero, Nat.zero_min] at k
    have ed := dv_some k
    refine zw_of r.1 ?_
    rw [ed, rgK_word _ _ _ (Nat.zero_le _)]
  have h1 := z hx ha
  have h2 := z hy hb
  unfold dtF
  simp only
  generalize oF .mul x a = p at *
  generalize oF .mul y b = q at *
  unfold Zw
  rcases h1 with rfl | rfl <;> rcases h2 with rfl | rfl <;> decide +kernel
theorem quo_zero2 {x y : Nat} (fx : finK .f64 x = true) (fy : finK .f64 y = true) (h0 : mg y ≠ 0) (hx : svK .f64 x = 0) : finK .f64 (Dv .quo x y) = true ∧ svK .f64 (Dv .quo x y) = 0 := by
  obtain ⟨Q, r, _, _, _, e, _, hz⟩ := quo_near fx fy h0
  have hm : mg x = 0 := by
    have : (svK .f64 x).natAbs = mg x := by unfold svK mg; split <;> simp
    rw [hx] at this
    exact this.symm
  rw [hz hm, Nat.zero_min] at e
  have e2 := res_is (dv_res (some_quo fx fy h0)) e
  rw [e2]
  constructor
  · unfold finK
    rw [rgK_word _ _ _ (Nat.zero_le _), inf64]
    rfl
  · unfold svK
    rw [rgK_word _ _ _ (Nat.zero_le _), show vl FloatKind.f64.format 0 = 0 by decide +kernel]
    simp
/-- an end of a segment is next to itself -/
theorem d4_own {a d : Vp} (ha : BdP 40 a) (hd : BdP 40 d) : d4 a d a = 0 := by
  have su0 : ∀ {b : Vp}, BdP 46 b → svK .f64 a.1 = svK .f64 b.1 → svK .f64 a.2 = svK .f64 b.2 → lnF (suF a b) = 0 := by
    intro b hb e1 e2
    have r1 := bd_sub (bd_mono ha.1 (by decide : 40 ≤ 46)) hb.1 (by decide)
    have r2 := bd_sub (bd_mono ha.2 (by decide : 40 ≤ 46)) hb.2 (by decide)
    have s1 := sub_zw (bd_mono ha.1 (by decide : 40 ≤ 46)) hb.1 (by decide) e1
    have s2 := sub_zw (bd_mono ha.2 (by decide : 40 ≤ 46)) hb.2 (by decide) e2
    unfold suF
    rw [oF_dv (some_sub ha.1.2.1 hb.1.2.1 hb.1.1) r1, oF_dv (some_sub ha.2.2.1 hb.2.2.1 hb.2.1) r2]
    exact ln_zw s1 s2
  have key : ltK .f64 0 (dtF (suF d a) (suF d a)) = true → clK .f64 (oF .quo (dtF (suF a a) (suF d a)) (dtF (suF d a) (suF d a))) 0 4607182418800017408 = 0 := by
    intro hs
    have w := su_bd hd ha (by decide)
    have z1 := sub_zw ha.1 ha.1 (by decide) rfl
    have z2 := sub_zw ha.2 ha.2 (by decide) rfl
    have e : suF a a = (Dv .sub a.1 a.1, Dv .sub a.2 a.2) := by
      unfold suF
      rw [oF_dv (some_sub ha.1.2.1 ha.1.2.1 ha.1.1) (bd_sub ha.1 ha.1 (by decide)), oF_dv (some_sub ha.2.2.1 ha.2.2.1 ha.2.1) (bd_sub ha.2 ha.2 (by decide))]
    have hz := dt_zw z1 z2 w.1 w.2 (by decide)
    have hzz : Zw (dtF (suF a a) (suF d a)) := by rw [e]; exact hz
    have bs := dtF_bd w w (by decide)
    have nz := pos_mg hs
    have fz : finK .f64 (dtF (suF a a) (suF d a)) = true := by rcases hzz with h | h <;> rw [h] <;> decide +kernel
    have sz : svK .f64 (dtF (suF a a) (suF d a)) = 0 := by rcases hzz with h | h <;> rw [h] <;> decide +kernel
    obtain ⟨f, s0⟩ := quo_zero2 fz bs.2.1 nz sz
    have hl : ltK .f64 0 (oF .quo (dtF (suF a a) (suF d a)) (dtF (suF d a) (suF d a))) = false := by
      rw [oF_dv (n := 1024) (some_quo fz bs.2.1 nz) ⟨okDv _ (some_quo fz bs.2.1 nz), f, av_le f⟩]
      cases hc : ltK .f64 0 (Dv .quo (dtF (suF a a) (suF d a)) (dtF (suF d a) (suF d a))) with
      | false => rfl
      | true =>
        exfalso
        have := (lt_rv (show nanK .f64 0 = false by decide +kernel) (fin_nan f)).1 hc
        rw [rv_sv, rv_sv, s0, show svK .f64 0 = 0 by decide +kernel] at this
        exact absurd this (by grind)
    unfold clK
    rw [hl]
    rfl
  have mo : ∀ {x w : Nat}, Bd 40 x → Bd 42 w → svK .f64 x = svK .f64 (oF .add x (oF .mul 0 w)) := by
    intro x w hx hw
    have b0 : Bd 0 0 := ⟨ok_zero, by decide +kernel, by decide +kernel⟩
    have r := bd_mul b0 hw (by decide)
    have rz := mul0_zw hw (by decide)
    have ra := bd_add (bd_mono hx (by decide : 40 ≤ 43)) (bd_mono r (by decide)) (by decide)
    rw [oF_dv (some_mul b0.2.1 hw.2.1) r, oF_dv (some_add hx.2.1 r.2.1) ra]
    exact (add_zw hx rz (by decide)).symm
  have w := su_bd hd ha (by decide)
  unfold d4
  refine su0 (pt_bd ha hd) ?_ ?_
  · unfold ptF
    split
    · rename_i hs
      rw [key hs]
      unfold moF
      exact mo ha.1 w.1
    · rfl
  · unfold ptF
    split
    · rename_i hs
      rw [key hs]
      unfold moF
      exact mo ha.2 w.2
    · rfl
/-- of a shape and itself -/
theorem end_own {a b : Vp} (ha : BdP 40 a) (hb : BdP 40 b) : (segF a b a b).1 = 0 := by
  unfold segF
  split
  · rfl
  · rw [end_1 ha hb ha hb, d4_own ha hb]
    omega
end Go.Proofs.Ythbdckjfekimdab
namespace Go.Proofs.Ythbdckjfekimdab
open Ieee Go.RowKit
set_option linter.unusedSimpArgs false
set_option linter.unusedVariables false

/-! ### The place next to p is no farther than the ends, up to a little: plain numbers -/
theorem sq_cmp {x y d : Rat} (hy : 0 ≤ y) (hd : 0 ≤ d) (h : x * x ≤ y * y + 2 * (d * y) + d * d) : x ≤ y + d := by
  apply Classical.byContradiction
  intro hc
  have hc : y + d < x := by grind
  have h0 : 0 ≤ y + d := by grind
  have h1 := Rat.mul_lt_mul_of_pos_left hc (show 0 < x by grind)
  have h2 := Rat.mul_le_mul_of_nonneg_right (Rat.le_of_lt hc) h0
  grind
/-- of t -> |Q - t W|^2: behind the place that is reckoned (g = Q W, e how far off) -/
theorem near_0 {q s g t e : Rat} (hs : 0 < s) (ht : 0 ≤ t) (he : 0 ≤ e) (h : 0 < t → t * s ≤ g + e) : s * (q - 2 * (t * g) + t * (t * s)) ≤ s * q + e * e := by
  by_cases h0 : 0 < t
  · have h1 := h h0
    -- t (t s - 2 g) <= - t^2 s + 2 t e
    have k1 := Rat.mul_le_mul_of_nonneg_left h1 ht
    have k2 := rsq (t * s - e)
    have k3 := Rat.mul_le_mul_of_nonneg_left k1 (Rat.le_of_lt hs)
    grind
  · have : t = 0 := by grind
    subst this
    have := rsq e
    grind
theorem near_1 {q s g t e : Rat} (hs : 0 < s) (ht : t ≤ 1) (he : 0 ≤ e) (h : t < 1 → g - e ≤ t * s) : s * (q - 2 * (t * g) + t * (t * s)) ≤ s * (q - 2 * g + s) + e * e := by
  by_cases h0 : t < 1
  · have h1 := h h0
    have ht' : 0 ≤ 1 - t := by grind
    have k1 := Rat.mul_le_mul_of_nonneg_left h1 ht'
    have k2 := rsq ((1 - t) * s - e)
    have k3 := Rat.mul_le_mul_of_nonneg_left k1 (Rat.le_of_lt hs)
    grind
  · have : t = 1 := by grind
    subst this
    have := rsq e
    grind
end Go.Proofs.Ythbdckjfekimdab
namespace Go.Proofs.Ythbdckjfekimdab
open Ieee Go.RowKit
set_option linter.unusedSimpArgs false
set_option linter.unusedVariables false

theorem opx {q A B : Rat} (h : nrS q A) (hq : ab q ≤ B) (hB : 1 ≤ B) : ab A ≤ 101 / 100 * B ∧ ab (q - A) ≤ 102 / 100 * (epR * B) := by
  have e0 : (0 : Rat) ≤ epR := by decide +kernel
  have e1 : epR * 1000 ≤ 1 := by decide +kernel
  have e2 : etR * 1000 ≤ epR := by decide +kernel
  unfold nrS at h
  have t := ab_add (A - q) q
  rw [show A - q + q = A by grind] at t
  have t2 := ab_neg (q - A)
  rw [show -(q - A) = A - q by grind] at t2
  have t3 := rmul e1 (ab_nn A)
  have t4 := rmul hB e0
  have h1 : ab A ≤ 101 / 100 * B := by grind
  have t5 := rmul h1 e0
  exact ⟨h1, by grind⟩
/-- a length: two bounds -/
theorem root_sq {R l s e h : Rat} (he : e * 1000 ≤ 1) (he0 : 0 ≤ e) (hh0 : 0 ≤ h) (hh : h ≤ 1) (hR : 0 ≤ R) (hl : 0 ≤ l) (hs : 0 ≤ s) (r1 : R * R ≤ s + e * s) (r2 : s ≤ R * R + e * s) (n1 : R ≤ l + e * l + h) (n2 : l ≤ R + e * l + h) : l * l ≤ s + 9 * (e * s) + 9 * (h * (R + 1)) ∧ s ≤ l * l + 9 * (e * s) + 9 * (h * (R + 1)) := by
  have k1 := rmul he hl
  have a1 : l ≤ R + 2 * (e * R) + 2 * h := by
    have b1 : l ≤ 101 / 100 * R + 101 / 100 * h := by grind
    have b2 := rmul b1 he0
    have b3 := rmul he hh0
    grind
  have eR := Rat.mul_nonneg he0 hR
  have hR' := Rat.mul_nonneg hh0 hR
  have k2 := rmul he hR
  have k3 := rmul he eR
  have k4 := rmul he hR'
  have hhh := Rat.mul_le_mul_of_nonneg_left hh hh0
  have es := Rat.mul_nonneg he0 hs
  have k5 := rmul he es
  have rr := rmul r1 he0
  constructor
  · have c := sq_le hl a1
    have d1 : (R + 2 * (e * R) + 2 * h) * (R + 2 * (e * R) + 2 * h) ≤ R * R + 5 * (e * (R * R)) + 5 * (h * R) + 4 * h := by
      have z1 := Rat.mul_nonneg eR hR
      have z2 := rmul he z1
      grind
    grind
  · have a2 : R ≤ l + e * l + h := n1
    have b0 : 0 ≤ l + e * l + h := by have := Rat.mul_nonneg he0 hl; grind
    have c := sq_le hR a2
    have el := Rat.mul_nonneg he0 hl
    have l1 : l ≤ 102 / 100 * R + 102 / 100 * h := by grind
    have d1 : (l + e * l + h) * (l + e * l + h) ≤ l * l + 3 * (e * (l * l)) + 3 * (h * l) + h := by
      have z1 := Rat.mul_nonneg el hl
      have z2 := rmul he z1
      have z3 := Rat.mul_nonneg hh0 hl
      have z4 := rmul he z3
      grind
    have hl1 := Rat.mul_le_mul_of_nonneg_left l1 hh0
    have ll := sq_le hl a1
    have d2 : (R + 2 * (e * R) + 2 * h) * (R + 2 * (e * R) + 2 * h) ≤ R * R + 5 * (e * (R * R)) + 5 * (h * R) + 4 * h := by
      have z1 := Rat.mul_nonneg eR hR
      have z2 := rmul he z1
      grind
    have e3 : e * (l * l) ≤ e * (R * R + 5 * (e * (R * R)) + 5 * (h * R) + 4 * h) := rmul (Rat.le_trans ll d2) he0
    have z5 := Rat.mul_nonneg eR hR
    have z6 := rmul he z5
    have z7 := rmul he hh0
    grind
end Go.Proofs.Ythbdckjfekimdab
namespace Go.Proofs.Ythbdckjfekimdab
open Ieee Go.RowKit
set_option linter.unusedSimpArgs false
set_option linter.unusedVariables false

theorem sum_two {x y p q s e h : Rat} (he : e * 1000 ≤ 1) (he0 : 0 ≤ e) (hh0 : 0 ≤ h) (hx : 0 ≤ x) (hy : 0 ≤ y) (hp : 0 ≤ p) (hq : 0 ≤ q) (hs : 0 ≤ s) (h1 : ab (x - p) ≤ e * p + h) (h2 : ab (y - q) ≤ e * q + h) (h3 : ab (p + q - s) ≤ e * s + h) : s ≤ x + y + 4 * (e * (x + y)) + 9 * h ∧ x + y ≤ s + 4 * (e * s) + 9 * h := by
  have a1 := ab_le (x - p)
  have a2 := ab_le (y - q)
  have a3 := ab_le (p + q - s)
  have b1 := rmul he hp
  have b2 := rmul he hq
  have b3 := rmul he hs
  have c1 : p ≤ 101 / 100 * x + 101 / 100 * h := by grind
  have c2 : q ≤ 101 / 100 * y + 101 / 100 * h := by grind
  have c3 : s ≤ 101 / 100 * (p + q) + 101 / 100 * h := by grind
  have d1 := rmul c1 he0
  have d2 := rmul c2 he0
  have d3 := rmul c3 he0
  have d4 := rmul he hh0
  have ex := Rat.mul_nonneg he0 hx
  have ey := Rat.mul_nonneg he0 hy
  have es := Rat.mul_nonneg he0 hs
  have ep := Rat.mul_nonneg he0 hp
  have eq := Rat.mul_nonneg he0 hq
  constructor
  · grind
  · have c4 : p + q ≤ 101 / 100 * s + 101 / 100 * h := by grind
    have d5 := rmul c4 he0
    grind
def tauR : Rat := 1 / 2 ^ 900
/-- a length, as it is rounded -/
theorem len_two {n : Nat} {v : Vp} (hv : BdP n v) (hn : n ≤ 60) : 0 ≤ rv (lnF v) ∧ rv (lnF v) * rv (lnF v) ≤ (rv v.1 * rv v.1 + rv v.2 * rv v.2) + 20 * (epR * (rv v.1 * rv v.1 + rv v.2 * rv v.2)) + tauR ∧ rv v.1 * rv v.1 + rv v.2 * rv v.2 ≤ rv (lnF v) * rv (lnF v) + 20 * (epR * (rv v.1 * rv v.1 + rv v.2 * rv v.2)) + tauR := by
  have e0 : (0 : Rat) ≤ epR := by decide +kernel
  have e1 : epR * 1000 ≤ 1 := by decide +kernel
  have h0 : (0 : Rat) ≤ etR := by decide +kernel
  have h1 : etR ≤ 1 := by decide +kernel
  have ht : etR * 2 ^ 140 ≤ tauR := by decide +kernel
  have gl := gf_ln hv (by omega)
  rw [lnF_eq hv (by omega)] at gl ⊢
  have bx := bd_mul hv.1 hv.1 (by omega)
  have b_y := bd_mul hv.2 hv.2 (by omega)
  have bs := bd_add bx b_y (by omega)
  have rx := mul_rv hv.1.2.1 hv.1.2.1 bx.2.1 (dv_res (some_mul hv.1.2.1 hv.1.2.1))
  have ry := mul_rv hv.2.2.1 hv.2.2.1 b_y.2.1 (dv_res (some_mul hv.2.2.1 hv.2.2.1))
  have rs := add_rv bx.2.1 b_y.2.1 bs.2.1 (dv_res (some_add bx.2.1 b_y.2.1))
  obtain ⟨fs, ns⟩ := sq_ng hv.1 hv.2 (by omega)
  have q := sq_res (sqr_some fs ns)
  have x0 := rsq (rv v.1)
  have y0 := rsq (rv v.2)
  -- the products are not below nought
  have npx : ngK .f64 (Dv .mul v.1 v.1) = false := by
    have k := mul_spec v.1 v.1 hv.1.2.1 hv.1.2.1
    rw [Bool.xor_self] at k
    rw [dv_some k]; exact ngK_word .f64 _ _ (Nat.min_le_right _ _)
  have npy : ngK .f64 (Dv .mul v.2 v.2) = false := by
    have k := mul_spec v.2 v.2 hv.2.2.1 hv.2.2.1
    rw [Bool.xor_self] at k
    rw [dv_some k]; exact ngK_word .f64 _ _ (Nat.min_le_right _ _)
  have px0 : 0 ≤ rv (Dv .mul v.1 v.1) := by rw [rv_pos npx]; exact av_nn _
  have py0 : 0 ≤ rv (Dv .mul v.2 v.2) := by rw [rv_pos npy]; exact av_nn _
  have es : rv (dtK v.1 v.2 v.1 v.2) = av (dtK v.1 v.2 v.1 v.2) := rv_pos ns
  have s0 : 0 ≤ rv (dtK v.1 v.2 v.1 v.2) := by rw [es]; exact av_nn _
  unfold nrS at rx ry rs
  rw [ab_pos px0] at rx
  rw [ab_pos py0] at ry
  have rs' : ab (rv (Dv .mul v.1 v.1) + rv (Dv .mul v.2 v.2) - rv (dtK v.1 v.2 v.1 v.2)) ≤ epR * rv (dtK v.1 v.2 v.1 v.2) + etR := by
    have : rv (dtK v.1 v.2 v.1 v.2) = rv (Dv .add (Dv .mul v.1 v.1) (Dv .mul v.2 v.2)) := rfl
    rw [this] at s0 ⊢
    rwa [ab_pos s0] at rs
  obtain ⟨k1, k2⟩ := sum_two e1 e0 h0 x0 y0 px0 py0 s0 rx ry rs'
  have l0 : 0 ≤ rv (lnK v.1 v.2) := by rw [rv_pos gl.2.2]; exact av_nn _
  refine ⟨l0, ?_⟩
  have c140 : (1 : Rat) ≤ 2 ^ 140 := by decide +kernel
  have hk := rmul c140 h0
  by_cases hz : mg (dtK v.1 v.2 v.1 v.2) = 0
  · have e := sqr_zero fs ns hz q
    have el : lnK v.1 v.2 = 0 := by unfold lnK; exact e
    have ez : rv (dtK v.1 v.2 v.1 v.2) = 0 := by rw [es]; unfold av; rw [hz]; decide +kernel
    rw [el, show rv 0 = 0 by decide +kernel]
    rw [ez] at k2
    have c9 : (9 : Rat) ≤ 2 ^ 140 := by decide +kernel
    have hk9 := rmul c9 h0
    have z := Rat.mul_nonneg e0 (show 0 ≤ rv v.1 * rv v.1 + rv v.2 * rv v.2 by grind)
    have t0 : 0 ≤ tauR := by decide +kernel
    generalize (2 : Rat) ^ 140 = K at *
    constructor <;> grind
  · obtain ⟨f1, f2, _, R, hR, r1, r2, r3⟩ := root_fin fs ns hz q
    have ea : av (Sq (dtK v.1 v.2 v.1 v.2)) = rv (lnK v.1 v.2) := by rw [rv_pos gl.2.2]; rfl
    rw [ea] at r3
    rw [← es] at r1 r2
    -- R is at most 2 ^ 130
    have bS : rv (dtK v.1 v.2 v.1 v.2) ≤ 2 ^ 123 := by
      have := bs.2.2
      rw [es]
      have e2 : av (dtK v.1 v.2 v.1 v.2) = av (Dv .add (Dv .mul v.1 v.1) (Dv .mul v.2 v.2)) := rfl
      rw [e2]
      exact Rat.le_trans this (two_le (by omega))
    have hRb : R + 1 ≤ 2 ^ 130 := by
      apply Classical.byContradiction
      intro hc
      have hR2 : (2 : Rat) ^ 129 ≤ R := by
        have c : (2 : Rat) ^ 130 = 2 * 2 ^ 129 := by decide +kernel
        have c1 : (1 : Rat) ≤ 2 ^ 129 := by decide +kernel
        grind
      have c2 := sq_le (show (0 : Rat) ≤ 2 ^ 129 by decide +kernel) hR2
      have c3 : (2 : Rat) ^ 123 * 2 < 2 ^ 129 * 2 ^ 129 := by decide +kernel
      have c4 := rmul e1 s0
      grind
    obtain ⟨m1, m2⟩ := root_sq e1 e0 h0 h1 (Rat.le_of_lt hR) l0 s0 r1 r2 r3.1 r3.2
    have hx : 9 * (etR * (R + 1)) + 18 * etR ≤ tauR := by
      have c5 := rmul hRb h0
      have c6 : (2 : Rat) ^ 130 * 9 + 18 ≤ 2 ^ 140 := by decide +kernel
      have c7 := rmul c6 h0
      grind
    have kk := rmul k1 e0
    have z1 := Rat.mul_nonneg e0 (show 0 ≤ rv v.1 * rv v.1 + rv v.2 * rv v.2 by grind)
    have z2 := rmul e1 z1
    have z3 := rmul e1 h0
    have z4 := Rat.mul_nonneg e0 s0
    generalize rv v.1 * rv v.1 + rv v.2 * rv v.2 = S at *
    generalize rv (dtK v.1 v.2 v.1 v.2) = s at *
    generalize etR * (R + 1) = HR at *
    generalize rv (lnK v.1 v.2) * rv (lnK v.1 v.2) = ll at *
    clear rx ry rs rs' c140 hk ht r1 r2 r3 hRb bS hR
    constructor <;> grind
end Go.Proofs.Ythbdckjfekimdab
namespace Go.Proofs.Ythbdckjfekimdab
open Ieee Go.RowKit
set_option linter.unusedSimpArgs false
set_option linter.unusedVariables false

theorem dot_err {a b p1 p2 g e h : Rat} (he : e * 1000 ≤ 1) (he0 : 0 ≤ e) (hh0 : 0 ≤ h) (h1 : ab (a - p1) ≤ e * ab p1 + h) (h2 : ab (b - p2) ≤ e * ab p2 + h) (h3 : ab (p1 + p2 - g) ≤ e * ab g + h) : ab (a + b - g) ≤ 3 * (e * (ab a + ab b)) + 4 * h := by
  have c1 := ab_sub a (a - p1)
  rw [show a - (a - p1) = p1 by grind] at c1
  have c2 := ab_sub b (b - p2)
  rw [show b - (b - p2) = p2 by grind] at c2
  have c3 := ab_sub (p1 + p2) (p1 + p2 - g)
  rw [show p1 + p2 - (p1 + p2 - g) = g by grind] at c3
  have c4 := ab_add p1 p2
  have c5 := ab_add (a - p1) (b - p2)
  have c6 := ab_add (a - p1 + (b - p2)) (p1 + p2 - g)
  rw [show a - p1 + (b - p2) + (p1 + p2 - g) = a + b - g by grind] at c6
  have b1 := rmul he (ab_nn p1)
  have b2 := rmul he (ab_nn p2)
  have b3 := rmul he (ab_nn g)
  have n1 := ab_nn a
  have n2 := ab_nn b
  have d1 : ab p1 ≤ 101 / 100 * ab a + 101 / 100 * h := by grind
  have d2 : ab p2 ≤ 101 / 100 * ab b + 101 / 100 * h := by grind
  have d3 : ab g ≤ 103 / 100 * (ab a + ab b) + 4 * h := by
    clear c5 c6 h1 h2
    grind
  have f1 := rmul d1 he0
  have f2 := rmul d2 he0
  have f3 := rmul d3 he0
  have f4 := rmul he hh0
  have z1 := Rat.mul_nonneg he0 (ab_nn a)
  have z2 := Rat.mul_nonneg he0 (ab_nn b)
  clear c1 c2 c3 b1 b2 b3 d1 d2 d3
  grind
/-- the reckoned part of the way, times the square -/
theorem part_err {G g S s Q t A e h T : Rat} (he : e * 1000 ≤ 1) (he0 : 0 ≤ e) (hh0 : 0 ≤ h) (hA : 0 ≤ A) (hS : 0 ≤ S) (hs : 0 ≤ s) (hT : ab t ≤ T) (hs1 : s ≤ T) (hT1 : 1 ≤ T) (hG : ab G ≤ A) (h1 : ab (G - g) ≤ 3 * (e * A) + 4 * h) (h2 : s ≤ S + 4 * (e * S) + 9 * h) (h3 : S ≤ s + 4 * (e * s) + 9 * h) (h4 : ab (Q * s - g) ≤ e * ab g) (h5 : ab (Q - t) ≤ e * ab t + h) : ab (t * S - G) ≤ 20 * (e * A) + 100 * (h * T) := by
  have c1 := ab_sub G (G - g)
  rw [show G - (G - g) = g by grind] at c1
  have k1 := rmul he hA
  have gA : ab g ≤ 101 / 100 * A + 4 * h := by grind
  have egA := rmul gA he0
  have keh := rmul he hh0
  -- |t| s
  have ts : ab t * s ≤ 103 / 100 * ab g + 2 * (h * s) := by
    have d1 := ab_sub Q (Q - t)
    rw [show Q - (Q - t) = t by grind] at d1
    have d2 := rmul he (ab_nn t)
    have nQ := ab_nn Q
    have ng := ab_nn g
    have d3 : ab t ≤ 101 / 100 * ab Q + 101 / 100 * h := by
      clear h1 h2 h3 h4 c1 k1 gA egA
      grind
    have d4 := Rat.mul_le_mul_of_nonneg_right d3 hs
    have d5 := ab_sub (Q * s) (Q * s - g)
    rw [show Q * s - (Q * s - g) = g by grind, ab_mul, ab_pos hs] at d5
    have d6 := ab_add (Q * s - g) g
    rw [show Q * s - g + g = Q * s by grind, ab_mul, ab_pos hs] at d6
    have d7 := rmul he (ab_nn g)
    have z := Rat.mul_nonneg hh0 hs
    clear d5
    grind
  have hsT := Rat.mul_le_mul_of_nonneg_left hs1 hh0
  have hTT := Rat.mul_le_mul_of_nonneg_left hT1 hh0
  have htT := Rat.mul_le_mul_of_nonneg_left hT hh0
  -- |S - s|
  have Ss : ab (S - s) ≤ 5 * (e * s) + 10 * h := by
    have d1 := rmul h3 he0
    have d2 := rmul he (Rat.mul_nonneg he0 hs)
    have z := Rat.mul_nonneg he0 hs
    refine ab_of ?_ ?_ <;> grind
  have u1 := ab_mul_le (Rat.le_refl (a := ab t)) Ss
  have u2 := ab_mul_le h5 (Rat.le_refl (a := ab s))
  rw [ab_pos hs] at u2
  have e1 := rmul ts he0
  have e2 : ab t * (5 * (e * s) + 10 * h) = 5 * (e * (ab t * s)) + 10 * (h * ab t) := by grind
  have e3 : (e * ab t + h) * s = e * (ab t * s) + h * s := by grind
  rw [e2] at u1
  rw [e3] at u2
  have v1 := ab_sub (t * (S - s)) ((Q - t) * s)
  have v2 := ab_sub (Q * s - g) (G - g)
  have v3 := ab_add (t * (S - s) - (Q - t) * s) (Q * s - g - (G - g))
  rw [show t * (S - s) - (Q - t) * s + (Q * s - g - (G - g)) = t * S - G by grind] at v3
  have ehs := rmul he (Rat.mul_nonneg hh0 hs)
  have z9 := Rat.mul_nonneg he0 hA
  clear hT hs1 hT1 hG h2 h3 h5 c1 k1 gA ts Ss e2 e3
  grind
theorem two_sq {a b M : Rat} (h : a * a + b * b ≤ M * M) (hM : 0 ≤ M) : ab a + ab b ≤ 2 * M := by
  have h1 : ab a * ab a = a * a := by unfold ab; split <;> grind
  have h2 : ab b * ab b = b * b := by unfold ab; split <;> grind
  have := sq_cmp (x := ab a + ab b) (y := 2 * M) (d := 0) (by grind) (by decide) (by have := rsq (ab a - ab b); have := rsq M; grind)
  grind
/-- a way that is off by a little -/
theorem mink {z1 z2 y1 y2 k L : Rat} (hL : 0 ≤ L) (hk : 0 ≤ k) (h : z1 * z1 + z2 * z2 ≤ L * L) (h1 : ab (y1 - z1) ≤ k) (h2 : ab (y2 - z2) ≤ k) : y1 * y1 + y2 * y2 ≤ (L + 2 * k) * (L + 2 * k) := by
  have t := two_sq h hL
  have a1 := ab_mul_le (Rat.le_refl (a := ab z1)) h1
  have a2 := ab_mul_le (Rat.le_refl (a := ab z2)) h2
  have b1 := (ab_le (z1 * (y1 - z1))).1
  have b2 := (ab_le (z2 * (y2 - z2))).1
  have c1 := ab_mul_le h1 h1
  have c2 := ab_mul_le h2 h2
  have d1 := (ab_le ((y1 - z1) * (y1 - z1))).1
  have d2 := (ab_le ((y2 - z2) * (y2 - z2))).1
  have f := Rat.mul_le_mul_of_nonneg_left t hk
  have g := rsq k
  have z := Rat.mul_nonneg hk hL
  have key : y1 * y1 + y2 * y2 = (z1 * z1 + z2 * z2) + 2 * (z1 * (y1 - z1)) + 2 * (z2 * (y2 - z2)) + (y1 - z1) * (y1 - z1) + (y2 - z2) * (y2 - z2) := by grind
  rw [key]
  have e1 : ab z1 * k + ab z2 * k = k * (ab z1 + ab z2) := by grind
  grind
/-- from a square to a length and back: d is a small number, X at most K -/
theorem up_len {S l e t d K : Rat} (hl : 0 ≤ l) (hS : 0 ≤ S) (he0 : 0 ≤ e) (he : e * 1000 ≤ 1) (hd : 0 ≤ d) (hK : l ≤ K) (h : S ≤ l * l + 20 * (e * S) + t) (q1 : 22 * (e * K) ≤ d) (q2 : 2 * t ≤ d * d) (ht : 0 ≤ t) : S ≤ (l + d) * (l + d) := by
  have k1 := rmul he hS
  have a1 : S ≤ 105 / 100 * (l * l) + 2 * t := by grind
  have a2 := rmul a1 he0
  have a3 := Rat.mul_le_mul_of_nonneg_left hK (Rat.mul_nonneg he0 hl)
  have a4 := Rat.mul_le_mul_of_nonneg_right q1 hl
  have a5 := rmul he ht
  have z := Rat.mul_nonneg hd hl
  have e1 : e * l * K * 22 = 22 * (e * K) * l := by grind
  have e2 : e * (l * l) = e * l * l := by grind
  grind
theorem down_len {S l e t d X K : Rat} (hl : 0 ≤ l) (hX : 0 ≤ X) (he0 : 0 ≤ e) (hd : 0 ≤ d) (hK : X ≤ K) (h : l * l ≤ S + 20 * (e * S) + t) (hS : S ≤ X * X) (q1 : 22 * (e * K) ≤ d) (q2 : t ≤ d * d) : l ≤ X + d := by
  refine sq_cmp hX hd ?_
  have a2 := rmul hS he0
  have a3 := Rat.mul_le_mul_of_nonneg_left hK (Rat.mul_nonneg he0 hX)
  have a4 := Rat.mul_le_mul_of_nonneg_right q1 hX
  have z := Rat.mul_nonneg hd hX
  have e1 : e * X * K * 22 = 22 * (e * K) * X := by grind
  have e2 : e * (X * X) = e * X * X := by grind
  grind
end Go.Proofs.Ythbdckjfekimdab
namespace Go.Proofs.Ythbdckjfekimdab
open Ieee Go.RowKit
set_option linter.unusedSimpArgs false
set_option linter.unusedVariables false

theorem su_rv {n : Nat} {a b : Vp} (ha : BdP n a) (hb : BdP n b) (hn : n ≤ 900) : nrS (rv a.1 - rv b.1) (rv (suF a b).1) ∧ nrS (rv a.2 - rv b.2) (rv (suF a b).2) := by
  have r1 := bd_sub ha.1 hb.1 hn
  have r2 := bd_sub ha.2 hb.2 hn
  have e : suF a b = (Dv .sub a.1 b.1, Dv .sub a.2 b.2) := by
    unfold suF
    rw [oF_dv (some_sub ha.1.2.1 hb.1.2.1 hb.1.1) r1, oF_dv (some_sub ha.2.2.1 hb.2.2.1 hb.2.1) r2]
  rw [e]
  exact ⟨sub_rv hb.1.1 ha.1.2.1 hb.1.2.1 r1.2.1 (dv_res (some_sub ha.1.2.1 hb.1.2.1 hb.1.1)), sub_rv hb.2.1 ha.2.2.1 hb.2.2.1 r2.2.1 (dv_res (some_sub ha.2.2.1 hb.2.2.1 hb.2.1))⟩
theorem dt_rv {m n : Nat} {a b : Vp} (ha : BdP m a) (hb : BdP n b) (hn : m + n ≤ 800) : ∃ p1 p2, nrS (rv a.1 * rv b.1) p1 ∧ nrS (rv a.2 * rv b.2) p2 ∧ nrS (p1 + p2) (rv (dtF a b)) := by
  have h1 := bd_mul ha.1 hb.1 (show m + n ≤ 900 by omega)
  have h2 := bd_mul ha.2 hb.2 (show m + n ≤ 900 by omega)
  have h3 := bd_add h1 h2 (by omega)
  rw [dtF_eq ha hb hn]
  exact ⟨_, _, mul_rv ha.1.2.1 hb.1.2.1 h1.2.1 (dv_res (some_mul ha.1.2.1 hb.1.2.1)), mul_rv ha.2.2.1 hb.2.2.1 h2.2.1 (dv_res (some_mul ha.2.2.1 hb.2.2.1)), add_rv h1.2.1 h2.2.1 h3.2.1 (dv_res (some_add h1.2.1 h2.2.1))⟩
theorem mo_rv1 {n m x s w : Nat} (hx : Bd n x) (hs : Bd m s) (hw : Bd n w) (hn : m + n ≤ 700) : ∃ p, nrS (rv s * rv w) p ∧ nrS (rv x + p) (rv (oF .add x (oF .mul s w))) := by
  have r := bd_mul hs hw (by omega)
  have ra := bd_add (bd_mono hx (by omega : n ≤ m + n + 1)) r (by omega)
  rw [oF_dv (some_mul hs.2.1 hw.2.1) r, oF_dv (some_add hx.2.1 r.2.1) ra]
  exact ⟨_, mul_rv hs.2.1 hw.2.1 r.2.1 (dv_res (some_mul hs.2.1 hw.2.1)), add_rv hx.2.1 r.2.1 ra.2.1 (dv_res (some_add hx.2.1 r.2.1))⟩
theorem bd_ab {n x : Nat} (h : Bd n x) : ab (rv x) ≤ 2 ^ n := by rw [ab_rv]; exact h.2.2
/-- the clamped part -/
theorem cl_rv {q : Nat} (hq : finK .f64 q = true) : 0 ≤ rv (clK .f64 q 0 4607182418800017408) ∧ rv (clK .f64 q 0 4607182418800017408) ≤ 1 ∧ (0 < rv (clK .f64 q 0 4607182418800017408) → rv (clK .f64 q 0 4607182418800017408) ≤ rv q) ∧ (rv (clK .f64 q 0 4607182418800017408) < 1 → rv q ≤ rv (clK .f64 q 0 4607182418800017408)) := by
  have z0 : rv 0 = 0 := by decide +kernel
  have z1 : rv 4607182418800017408 = 1 := by decide +kernel
  have n0 : nanK .f64 0 = false := by decide +kernel
  have n1 : nanK .f64 4607182418800017408 = false := by decide +kernel
  have l0 := lt_rv n0 (fin_nan hq)
  have l1 := lt_rv n1 (fin_nan hq)
  rw [z0] at l0
  rw [z1] at l1
  unfold clK
  split
  · rename_i h
    rw [z0]
    have : ¬ 0 < rv q := fun hc => by rw [l0.2 hc] at h; cases h
    exact ⟨by decide, by decide +kernel, fun hc => absurd hc (by decide), fun _ => by grind⟩
  · rename_i h
    have h : 0 < rv q := by
      cases hh : ltK .f64 0 q
      · exact absurd hh h
      · exact l0.1 hh
    split
    · rename_i g
      have g := l1.1 g
      rw [z1]
      exact ⟨by decide +kernel, by decide +kernel, fun _ => by grind, fun hc => by grind⟩
    · rename_i g
      have g : ¬ 1 < rv q := fun hc => g (l1.2 hc)
      exact ⟨by grind, by grind, fun _ => by grind, fun _ => by grind⟩
/-- the numbers of it: q, w the ways, t the part, e how far off it may be; L the distance from an end -/
theorem far_t {q1 q2 w1 w2 t e S G : Rat} (hS : 0 < S) (eS : S = w1 * w1 + w2 * w2) (eG : G = q1 * w1 + q2 * w2) (t0 : 0 ≤ t) (t1 : t ≤ 1) (he : 0 ≤ e) (h0 : 0 < t → t * S ≤ G + e) (h1 : t < 1 → G - e ≤ t * S) {k : Rat} (hk : e * e ≤ k * S) :
    (q1 - t * w1) * (q1 - t * w1) + (q2 - t * w2) * (q2 - t * w2) ≤ q1 * q1 + q2 * q2 + k ∧ (q1 - t * w1) * (q1 - t * w1) + (q2 - t * w2) * (q2 - t * w2) ≤ (q1 - w1) * (q1 - w1) + (q2 - w2) * (q2 - w2) + k := by
  have a := near_0 (q := q1 * q1 + q2 * q2) hS t0 he h0
  have b := near_1 (q := q1 * q1 + q2 * q2) hS t1 he h1
  have f : (q1 - t * w1) * (q1 - t * w1) + (q2 - t * w2) * (q2 - t * w2) = q1 * q1 + q2 * q2 - 2 * (t * G) + t * (t * S) := by rw [eG, eS]; grind
  have f1 : (q1 - w1) * (q1 - w1) + (q2 - w2) * (q2 - w2) = q1 * q1 + q2 * q2 - 2 * G + S := by rw [eG, eS]; grind
  rw [f, f1]
  constructor
  · refine Rat.le_of_mul_le_mul_left (c := S) ?_ hS
    grind
  · refine Rat.le_of_mul_le_mul_left (c := S) ?_ hS
    grind
end Go.Proofs.Ythbdckjfekimdab
namespace Go.Proofs.Ythbdckjfekimdab
open Ieee Go.RowKit
set_option linter.unusedSimpArgs false
set_option linter.unusedVariables false

theorem sq_two {a b : Rat} : (a + b) * (a + b) ≤ 2 * (a * a) + 2 * (b * b) := by
  have := rsq (a - b)
  grind
theorem off_y {P X Y C m W Q t e : Rat} (he : 0 ≤ e) (h1 : ab (P - X - Y) ≤ 102 / 100 * (e * 2 ^ 24)) (h2 : ab (C + m - X) ≤ 102 / 100 * (e * 2 ^ 23)) (h3 : ab (t * W - m) ≤ 102 / 100 * (e * 2 ^ 22)) (h4 : ab (P - C - Q) ≤ 102 / 100 * (e * 2 ^ 21)) : ab (Y - (Q - t * W)) ≤ e * 2 ^ 25 := by
  have c1 : (102 / 100 : Rat) * 2 ^ 24 + 102 / 100 * 2 ^ 23 + 102 / 100 * 2 ^ 22 + 102 / 100 * 2 ^ 21 ≤ 2 ^ 25 := by decide +kernel
  have c2 := rmul c1 he
  have a1 := ab_sub (P - C - Q) (P - X - Y)
  have a2 := ab_add (C + m - X) (t * W - m)
  have a3 := ab_add (P - C - Q - (P - X - Y)) (C + m - X + (t * W - m))
  rw [show P - C - Q - (P - X - Y) + (C + m - X + (t * W - m)) = Y - (Q - t * W) by grind] at a3
  generalize (2 : Rat) ^ 25 = K25 at *
  generalize (2 : Rat) ^ 24 = K24 at *
  generalize (2 : Rat) ^ 23 = K23 at *
  generalize (2 : Rat) ^ 22 = K22 at *
  generalize (2 : Rat) ^ 21 = K21 at *
  grind
theorem off_v {P D C Q W V e : Rat} (he : 0 ≤ e) (h1 : ab (P - C - Q) ≤ 102 / 100 * (e * 2 ^ 21)) (h2 : ab (D - C - W) ≤ 102 / 100 * (e * 2 ^ 21)) (h3 : ab (P - D - V) ≤ 102 / 100 * (e * 2 ^ 21)) : ab (Q - W - V) ≤ e * 2 ^ 23 := by
  have c1 : (102 / 100 : Rat) * 2 ^ 21 + 102 / 100 * 2 ^ 21 + 102 / 100 * 2 ^ 21 ≤ 2 ^ 23 := by decide +kernel
  have c2 := rmul c1 he
  have a1 := ab_sub (D - C - W) (P - C - Q)
  have a3 := ab_add (D - C - W - (P - C - Q)) (P - D - V)
  rw [show D - C - W - (P - C - Q) + (P - D - V) = Q - W - V by grind] at a3
  generalize (2 : Rat) ^ 23 = K23 at *
  generalize (2 : Rat) ^ 21 = K21 at *
  grind
theorem len_cap {l S e t : Rat} (h : l * l ≤ S + 20 * (e * S) + t) (hS : S ≤ 2 ^ 44) (hS0 : 0 ≤ S) (he : e * 1000 ≤ 1) (ht : t ≤ 1) : l ≤ 2 ^ 23 := by
  have := sq_cmp (x := l) (y := 2 ^ 23) (d := 0) (by decide +kernel) (by decide) (by
    have k := rmul he hS0
    have c : (2 : Rat) ^ 44 * 2 + 1 ≤ 2 ^ 23 * 2 ^ 23 := by decide +kernel
    grind)
  grind
theorem sl_low {S s e h Z : Rat} (kS : S * (e * 1000) ≤ S * 1) (S3 : s ≤ S + 4 * (e * S) + 9 * h) (f1 : 2 * Z ≤ s) (f3 : 9 * h ≤ Z * (1 / 100)) (f4 : 0 ≤ Z) : Z ≤ S := by grind
theorem ab_sq (a : Rat) : ab a * ab a = a * a := by unfold ab; split <;> grind
theorem abm_sq (Q W : Rat) : ab (Q * W) * ab (Q * W) = ab Q * ab Q * (W * W) := by
  rw [ab_mul, ← ab_sq W]
  grind
theorem e_sq {Q1 Q2 W1 W2 : Rat} (q3 : ab Q1 ≤ 101 / 100 * 2 ^ 21) (q4 : ab Q2 ≤ 101 / 100 * 2 ^ 21) (hS : 1 / 2 ^ 64 ≤ W1 * W1 + W2 * W2) : (20 * (epR * (ab (Q1 * W1) + ab (Q2 * W2))) + 100 * (etR * 2 ^ 113)) * (20 * (epR * (ab (Q1 * W1) + ab (Q2 * W2))) + 100 * (etR * 2 ^ 113)) ≤ 1 / 2 ^ 51 * (W1 * W1 + W2 * W2) := by
  have s := sq_two (a := 20 * (epR * (ab (Q1 * W1) + ab (Q2 * W2)))) (b := 100 * (etR * 2 ^ 113))
  have s2 := sq_two (a := ab (Q1 * W1)) (b := ab (Q2 * W2))
  have a1 : ab (Q1 * W1) * ab (Q1 * W1) ≤ 101 / 100 * 2 ^ 21 * (101 / 100 * 2 ^ 21) * (W1 * W1) := by
    have e := abm_sq Q1 W1
    rw [e]
    exact Rat.mul_le_mul_of_nonneg_right (sq_le (ab_nn Q1) q3) (rsq W1)
  have a2 : ab (Q2 * W2) * ab (Q2 * W2) ≤ 101 / 100 * 2 ^ 21 * (101 / 100 * 2 ^ 21) * (W2 * W2) := by
    have e := abm_sq Q2 W2
    rw [e]
    exact Rat.mul_le_mul_of_nonneg_right (sq_le (ab_nn Q2) q4) (rsq W2)
  have c1 : (1600 : Rat) * (epR * epR) * (101 / 100 * 2 ^ 21 * (101 / 100 * 2 ^ 21)) ≤ 1 / 2 ^ 52 := by decide +kernel
  have c2 : (2 : Rat) * (100 * (etR * 2 ^ 113) * (100 * (etR * 2 ^ 113))) ≤ 1 / 2 ^ 52 * (1 / 2 ^ 64) := by decide +kernel
  have c3 : (1 : Rat) / 2 ^ 51 = 1 / 2 ^ 52 + 1 / 2 ^ 52 := by decide +kernel
  have S0 : 0 ≤ W1 * W1 + W2 * W2 := by have := rsq W1; have := rsq W2; grind
  have m1 := Rat.mul_le_mul_of_nonneg_right c1 S0
  have m2 := Rat.mul_le_mul_of_nonneg_left hS (show (0 : Rat) ≤ 1 / 2 ^ 52 by decide +kernel)
  have ee := rsq epR
  have m3 := Rat.mul_le_mul_of_nonneg_left (Rat.le_trans s2 (show 2 * (ab (Q1 * W1) * ab (Q1 * W1)) + 2 * (ab (Q2 * W2) * ab (Q2 * W2)) ≤ 2 * (101 / 100 * 2 ^ 21 * (101 / 100 * 2 ^ 21)) * (W1 * W1 + W2 * W2) by grind)) ee
  rw [c3]
  generalize (101 / 100 : Rat) * 2 ^ 21 * (101 / 100 * 2 ^ 21) = KK at *
  generalize (1 : Rat) / 2 ^ 52 = Z at *
  generalize (1 : Rat) / 2 ^ 64 = Z2 at *
  generalize (100 : Rat) * (etR * 2 ^ 113) = H at *
  generalize ab (Q1 * W1) + ab (Q2 * W2) = A at *
  generalize W1 * W1 + W2 * W2 = S at *
  have e9 : 20 * (epR * A) * (20 * (epR * A)) = 400 * (epR * epR * (A * A)) := by grind
  clear a1 a2 s2 q3 q4 c1
  grind
/-- **the place next to p is no farther than either end, up to 2^-22** -/
theorem d4_near {c d p : Vp} (hc : BdP 20 c) (hd : BdP 20 d) (hp : BdP 20 p) (hs : ltK .f64 0 (dtF (suF d c) (suF d c)) = true) (hl : 1 ≤ rv (dtF (suF d c) (suF d c)) * 2 ^ 63) :
    rv (d4 c d p) ≤ rv (lnF (suF p c)) + 1 / 2 ^ 22 ∧ rv (d4 c d p) ≤ rv (lnF (suF p d)) + 1 / 2 ^ 22 := by
  have e0 : (0 : Rat) ≤ epR := by decide +kernel
  have e1 : epR * 1000 ≤ 1 := by decide +kernel
  have h0 : (0 : Rat) ≤ etR := by decide +kernel
  have w := su_bd hd hc (by decide)
  have q := su_bd hp hc (by decide)
  have v := su_bd hp hd (by decide)
  obtain ⟨w1, w2⟩ := su_rv hd hc (by decide)
  obtain ⟨q1, q2⟩ := su_rv hp hc (by decide)
  obtain ⟨v1, v2⟩ := su_rv hp hd (by decide)
  have c1 := bd_ab hc.1
  have c2 := bd_ab hc.2
  have d1 := bd_ab hd.1
  have d2 := bd_ab hd.2
  have p1 := bd_ab hp.1
  have p2 := bd_ab hp.2
  have k20 : (2 : Rat) ^ 20 + 2 ^ 20 ≤ 2 ^ 21 := by decide +kernel
  have k21 : (1 : Rat) ≤ 2 ^ 21 := by decide +kernel
  obtain ⟨w3, w5⟩ := opx (B := 2 ^ 21) w1 (Rat.le_trans (ab_sub _ _) (by grind)) k21
  obtain ⟨w4, w6⟩ := opx (B := 2 ^ 21) w2 (Rat.le_trans (ab_sub _ _) (by grind)) k21
  obtain ⟨q3, q5⟩ := opx (B := 2 ^ 21) q1 (Rat.le_trans (ab_sub _ _) (by grind)) k21
  obtain ⟨q4, q6⟩ := opx (B := 2 ^ 21) q2 (Rat.le_trans (ab_sub _ _) (by grind)) k21
  obtain ⟨v3, v5⟩ := opx (B := 2 ^ 21) v1 (Rat.le_trans (ab_sub _ _) (by grind)) k21
  obtain ⟨v4, v6⟩ := opx (B := 2 ^ 21) v2 (Rat.le_trans (ab_sub _ _) (by grind)) k21
  -- the part of the way
  have bg := dtF_bd q w (by decide)
  have bs := dtF_bd w w (by decide)
  have nz := pos_mg hs
  obtain ⟨a1, a2, ga, gb, gc⟩ := dt_rv q w (by decide)
  obtain ⟨b1, b2, sa, sb, sc⟩ := dt_rv w w (by decide)
  have ns : 0 ≤ rv (dtF (suF d c) (suF d c)) := by
    have := (lt_rv (show nanK .f64 0 = false by decide +kernel) (fin_nan bs.2.1)).1 hs
    rw [show rv 0 = 0 by decide +kernel] at this
    exact Rat.le_of_lt this
  have hl' : 1 ≤ av (dtF (suF d c) (suF d c)) * 2 ^ 63 := by
    have : ab (rv (dtF (suF d c) (suF d c))) = av (dtF (suF d c) (suF d c)) := ab_rv _
    rw [ab_pos ns] at this
    rw [← this]; exact hl
  obtain ⟨bq, rq⟩ := bd_quo bg bs hl' (by decide)
  have et : oF .quo (dtF (suF p c) (suF d c)) (dtF (suF d c) (suF d c)) = Dv .quo (dtF (suF p c) (suF d c)) (dtF (suF d c) (suF d c)) := oF_dv (some_quo bg.2.1 bs.2.1 nz) bq
  obtain ⟨Q, qa, qb⟩ := quo_rv bg.2.1 bs.2.1 nz bq.2.1 rq
  have bT := bd_ab bq
  have bS := bd_ab bs
  obtain ⟨t0, t1, t2, t3⟩ := cl_rv bq.2.1
  have bt : Bd 1 (clK .f64 (Dv .quo (dtF (suF p c) (suF d c)) (dtF (suF d c) (suF d c))) 0 4607182418800017408) := cl_bd bq.1
  have ept : (ptF c d p).1 = moF c (clK .f64 (Dv .quo (dtF (suF p c) (suF d c)) (dtF (suF d c) (suF d c))) 0 4607182418800017408) (suF d c) := by
    unfold ptF
    rw [if_pos hs, et]
  obtain ⟨m1, x1, x2⟩ := mo_rv1 (n := 42) (bd_mono hc.1 (by decide)) bt (bd_mono w.1 (by decide)) (by decide)
  obtain ⟨m2, x3, x4⟩ := mo_rv1 (n := 42) (bd_mono hc.2 (by decide)) bt (bd_mono w.2 (by decide)) (by decide)
  have bx : BdP 46 (ptF c d p).1 := pt_bd (hc.mono (by decide)) (hd.mono (by decide))
  have by_ := su_bd (hp.mono (by decide : 20 ≤ 46)) bx (by decide)
  obtain ⟨y1, y2⟩ := su_rv (hp.mono (by decide : 20 ≤ 46)) bx (by decide)
  have L1 := len_two q (by decide)
  have L2 := len_two v (by decide)
  have L3 := len_two by_ (by decide)
  have eX1 : rv (ptF c d p).1.1 = rv (oF .add c.1 (oF .mul (clK .f64 (Dv .quo (dtF (suF p c) (suF d c)) (dtF (suF d c) (suF d c))) 0 4607182418800017408) (suF d c).1)) := by rw [ept]; rfl
  have eX2 : rv (ptF c d p).1.2 = rv (oF .add c.2 (oF .mul (clK .f64 (Dv .quo (dtF (suF p c) (suF d c)) (dtF (suF d c) (suF d c))) 0 4607182418800017408) (suF d c).2)) := by rw [ept]; rfl
  rw [← eX1] at x2
  rw [← eX2] at x4
  have ed : d4 c d p = lnF (suF p (ptF c d p).1) := by simp only [d4]
  rw [ed]
  clear eX1 eX2 ed ept et bx by_ bg bs bq w q v hl' bt
  generalize rv (clK .f64 (Dv .quo (dtF (suF p c) (suF d c)) (dtF (suF d c) (suF d c))) 0 4607182418800017408) = t at *
  generalize rv (Dv .quo (dtF (suF p c) (suF d c)) (dtF (suF d c) (suF d c))) = T at *
  generalize rv (dtF (suF p c) (suF d c)) = g at *
  generalize rv (dtF (suF d c) (suF d c)) = s at *
  generalize rv (lnF (suF p (ptF c d p).1)) = ly at *
  generalize rv (lnF (suF p c)) = lc at *
  generalize rv (lnF (suF p d)) = ld at *
  generalize rv (suF p (ptF c d p).1).1 = Y1 at *
  generalize rv (suF p (ptF c d p).1).2 = Y2 at *
  generalize rv (ptF c d p).1.1 = X1 at *
  generalize rv (ptF c d p).1.2 = X2 at *
  generalize rv (suF p c).1 = Q1 at *
  generalize rv (suF p c).2 = Q2 at *
  generalize rv (suF d c).1 = W1 at *
  generalize rv (suF d c).2 = W2 at *
  generalize rv (suF p d).1 = V1 at *
  generalize rv (suF p d).2 = V2 at *
  generalize rv c.1 = C1 at *
  generalize rv c.2 = C2 at *
  generalize rv d.1 = D1 at *
  generalize rv d.2 = D2 at *
  generalize rv p.1 = P1 at *
  generalize rv p.2 = P2 at *
  have AN := ab_nn (Q1 * W1)
  have AM := ab_nn (Q2 * W2)
  unfold nrS at ga gb gc sa sb sc qb
  have G1 := dot_err e1 e0 h0 ga gb gc
  have S1 := dot_err e1 e0 h0 sa sb sc
  have W11 := rsq W1
  have W22 := rsq W2
  rw [ab_pos W11, ab_pos W22] at S1
  have S2 := ab_le (W1 * W1 + W2 * W2 - s)
  have S0 : 0 ≤ W1 * W1 + W2 * W2 := by grind
  have kS := rmul e1 S0
  have ks := rmul e1 ns
  have es := Rat.mul_nonneg e0 ns
  have eS := Rat.mul_nonneg e0 S0
  have S3 : s ≤ (W1 * W1 + W2 * W2) + 4 * (epR * (W1 * W1 + W2 * W2)) + 9 * etR := by grind
  have S4 : W1 * W1 + W2 * W2 ≤ s + 4 * (epR * s) + 9 * etR := by
    have f1 : W1 * W1 + W2 * W2 ≤ 101 / 100 * s + 5 * etR := by
      clear S3 G1
      grind
    have f2 := rmul f1 e0
    have f3 := rmul e1 h0
    clear S3 G1
    grind
  have Sl : 1 / 2 ^ 64 ≤ W1 * W1 + W2 * W2 := by
    have f1 : (1 : Rat) / 2 ^ 63 ≤ s := by
      refine Rat.le_of_mul_le_mul_right (c := 2 ^ 63) ?_ (by decide +kernel)
      rw [show (1 : Rat) / 2 ^ 63 * 2 ^ 63 = 1 by decide +kernel]
      exact hl
    have f2 : (1 : Rat) / 2 ^ 63 = 2 * (1 / 2 ^ 64) := by decide +kernel
    have f3 : 9 * etR ≤ 1 / 2 ^ 64 * (1 / 100) := by decide +kernel
    have f4 : (0 : Rat) ≤ 1 / 2 ^ 64 := by decide +kernel
    exact sl_low kS S3 (by rw [← f2]; exact f1) f3 f4
  have SP : 0 < W1 * W1 + W2 * W2 := rlt_le (by decide +kernel) Sl
  have c113 : (1 : Rat) ≤ 2 ^ 113 := by decide +kernel
  have PE := part_err (G := Q1 * W1 + Q2 * W2) (A := ab (Q1 * W1) + ab (Q2 * W2)) (T := 2 ^ 113) e1 e0 h0 (by grind) S0 ns bT (by rw [ab_pos ns] at bS; exact Rat.le_trans bS (by decide +kernel)) c113 (ab_add _ _) G1 S3 S4 qa qb
  have PL := ab_le (T * (W1 * W1 + W2 * W2) - (Q1 * W1 + Q2 * W2))
  have ES := e_sq q3 q4 Sl
  have E0 : 0 ≤ 20 * (epR * (ab (Q1 * W1) + ab (Q2 * W2))) + 100 * (etR * 2 ^ 113) := by
    have f1 := Rat.mul_nonneg e0 (show 0 ≤ ab (Q1 * W1) + ab (Q2 * W2) by grind)
    have f2 := Rat.mul_nonneg h0 (show (0 : Rat) ≤ 2 ^ 113 by decide +kernel)
    grind
  obtain ⟨F0, F1⟩ := far_t (q1 := Q1) (q2 := Q2) (w1 := W1) (w2 := W2) (t := t) SP rfl rfl t0 t1 E0 (fun h => by
      have f := Rat.mul_le_mul_of_nonneg_right (t2 h) S0
      grind) (fun h => by
      have f := Rat.mul_le_mul_of_nonneg_right (t3 h) S0
      grind) ES
  clear ES PE PL G1 S1 S2 S3 S4 kS ks ga gb gc sa sb sc qa qb bT bS hl Sl SP E0 t2 t3
  -- how far off the way is that is measured
  have tW : ∀ W : Rat, ab W ≤ 101 / 100 * 2 ^ 21 → ab (t * W) ≤ 2 ^ 22 := fun W hW => by
    have f := ab_mul_le (show ab t ≤ 1 by rw [ab_pos t0]; exact t1) hW
    exact Rat.le_trans f (by decide +kernel)
  obtain ⟨n1, n2⟩ := opx (B := 2 ^ 22) x1 (tW W1 w3) (by decide +kernel)
  obtain ⟨n3, n4⟩ := opx (B := 2 ^ 22) x3 (tW W2 w4) (by decide +kernel)
  have k22 : (2 : Rat) ^ 20 + 101 / 100 * 2 ^ 22 ≤ 2 ^ 23 := by decide +kernel
  have k23 : (2 : Rat) ^ 20 + 101 / 100 * 2 ^ 23 ≤ 2 ^ 24 := by decide +kernel
  obtain ⟨o1, o2⟩ := opx (B := 2 ^ 23) x2 (Rat.le_trans (ab_add _ _) (by grind)) (by decide +kernel)
  obtain ⟨o3, o4⟩ := opx (B := 2 ^ 23) x4 (Rat.le_trans (ab_add _ _) (by grind)) (by decide +kernel)
  obtain ⟨r1, r2⟩ := opx (B := 2 ^ 24) y1 (Rat.le_trans (ab_sub _ _) (by grind)) (by decide +kernel)
  obtain ⟨r3, r4⟩ := opx (B := 2 ^ 24) y2 (Rat.le_trans (ab_sub _ _) (by grind)) (by decide +kernel)
  have oy1 := off_y e0 r2 o2 n2 q5
  have oy2 := off_y e0 r4 o4 n4 q6
  have ov1 := off_v e0 q5 w5 v5
  have ov2 := off_v e0 q6 w6 v6
  obtain ⟨l1, l2, l3⟩ := L1
  obtain ⟨l4, l5, l6⟩ := L2
  obtain ⟨l7, l8, l9⟩ := L3
  have sqb : ∀ a : Rat, ab a ≤ 101 / 100 * 2 ^ 21 → a * a ≤ 2 ^ 43 := fun a ha => by
    have f := sq_le (ab_nn a) ha
    rw [ab_sq] at f
    exact Rat.le_trans f (by decide +kernel)
  have cap : ∀ a b : Rat, ab a ≤ 101 / 100 * 2 ^ 21 → ab b ≤ 101 / 100 * 2 ^ 21 → a * a + b * b ≤ 2 ^ 44 := fun a b ha hb => by
    have f1 := sqb a ha
    have f2 := sqb b hb
    have f3 : (2 : Rat) ^ 44 = 2 ^ 43 + 2 ^ 43 := by decide +kernel
    grind
  have tau1 : tauR ≤ 1 := by decide +kernel
  have tau0 : 0 ≤ tauR := by decide +kernel
  have nn : ∀ a b : Rat, 0 ≤ a * a + b * b := fun a b => by have := rsq a; have := rsq b; grind
  have lcK := len_cap l2 (cap _ _ q3 q4) (nn _ _) e1 tau1
  have ldK := len_cap l5 (cap _ _ v3 v4) (nn _ _) e1 tau1
  have u1 := up_len (d := 1 / 2 ^ 25) l1 (nn _ _) e0 e1 (by decide +kernel) lcK l3 (by decide +kernel) (by decide +kernel) tau0
  have u2 := up_len (d := 1 / 2 ^ 25) l4 (nn _ _) e0 e1 (by decide +kernel) ldK l6 (by decide +kernel) (by decide +kernel) tau0
  have kd : (1 : Rat) / 2 ^ 51 ≤ 1 / 2 ^ 25 * (1 / 2 ^ 25) := by decide +kernel
  have d0 : (0 : Rat) ≤ 1 / 2 ^ 25 := by decide +kernel
  have grow : ∀ X S : Rat, 0 ≤ X → S ≤ X * X → S + 1 / 2 ^ 51 ≤ (X + 1 / 2 ^ 25) * (X + 1 / 2 ^ 25) := fun X S hX h => by
    have f := Rat.mul_nonneg hX d0
    generalize (1 : Rat) / 2 ^ 25 = Z at *
    grind
  have eK : epR * 2 ^ 25 = 1 / 2 ^ 28 := by decide +kernel
  have eV : epR * 2 ^ 23 = 1 / 2 ^ 30 := by decide +kernel
  rw [eK] at oy1 oy2
  rw [eV] at ov1 ov2
  have z28 : (0 : Rat) ≤ 1 / 2 ^ 28 := by decide +kernel
  have z30 : (0 : Rat) ≤ 1 / 2 ^ 30 := by decide +kernel
  constructor
  · have g1 := Rat.le_trans F0 (grow (lc + 1 / 2 ^ 25) _ (by grind) u1)
    have g2 := mink (L := lc + 1 / 2 ^ 25 + 1 / 2 ^ 25) (k := 1 / 2 ^ 28) (by grind) (by decide +kernel) g1 oy1 oy2
    have g3 := down_len (d := 1 / 2 ^ 24) (K := 2 ^ 24) l7 (show 0 ≤ lc + 1 / 2 ^ 25 + 1 / 2 ^ 25 + 2 * (1 / 2 ^ 28) by grind) e0 (by decide +kernel) (by
      have f : (2 : Rat) ^ 23 + 1 / 2 ^ 25 + 1 / 2 ^ 25 + 2 * (1 / 2 ^ 28) ≤ 2 ^ 24 := by decide +kernel
      grind) l8 g2 (by decide +kernel) (by decide +kernel)
    have f : (1 : Rat) / 2 ^ 25 + 1 / 2 ^ 25 + 2 * (1 / 2 ^ 28) + 1 / 2 ^ 24 ≤ 1 / 2 ^ 22 := by decide +kernel
    grind
  · have g0 := mink (L := ld + 1 / 2 ^ 25) (k := 1 / 2 ^ 30) (by grind) (by decide +kernel) u2 ov1 ov2
    have g1 := Rat.le_trans F1 (grow (ld + 1 / 2 ^ 25 + 2 * (1 / 2 ^ 30)) _ (by grind) g0)
    have g2 := mink (L := ld + 1 / 2 ^ 25 + 2 * (1 / 2 ^ 30) + 1 / 2 ^ 25) (k := 1 / 2 ^ 28) (by grind) (by decide +kernel) g1 oy1 oy2
    have g3 := down_len (d := 1 / 2 ^ 24) (K := 2 ^ 24) l7 (show 0 ≤ ld + 1 / 2 ^ 25 + 2 * (1 / 2 ^ 30) + 1 / 2 ^ 25 + 2 * (1 / 2 ^ 28) by grind) e0 (by decide +kernel) (by
      have f : (2 : Rat) ^ 23 + 1 / 2 ^ 25 + 2 * (1 / 2 ^ 30) + 1 / 2 ^ 25 + 2 * (1 / 2 ^ 28) ≤ 2 ^ 24 := by decide +kernel
      grind) l8 g2 (by decide +kernel) (by decide +kernel)
    have f : (1 : Rat) / 2 ^ 25 + 2 * (1 / 2 ^ 30) + 1 / 2 ^ 25 + 2 * (1 / 2 ^ 28) + 1 / 2 ^ 24 ≤ 1 / 2 ^ 22 := by decide +kernel
    grind
end Go.Proofs.Ythbdckjfekimdab
namespace Go.Proofs.Ythbdckjfekimdab
open Ieee Go.RowKit
set_option linter.unusedSimpArgs false
set_option linter.unusedVariables false

theorem gf_rv {x y : Nat} (hx : Gf x) (hy : Gf y) (h : x ≤ y) : rv x ≤ rv y := by
  apply Classical.byContradiction
  intro hc
  have h1 := (lt_rv (fin_nan hy.2.1) (fin_nan hx.2.1)).2 (by grind)
  rw [gf_lt hy hx] at h1
  have := of_decide_eq_true h1
  omega
/-- a circle's core: one place -/
theorem d4_point {b p : Vp} (hb : BdP 40 b) : d4 b b p = lnF (suF p b) := by
  have z1 := sub_zw hb.1 hb.1 (by decide) rfl
  have z2 := sub_zw hb.2 hb.2 (by decide) rfl
  have e : suF b b = (Dv .sub b.1 b.1, Dv .sub b.2 b.2) := by
    unfold suF
    rw [oF_dv (some_sub hb.1.2.1 hb.1.2.1 hb.1.1) (bd_sub hb.1 hb.1 (by decide)), oF_dv (some_sub hb.2.2.1 hb.2.2.1 hb.2.1) (bd_sub hb.2 hb.2 (by decide))]
  have hz : Zw (dtF (suF b b) (suF b b)) := by
    rw [e]
    exact dt_zw z1 z2 (bd_sub hb.1 hb.1 (by decide)) (bd_sub hb.2 hb.2 (by decide)) (by decide)
  have hl : ltK .f64 0 (dtF (suF b b) (suF b b)) = false := by
    rcases hz with h | h <;> rw [h] <;> decide +kernel
  have hp : (ptF b b p).1 = b := by
    unfold ptF
    rw [hl]
    simp
  simp only [d4]
  rw [hp]
/-- a point is an end of a side -/
theorem side_of {k : Int} {n i : Nat} (h : Kd k n) (hi : i < n) : ∃ j, j < sdN k n ∧ (i = j ∨ i = (j + 1) % n) := by
  unfold sdN
  rcases h with ⟨rfl, rfl⟩ | ⟨rfl, rfl⟩ | ⟨rfl, h3⟩
  · exact ⟨0, by decide, .inl (by omega)⟩
  · refine ⟨0, by decide, ?_⟩
    rcases (show i = 0 ∨ i = 1 by omega) with rfl | rfl
    · exact .inl rfl
    · exact .inr rfl
  · exact ⟨i, by rw [if_neg (by decide)]; exact hi, .inl rfl⟩
theorem sd_le {k : Int} {n : Nat} (h : Kd k n) : sdN k n ≤ n ∧ 0 < sdN k n := by
  unfold sdN
  rcases h with ⟨rfl, rfl⟩ | ⟨rfl, rfl⟩ | ⟨rfl, h3⟩
  · exact ⟨by decide, by decide⟩
  · exact ⟨by decide, by decide⟩
  · rw [if_neg (by decide)]; exact ⟨Nat.le_refl _, by omega⟩
theorem seg_le {a b c d : Vp} (ha : BdP 40 a) (hb : BdP 40 b) (hc : BdP 40 c) (hd : BdP 40 d) : (segF a b c d).1 ≤ d4 c d a ∧ (segF a b c d).1 ≤ d4 c d b := by
  unfold segF
  split
  · exact ⟨Nat.zero_le _, Nat.zero_le _⟩
  · rw [end_1 ha hb hc hd]
    exact ⟨by omega, by omega⟩
/-- a side is long enough, or a circle's -/
def LongS (us vs : Nat → Nat) (m j : Nat) : Prop := ltK .f64 0 (dtF (suF (sdA us vs ((j + 1) % m)) (sdA us vs j)) (suF (sdA us vs ((j + 1) % m)) (sdA us vs j))) = true ∧ 1 ≤ rv (dtF (suF (sdA us vs ((j + 1) % m)) (sdA us vs j)) (suF (sdA us vs ((j + 1) % m)) (sdA us vs j))) * 2 ^ 63
/-- **the cores are no farther apart than any two of their points**, up to 2^-22 -/
theorem core_le {xs ys us vs : Nat → Nat} {n m : Nat} {ka kb : Int} (hA : Kd ka n) (hB : Kd kb m) (gA : ∀ i, i < n → BdP 20 (sdA xs ys i)) (gB : ∀ j, j < m → BdP 20 (sdA us vs j)) (hl : kb = 1 ∨ ∀ j, j < sdN kb m → LongS us vs m j) {i k : Nat} (hi : i < n) (hk : k < m) : rv (ouF xs ys n us vs m (sdN kb m) (sdN ka n)).1 ≤ rv (lnF (suF (sdA xs ys i) (sdA us vs k))) + 1 / 2 ^ 22 := by
  have gA' : ∀ i, i < n → BdP 40 (sdA xs ys i) := fun i h => (gA i h).mono (by decide)
  have gB' : ∀ j, j < m → BdP 40 (sdA us vs j) := fun j h => (gB j h).mono (by decide)
  obtain ⟨a1, a2⟩ := sd_le hA
  obtain ⟨b1, b2⟩ := sd_le hB
  obtain ⟨_, gf⟩ := ou_back gA' gB' a1 b1 a2 b2
  obtain ⟨_, l2, _⟩ := ou_1 gA' gB' b1 (sdN ka n) a1
  obtain ⟨i', hi', ei⟩ := side_of hA hi
  obtain ⟨j', hj', ej⟩ := side_of hB hk
  have h1 := l2 i' j' hi' hj'
  have mi : (i' + 1) % n < n := Nat.mod_lt _ (by omega)
  have mj : (j' + 1) % m < m := Nat.mod_lt _ (by omega)
  obtain ⟨s1, s2⟩ := seg_le (gA' i' (by omega)) (gA' _ mi) (gB' j' (by omega)) (gB' _ mj)
  have h2 : (ouF xs ys n us vs m (sdN kb m) (sdN ka n)).1 ≤ d4 (sdA us vs j') (sdA us vs ((j' + 1) % m)) (sdA xs ys i) := by
    unfold sidF at h1
    rcases ei with rfl | rfl
    · exact Nat.le_trans h1 s1
    · exact Nat.le_trans h1 s2
  have g4 := d4_gf (gB' j' (by omega)) (gB' _ mj) (gA' i hi)
  refine Rat.le_trans (gf_rv gf g4 h2) ?_
  have z : (0 : Rat) ≤ 1 / 2 ^ 22 := by decide +kernel
  rcases hl with rfl | hl
  · have m1 : m = 1 := by
      rcases hB with ⟨_, h⟩ | ⟨h, _⟩ | ⟨h, _⟩
      · exact h
      · cases h
      · cases h
    subst m1
    have k0 : k = 0 := by omega
    have j0 : j' = 0 := by unfold sdN at hj'; simp at hj'; exact hj'
    subst k0 j0
    rw [show (0 + 1) % 1 = 0 by rfl, d4_point (gB' 0 (by decide))]
    grind
  · obtain ⟨q1, q2⟩ := hl j' hj'
    obtain ⟨r1, r2⟩ := d4_near (gB j' (by omega)) (gB _ mj) (gA i hi) q1 q2
    rcases ej with rfl | rfl
    · exact r1
    · exact r2
end Go.Proofs.Ythbdckjfekimdab
namespace Go.Proofs.Ythbdckjfekimdab
open Ieee Go.RowKit
set_option linter.unusedSimpArgs false
set_option linter.unusedVariables false

/-! ### Behind the radii: plain numbers -/
/-- a unit's part, times a radius -/
theorem unit_part {v u g Q R e h : Rat} (he : e * 1000 ≤ 1) (he0 : 0 ≤ e) (hh0 : 0 ≤ h) (hh : h ≤ e) (hg : 0 < g) (hR : 0 ≤ R) (hv : ab v ≤ 101 / 100 * g) (q1 : ab (Q * g - v) ≤ e * ab v) (q2 : ab (Q - u) ≤ e * ab u + h) : ab u ≤ 103 / 100 ∧ ab (g * (R * u) - R * v) ≤ 4 * (e * (R * g)) := by
  have a1 := ab_add (Q * g - v) v
  rw [show Q * g - v + v = Q * g by grind, ab_mul, ab_pos (Rat.le_of_lt hg)] at a1
  have a2 := rmul he (ab_nn v)
  have k := rmul he (Rat.le_of_lt hg)
  have a3 : ab Q * g ≤ 1012 / 1000 * g := by grind
  have a4 : ab Q ≤ 1012 / 1000 := Rat.le_of_mul_le_mul_right a3 hg
  have a5 := ab_sub Q (Q - u)
  rw [show Q - (Q - u) = u by grind] at a5
  have a6 := rmul he (ab_nn u)
  have hu : ab u ≤ 103 / 100 := by grind
  refine ⟨hu, ?_⟩
  have b1 := rmul hu he0
  have b2 := ab_mul (Q - u) g
  rw [ab_pos (Rat.le_of_lt hg)] at b2
  have b3 := Rat.mul_le_mul_of_nonneg_right (show ab (Q - u) ≤ 21 / 10 * e by grind) (Rat.le_of_lt hg)
  have b4 := rmul hv he0
  have c1 := ab_sub (Q * g - v) ((Q - u) * g)
  rw [show Q * g - v - (Q - u) * g = u * g - v by grind] at c1
  have eg := Rat.mul_nonneg he0 (Rat.le_of_lt hg)
  have c2 : ab (u * g - v) ≤ 4 * (e * g) := by grind
  have c3 := ab_mul R (u * g - v)
  rw [ab_pos hR] at c3
  have c4 := Rat.mul_le_mul_of_nonneg_left c2 hR
  rw [show g * (R * u) - R * v = R * (u * g - v) by grind, c3]
  grind
/-- the length of a way that is so many times as great, up to a little -/
theorem scaled_len {v1 v2 z1 z2 g l F k d e t K : Rat} (he : e * 1000 ≤ 1) (he0 : 0 ≤ e) (hg : 0 < g) (hF : 0 ≤ F) (hFg : F ≤ g) (hgK : g ≤ K) (hk : 0 ≤ k) (hd : 0 ≤ d) (hl : 0 ≤ l) (ht : 0 ≤ t)
    (s1 : v1 * v1 + v2 * v2 ≤ g * g + 20 * (e * (v1 * v1 + v2 * v2)) + t) (s2 : g * g ≤ (v1 * v1 + v2 * v2) + 20 * (e * (v1 * v1 + v2 * v2)) + t)
    (y1 : ab (g * z1 - F * v1) ≤ k * g) (y2 : ab (g * z2 - F * v2) ≤ k * g)
    (l1 : l * l ≤ (z1 * z1 + z2 * z2) + 20 * (e * (z1 * z1 + z2 * z2)) + t) (l2 : z1 * z1 + z2 * z2 ≤ l * l + 20 * (e * (z1 * z1 + z2 * z2)) + t)
    (q1 : 60 * (e * K) ≤ d) (q2 : 4 * t ≤ d * d) (q3 : d + 2 * k + d ≤ K) (hlK : l ≤ K) : l ≤ F + (2 * d + 2 * k) ∧ F ≤ l + (2 * d + 2 * k) := by
  obtain ⟨m, hm⟩ : ∃ m : Rat, m * g = F := ⟨F / g, Rat.div_mul_cancel (by intro h; rw [h] at hg; exact absurd hg (by decide))⟩
  have m0 : 0 ≤ m := by
    apply Classical.byContradiction
    intro hc
    have := Rat.mul_pos (show 0 < -m by grind) hg
    grind
  have m1 : m ≤ 1 := Rat.le_of_mul_le_mul_right (show m * g ≤ 1 * g by grind) hg
  have mm0 := rsq m
  have mm1 : m * m ≤ 1 := by
    have := sq_le m0 m1
    grind
  have mt := rmul mm1 ht
  have part : ∀ {z v : Rat}, ab (g * z - F * v) ≤ k * g → ab (z - m * v) ≤ k := by
    intro z v h
    rw [show g * z - F * v = (z - m * v) * g by rw [← hm]; grind, ab_mul, ab_pos (Rat.le_of_lt hg)] at h
    exact Rat.le_of_mul_le_mul_right h hg
  have z1y := part y1
  have z2y := part y2
  have flip : ∀ {a b : Rat}, ab (a - b) ≤ k → ab (b - a) ≤ k := by
    intro a b h
    have := ab_le (a - b)
    exact ab_of (by grind) (by grind)
  obtain ⟨S, hS⟩ : ∃ S, S = v1 * v1 + v2 * v2 := ⟨_, rfl⟩
  rw [← hS] at s1 s2
  have r1 := rmul s1 mm0
  have r2 := rmul s2 mm0
  have hSy : m * v1 * (m * v1) + m * v2 * (m * v2) = m * m * S := by rw [hS]; grind
  have FF : F * F = m * m * (g * g) := by rw [← hm]; grind
  have S0 : 0 ≤ m * m * S := by
    have a := rsq (m * v1)
    have b := rsq (m * v2)
    grind
  have t1 : m * m * S ≤ F * F + 20 * (e * (m * m * S)) + t := by rw [FF]; grind
  have t2 : F * F ≤ m * m * S + 20 * (e * (m * m * S)) + t := by rw [FF]; grind
  have K0 : 0 ≤ K := by grind
  have eK := Rat.mul_nonneg he0 K0
  have Z0 : 0 ≤ z1 * z1 + z2 * z2 := by
    have a := rsq z1
    have b := rsq z2
    grind
  constructor
  · have a := up_len hF S0 he0 he hd (show F ≤ K by grind) t1 (by grind) (by grind) ht
    rw [← hSy] at a
    have b := mink (show 0 ≤ F + d by grind) hk a z1y z2y
    have c := down_len (K := 2 * K) hl (show 0 ≤ F + d + 2 * k by grind) he0 hd (by grind) l1 b (by grind) (by grind)
    grind
  · have a := up_len hl Z0 he0 he hd hlK l2 (by grind) (by grind) ht
    have b := mink (show 0 ≤ l + d by grind) hk a (flip z1y) (flip z2y)
    rw [hSy] at b
    have c := down_len (K := 2 * K) hF (show 0 ≤ l + d + 2 * k by grind) he0 hd (by grind) t2 b (by grind) (by grind)
    grind
end Go.Proofs.Ythbdckjfekimdab
namespace Go.Proofs.Ythbdckjfekimdab
open Ieee Go.RowKit
set_option linter.unusedSimpArgs false
set_option linter.unusedVariables false

/-! ### Far less the radii -/
theorem sub_o {n x y : Nat} (hx : Bd n x) (hy : Bd n y) (hn : n ≤ 900) : Bd (n + 2) (oF .sub x y) ∧ nrS (rv x - rv y) (rv (oF .sub x y)) := by
  have r := bd_sub hx hy hn
  rw [oF_dv (some_sub hx.2.1 hy.2.1 hy.1) r]
  exact ⟨r, sub_rv hy.1 hx.2.1 hy.2.1 r.2.1 (dv_res (some_sub hx.2.1 hy.2.1 hy.1))⟩
theorem add_o {n x y : Nat} (hx : Bd n x) (hy : Bd n y) (hn : n ≤ 900) : Bd (n + 2) (oF .add x y) ∧ nrS (rv x + rv y) (rv (oF .add x y)) := by
  have r := bd_add hx hy hn
  rw [oF_dv (some_add hx.2.1 hy.2.1) r]
  exact ⟨r, add_rv hx.2.1 hy.2.1 r.2.1 (dv_res (some_add hx.2.1 hy.2.1))⟩
/-- how far a rounded number of that size is off -/
theorem off_29 {q A : Rat} (h : nrS q A) (hq : ab q ≤ 2 ^ 29) : A ≤ q + 1 / 2 ^ 23 ∧ q ≤ A + 1 / 2 ^ 23 := by
  have o := (opx h hq (by decide +kernel)).2
  have c : (102 / 100 : Rat) * (epR * 2 ^ 29) ≤ 1 / 2 ^ 23 := by decide +kernel
  have := ab_le (q - A)
  constructor <;> grind
theorem far_num {N L ra rb s f p M X S : Rat} (hN : N ≤ L + 1 / 2 ^ 22) (N0 : ab N ≤ 2 ^ 24) (L0 : ab L ≤ 2 ^ 24) (a0 : ab ra ≤ 2 ^ 24) (b0 : ab rb ≤ 2 ^ 24) (s0 : ab s ≤ 2 ^ 26) (p0 : ab p ≤ 2 ^ 26) (X0 : 0 ≤ X) (X1 : ab X ≤ 2 ^ 28) (XM : M ≤ X)
    (h1 : nrS (ra + rb) s) (h2 : nrS (N - s) f) (h3 : nrS (L - ra) p) (h4 : nrS (p - rb) M) (h5 : nrS (X + 1 / 2 ^ 20) S) : f ≤ S ∧ 0 ≤ S := by
  have c1 : (2 : Rat) ^ 24 + 2 ^ 25 ≤ 2 ^ 26 := by decide +kernel
  have c2 : (2 : Rat) ^ 24 + 2 ^ 24 ≤ 2 ^ 26 := by decide +kernel
  have c3 : (2 : Rat) ^ 28 + 1 / 2 ^ 20 ≤ 2 ^ 29 := by decide +kernel
  have c4 : ab (1 / 2 ^ 20) = 1 / 2 ^ 20 := by decide +kernel
  have o1 := off_29 h1 (by have := ab_add ra rb; grind)
  have o2 := off_29 h2 (by have := ab_sub N s; grind)
  have o3 := off_29 h3 (by have := ab_sub L ra; grind)
  have o4 := off_29 h4 (by have := ab_sub p rb; grind)
  have o5 := off_29 h5 (by have := ab_add X (1 / 2 ^ 20); grind)
  have c5 : (1 : Rat) / 2 ^ 22 + 5 * (1 / 2 ^ 23) ≤ 1 / 2 ^ 20 := by decide +kernel
  have c6 : (1 : Rat) / 2 ^ 23 ≤ 1 / 2 ^ 20 := by decide +kernel
  generalize (1 : Rat) / 2 ^ 23 = u at *
  generalize (1 : Rat) / 2 ^ 22 = w at *
  generalize (1 : Rat) / 2 ^ 20 = y at *
  constructor
  · clear h1 h2 h3 h4 h5 N0 L0 a0 b0 s0 p0 X1 c1 c2 c3 c4
    grind
  · clear h1 h2 h3 h4 h5 N0 L0 a0 b0 s0 p0 X1 c1 c2 c3 c4
    grind
/-- FAR IS NO MORE THAN WHAT TWO POINTS ARE APART, LESS THE RADII, and 2^-20 -/
theorem far_may {N : Nr} {L ra rb X : Nat} (hN : Bd 24 N.1) (hL : Bd 24 L) (ha : Bd 24 ra) (hb : Bd 24 rb) (h : rv N.1 ≤ rv L + 1 / 2 ^ 22) (hX : Bd 28 X) (X0 : 0 ≤ rv X) (XM : rv (oF .sub (oF .sub L ra) rb) ≤ rv X) :
    ltK .f64 (oF .add X 4517110426252607488) (pkF (ltK .f64 0 (frF N ra rb)) (frF N ra rb) 0) = false := by
  have c : Bd 28 4517110426252607488 := by refine ⟨?_, by decide +kernel, by decide +kernel⟩; unfold okK; decide +kernel
  have cv : rv 4517110426252607488 = 1 / 2 ^ 20 := by decide +kernel
  have z0 : rv 0 = 0 := by decide +kernel
  obtain ⟨k1, g1⟩ := add_o ha hb (by decide)
  obtain ⟨k2, g2⟩ := sub_o (bd_mono hN (by decide : 24 ≤ 26)) k1 (by decide)
  obtain ⟨k3, g3⟩ := sub_o hL ha (by decide)
  obtain ⟨k4, g4⟩ := sub_o k3 (bd_mono hb (by decide : 24 ≤ 26)) (by decide)
  obtain ⟨k5, g5⟩ := add_o hX c (by decide)
  rw [cv] at g5
  obtain ⟨r1, r2⟩ := far_num h (bd_ab hN) (bd_ab hL) (bd_ab ha) (bd_ab hb) (bd_ab k1) (bd_ab k3) X0 (bd_ab hX) XM g1 g2 g3 g4 g5
  have n5 := fin_nan k5.2.1
  rw [← Bool.not_eq_true]
  intro hc
  unfold pkF at hc
  split at hc
  · have hc := (lt_rv n5 (fin_nan k2.2.1)).1 hc
    grind
  · rw [lt_rv n5 (by decide +kernel), z0] at hc
    grind
end Go.Proofs.Ythbdckjfekimdab
namespace Go.Proofs.Ythbdckjfekimdab
open Ieee Go.RowKit
set_option linter.unusedSimpArgs false
set_option linter.unusedVariables false

/-! ### Behind the radii: how far the two places are apart -/
/-- a part of the way between the places -/
theorem part_z {A B v u ra nb rb pa pb A' B' z : Rat} (a0 : ab A ≤ 2 ^ 21) (b0 : ab B ≤ 2 ^ 21) (ra0 : ab ra ≤ 2 ^ 20) (rb0 : ab rb ≤ 2 ^ 20) (hn : nb = -rb) (u0 : ab u ≤ 103 / 100)
    (hv : nrS (B - A) v) (ha : nrS (ra * u) pa) (hA : nrS (A + pa) A') (hb : nrS (nb * u) pb) (hB : nrS (B + pb) B') (hz : nrS (B' - A') z) : ab (z - (v - (ra + rb) * u)) ≤ 1 / 2 ^ 27 := by
  have m1 := ab_mul_le ra0 u0
  have m2 := ab_mul_le rb0 u0
  have en : nb * u = -(rb * u) := by rw [hn]; grind
  rw [en] at hb
  have m3 : ab (-(rb * u)) = ab (rb * u) := by unfold ab; split <;> split <;> grind
  have c1 : (2 : Rat) ^ 20 * (103 / 100) ≤ 2 ^ 21 := by decide +kernel
  have c2 : (2 : Rat) ^ 21 + 2 ^ 21 ≤ 2 ^ 22 := by decide +kernel
  have c3 : (2 : Rat) ^ 21 + 101 / 100 * 2 ^ 21 ≤ 2 ^ 23 := by decide +kernel
  have c4 : (101 / 100 : Rat) * 2 ^ 23 + 101 / 100 * 2 ^ 23 ≤ 2 ^ 25 := by decide +kernel
  have o1 := opx hv (B := 2 ^ 22) (by have := ab_sub B A; grind) (by decide +kernel)
  have o2 := opx ha (B := 2 ^ 21) (by grind) (by decide +kernel)
  have o3 := opx hb (B := 2 ^ 21) (by rw [m3]; grind) (by decide +kernel)
  have o4 := opx hA (B := 2 ^ 23) (by have := ab_add A pa; grind) (by decide +kernel)
  have o5 := opx hB (B := 2 ^ 23) (by have := ab_add B pb; grind) (by decide +kernel)
  have o6 := opx hz (B := 2 ^ 25) (by have := ab_sub B' A'; grind) (by decide +kernel)
  have c5 : (102 / 100 : Rat) * (epR * 2 ^ 22) + 102 / 100 * (epR * 2 ^ 21) + 102 / 100 * (epR * 2 ^ 21) + 102 / 100 * (epR * 2 ^ 23) + 102 / 100 * (epR * 2 ^ 23) + 102 / 100 * (epR * 2 ^ 25) ≤ 1 / 2 ^ 27 := by decide +kernel
  have d1 := ab_le (B - A - v)
  have d2 := ab_le (ra * u - pa)
  have d3 := ab_le (-(rb * u) - pb)
  have d4 := ab_le (A + pa - A')
  have d5 := ab_le (B + pb - B')
  have d6 := ab_le (B' - A' - z)
  have ex : (ra + rb) * u = ra * u + rb * u := by grind
  rw [ex]
  have o1 := o1.2
  have o2 := o2.2
  have o3 := o3.2
  have o4 := o4.2
  have o5 := o5.2
  have o6 := o6.2
  clear hv ha hb hA hB hz m1 m2 m3 en ex c1 c2 c3 c4 a0 b0 ra0 rb0 u0 hn
  generalize ra * u = X at *
  generalize rb * u = Y at *
  generalize (102 / 100 : Rat) * (epR * 2 ^ 22) = e1 at *
  generalize (102 / 100 : Rat) * (epR * 2 ^ 21) = e2 at *
  generalize (102 / 100 : Rat) * (epR * 2 ^ 23) = e3 at *
  generalize (102 / 100 : Rat) * (epR * 2 ^ 25) = e4 at *
  refine ab_of ?_ ?_ <;> grind
/-- g times that part is g less the radii times the way's part -/
theorem part_y {v u z g R : Rat} (hg : 0 < g) (hR : 0 ≤ R) (R1 : R ≤ 2 ^ 21) (h1 : ab (z - (v - R * u)) ≤ 1 / 2 ^ 27) (h2 : ab (g * (R * u) - R * v) ≤ 4 * (epR * (R * g))) : ab (g * z - (g - R) * v) ≤ 1 / 2 ^ 26 * g := by
  have e0 : (0 : Rat) ≤ epR := by decide +kernel
  have a := ab_mul g (z - (v - R * u))
  rw [ab_pos (Rat.le_of_lt hg)] at a
  have b := rmul h1 (Rat.le_of_lt hg)
  have c := ab_sub (g * (z - (v - R * u))) (g * (R * u) - R * v)
  have d := rmul (rmul R1 e0) (Rat.le_of_lt hg)
  have f := rmul (show (1 : Rat) / 2 ^ 27 + 4 * (epR * 2 ^ 21) ≤ 1 / 2 ^ 26 by decide +kernel) (Rat.le_of_lt hg)
  rw [show g * z - (g - R) * v = g * (z - (v - R * u)) - (g * (R * u) - R * v) by grind]
  grind
end Go.Proofs.Ythbdckjfekimdab
namespace Go.Proofs.Ythbdckjfekimdab
open Ieee Go.RowKit
set_option linter.unusedSimpArgs false
set_option linter.unusedVariables false

/-! ### The places behind the radii are Far apart -/
theorem cap_25 {l v1 v2 : Rat} (h : l * l ≤ (v1 * v1 + v2 * v2) + 20 * (epR * (v1 * v1 + v2 * v2)) + tauR) (h1 : ab v1 ≤ 101 / 100 * 2 ^ 23) (h2 : ab v2 ≤ 101 / 100 * 2 ^ 23) : l ≤ 2 ^ 25 := by
  have a1 := sq_le (ab_nn v1) h1
  have a2 := sq_le (ab_nn v2) h2
  rw [ab_sq] at a1 a2
  have e0 : (0 : Rat) ≤ epR := by decide +kernel
  have S1 : v1 * v1 + v2 * v2 ≤ 101 / 100 * 2 ^ 23 * (101 / 100 * 2 ^ 23) + 101 / 100 * 2 ^ 23 * (101 / 100 * 2 ^ 23) := by grind
  have b := rmul S1 e0
  have c : (101 / 100 * 2 ^ 23 * (101 / 100 * 2 ^ 23) + 101 / 100 * 2 ^ 23 * (101 / 100 * 2 ^ 23) : Rat) + 20 * (epR * (101 / 100 * 2 ^ 23 * (101 / 100 * 2 ^ 23) + 101 / 100 * 2 ^ 23 * (101 / 100 * 2 ^ 23))) + tauR ≤ 2 ^ 25 * 2 ^ 25 := by decide +kernel
  have := sq_cmp (x := l) (y := 2 ^ 25) (d := 0) (by decide +kernel) (by decide) (by
    generalize (101 / 100 * 2 ^ 23 * (101 / 100 * 2 ^ 23) + 101 / 100 * 2 ^ 23 * (101 / 100 * 2 ^ 23) : Rat) = X at *
    grind)
  grind
/-- a part of a way is no longer than the way -/
theorem part_le {v1 v2 g : Rat} (hg : 1 / 2 ^ 11 ≤ g) (h : v1 * v1 + v2 * v2 ≤ g * g + 20 * (epR * (v1 * v1 + v2 * v2)) + tauR) : ab v1 ≤ 101 / 100 * g ∧ ab v2 ≤ 101 / 100 * g := by
  have g0 : 0 ≤ g := Rat.le_trans (by decide +kernel) hg
  have gg := sq_le (show (0 : Rat) ≤ 1 / 2 ^ 11 by decide +kernel) hg
  have ct : tauR * 1000 ≤ 1 / 2 ^ 11 * (1 / 2 ^ 11) := by decide +kernel
  have ce : epR * 100000 ≤ 1 := by decide +kernel
  have r1 := rsq v1
  have r2 := rsq v2
  have k := rmul ce (show 0 ≤ v1 * v1 + v2 * v2 by grind)
  have t : v1 * v1 + v2 * v2 ≤ 1002 / 1000 * (g * g) := by
    generalize (1 / 2 ^ 11 * (1 / 2 ^ 11) : Rat) = X at *
    grind
  have f : ∀ {v : Rat}, v * v ≤ 1002 / 1000 * (g * g) → ab v ≤ 101 / 100 * g := by
    intro v hv
    have hd : 0 ≤ 1 / 100 * g := by grind
    have q := sq_cmp (x := ab v) (y := g) (d := 1 / 100 * g) g0 hd (by
      rw [ab_sq]
      have := rsq g
      grind)
    grind
  exact ⟨f (by grind), f (by grind)⟩
/-- the places behind the radii are as far apart as the cores less the radii -/
theorem behind_num {v1 v2 u1 u2 z1 z2 Q1 Q2 g l R : Rat} (hg : 1 / 2 ^ 11 ≤ g) (gK : g ≤ 2 ^ 25) (lK : l ≤ 2 ^ 25) (l0 : 0 ≤ l) (hR : 0 ≤ R) (R1 : R ≤ 2 ^ 21) (hF : R ≤ g)
    (s1 : v1 * v1 + v2 * v2 ≤ g * g + 20 * (epR * (v1 * v1 + v2 * v2)) + tauR) (s2 : g * g ≤ (v1 * v1 + v2 * v2) + 20 * (epR * (v1 * v1 + v2 * v2)) + tauR)
    (k1 : ab (Q1 * g - v1) ≤ epR * ab v1) (k2 : ab (Q2 * g - v2) ≤ epR * ab v2) (n1 : nrS Q1 u1) (n2 : nrS Q2 u2)
    (d1 : ab u1 ≤ 103 / 100 → ab (z1 - (v1 - R * u1)) ≤ 1 / 2 ^ 27) (d2 : ab u2 ≤ 103 / 100 → ab (z2 - (v2 - R * u2)) ≤ 1 / 2 ^ 27)
    (l1 : l * l ≤ (z1 * z1 + z2 * z2) + 20 * (epR * (z1 * z1 + z2 * z2)) + tauR) (l2 : z1 * z1 + z2 * z2 ≤ l * l + 20 * (epR * (z1 * z1 + z2 * z2)) + tauR) :
    l ≤ g - R + (2 * (1 / 2 ^ 22) + 2 * (1 / 2 ^ 26)) ∧ g - R ≤ l + (2 * (1 / 2 ^ 22) + 2 * (1 / 2 ^ 26)) := by
  have e0 : (0 : Rat) ≤ epR := by decide +kernel
  have e1 : epR * 1000 ≤ 1 := by decide +kernel
  have h0 : (0 : Rat) ≤ etR := by decide +kernel
  have h1 : etR ≤ epR := by decide +kernel
  have g0 : 0 < g := by
    have : (0 : Rat) < 1 / 2 ^ 11 := by decide +kernel
    grind
  obtain ⟨w1, w2⟩ := part_le hg s1
  obtain ⟨a1, b1⟩ := unit_part e1 e0 h0 h1 g0 hR w1 k1 n1
  obtain ⟨a2, b2⟩ := unit_part e1 e0 h0 h1 g0 hR w2 k2 n2
  have y1 := part_y g0 hR R1 (d1 a1) b1
  have y2 := part_y g0 hR R1 (d2 a2) b2
  exact scaled_len (d := 1 / 2 ^ 22) (K := 2 ^ 25) e1 e0 g0 (by grind) (by grind) gK (by decide +kernel) (by decide +kernel) l0 (by decide +kernel) s1 s2 y1 y2 l1 l2 (by decide +kernel) (by decide +kernel) (by decide +kernel) lK
theorem pos_of {x : Nat} (h : Gf x) : 0 ≤ rv x := by
  unfold rv
  rw [h.2.2]
  have := ab_rv x
  rw [← this]
  exact ab_nn _
theorem bd_of {x n : Nat} (h : Gf x) (hx : rv x ≤ 2 ^ n) : Bd n x := by
  refine ⟨h.1, h.2.1, ?_⟩
  rw [← ab_rv, ab_pos (pos_of h)]
  exact hx
/-- THE PLACES ARE SO FAR APART -/
theorem behind {N : Nr} {ra rb nb : Nat} (hA : BdP 21 N.2.1) (hB : BdP 21 N.2.2) (ga : 0 ≤ rv ra) (gb : 0 ≤ rv rb) (ba : Bd 20 ra) (bb : Bd 20 rb) (bn : Bd 20 nb) (en : rv nb = -rv rb) (hN : N.1 = lnF (unW N)) (hf : ltK .f64 4562146422526312448 (frF N ra rb) = true) :
    unO N = true ∧ Bd 29 (oF .sub (lnF (suF (moF N.2.2 nb (unF N)) (moF N.2.1 ra (unF N)))) (frF N ra rb)) ∧ ab (rv (oF .sub (lnF (suF (moF N.2.2 nb (unF N)) (moF N.2.1 ra (unF N)))) (frF N ra rb))) ≤ 1 / 2 ^ 20 := by
  have W : BdP 23 (unW N) := su_bd hB hA (by decide)
  obtain ⟨v1, v2⟩ := su_rv hB hA (by decide)
  have c22 : (2 : Rat) ^ 21 + 2 ^ 21 ≤ 2 ^ 22 := by decide +kernel
  have p1 := opx v1 (B := 2 ^ 22) (by have := ab_sub (rv N.2.2.1) (rv N.2.1.1); have := bd_ab hA.1; have := bd_ab hB.1; grind) (by decide +kernel)
  have p2 := opx v2 (B := 2 ^ 22) (by have := ab_sub (rv N.2.2.2) (rv N.2.1.2); have := bd_ab hA.2; have := bd_ab hB.2; grind) (by decide +kernel)
  have gg := gf_ln W (by decide)
  obtain ⟨g0, s2, s1⟩ := len_two W (by decide)
  have c23 : (101 / 100 : Rat) * 2 ^ 22 ≤ 101 / 100 * 2 ^ 23 := by decide +kernel
  have gK := cap_25 s2 (Rat.le_trans p1.1 c23) (Rat.le_trans p2.1 c23)
  have bg := bd_of gg gK
  -- what the radii leave
  obtain ⟨q1, o1⟩ := add_o ba bb (by decide)
  obtain ⟨q2, o2⟩ := sub_o bg (bd_mono q1 (by decide : 20 + 2 ≤ 25)) (by decide)
  have efr : frF N ra rb = oF .sub (lnF (unW N)) (oF .add ra rb) := by unfold frF; rw [hN]
  rw [efr] at hf ⊢
  have c29 : (2 : Rat) ^ 20 + 2 ^ 20 ≤ 2 ^ 29 := by decide +kernel
  have c30 : (2 : Rat) ^ 25 + 2 ^ 22 ≤ 2 ^ 29 := by decide +kernel
  have f1 := off_29 o1 (by have := ab_add (rv ra) (rv rb); have := bd_ab ba; have := bd_ab bb; grind)
  have f2 := off_29 o2 (by have := ab_sub (rv (lnF (unW N))) (rv (oF .add ra rb)); have := bd_ab bg; have := bd_ab q1; grind)
  have hf := (lt_rv (by decide +kernel) (fin_nan q2.2.1)).1 hf
  rw [show rv 4562146422526312448 = 1 / 2 ^ 10 by decide +kernel] at hf
  have ra0 := ga
  have rb0 := gb
  have ra1 := bd_ab ba
  have rb1 := bd_ab bb
  have c10 : (1 : Rat) / 2 ^ 11 + 2 * (1 / 2 ^ 23) ≤ 1 / 2 ^ 10 := by decide +kernel
  have c11 : (0 : Rat) ≤ 1 / 2 ^ 11 := by decide +kernel
  have hR : rv ra + rv rb ≤ rv (lnF (unW N)) := by grind
  have hg : 1 / 2 ^ 11 ≤ rv (lnF (unW N)) := by grind
  have lz : ltK .f64 0 (lnF (unW N)) = true := (lt_rv (by decide +kernel) (fin_nan gg.2.1)).2 (by
    rw [show rv 0 = 0 by decide +kernel]
    have : (0 : Rat) < 1 / 2 ^ 11 := by decide +kernel
    grind)
  have nz := pos_mg lz
  have u0 : unO N = true := by unfold unO; rw [lz, gg.2.1]; rfl
  obtain ⟨w1, w2⟩ := part_le hg s1
  have ag := ab_rv (lnF (unW N))
  rw [ab_pos g0] at ag
  have ak : 1 ≤ av (lnF (unW N)) * 2 ^ 11 := by
    rw [← ag]
    have := Rat.mul_le_mul_of_nonneg_right hg (show (0 : Rat) ≤ 2 ^ 11 by decide +kernel)
    rw [show (1 / 2 ^ 11 * 2 ^ 11 : Rat) = 1 by decide +kernel] at this
    exact this
  obtain ⟨t1, e1⟩ := bd_quo W.1 bg ak (by decide)
  obtain ⟨t2, e2⟩ := bd_quo W.2 bg ak (by decide)
  obtain ⟨Q1, k1, n1⟩ := quo_rv W.1.2.1 bg.2.1 nz t1.2.1 e1
  obtain ⟨Q2, k2, n2⟩ := quo_rv W.2.2.1 bg.2.1 nz t2.2.1 e2
  have eu : unF N = (Dv .quo (unW N).1 (lnF (unW N)), Dv .quo (unW N).2 (lnF (unW N))) := by
    unfold unF
    rw [oF_dv (some_quo W.1.2.1 bg.2.1 nz) t1, oF_dv (some_quo W.2.2.1 bg.2.1 nz) t2]
  rw [eu]
  have g1 : 0 < rv (lnF (unW N)) := by
    have : (0 : Rat) < 1 / 2 ^ 11 := by decide +kernel
    grind
  have i0 : (0 : Rat) ≤ epR := by decide +kernel
  have i1 : epR * 1000 ≤ 1 := by decide +kernel
  have i2 : (0 : Rat) ≤ etR := by decide +kernel
  have i3 : etR ≤ epR := by decide +kernel
  have j1 := (unit_part i1 i0 i2 i3 g1 (Rat.le_refl (a := 0)) w1 k1 n1).1
  have j2 := (unit_part i1 i0 i2 i3 g1 (Rat.le_refl (a := 0)) w2 k2 n2).1
  have cu : (103 / 100 : Rat) ≤ 2 ^ 21 := by decide +kernel
  have U : BdP 21 (Dv .quo (unW N).1 (lnF (unW N)), Dv .quo (unW N).2 (lnF (unW N))) := ⟨⟨t1.1, t1.2.1, by rw [← ab_rv]; exact Rat.le_trans j1 cu⟩, ⟨t2.1, t2.2.1, by rw [← ab_rv]; exact Rat.le_trans j2 cu⟩⟩
  have A' := mo_bd hA ba U (by decide)
  have B' := mo_bd hB bn U (by decide)
  have Z := su_bd B' A' (by decide)
  obtain ⟨z1, z2⟩ := su_rv B' A' (by decide)
  obtain ⟨x1, xa, xb⟩ := mo_rv1 hA.1 ba U.1 (by decide)
  obtain ⟨x2, xc, xd⟩ := mo_rv1 hA.2 ba U.2 (by decide)
  obtain ⟨y1, ya, yb⟩ := mo_rv1 hB.1 bn U.1 (by decide)
  obtain ⟨y2, yc, yd⟩ := mo_rv1 hB.2 bn U.2 (by decide)
  obtain ⟨l0, l1, l2⟩ := len_two Z (by decide)
  have gl := gf_ln Z (by decide)
  have d1 := part_z (bd_ab hA.1) (bd_ab hB.1) ra1 rb1 en j1 v1 xa xb ya yb z1
  have d2 := part_z (bd_ab hA.2) (bd_ab hB.2) ra1 rb1 en j2 v2 xc xd yc yd z2
  have R0 : 0 ≤ rv ra + rv rb := by grind
  have R1 : rv ra + rv rb ≤ 2 ^ 21 := by
    rw [ab_pos ra0] at ra1
    rw [ab_pos rb0] at rb1
    have : (2 : Rat) ^ 20 + 2 ^ 20 ≤ 2 ^ 21 := by decide +kernel
    grind
  have aR : ab (rv ra + rv rb) ≤ 2 ^ 21 := by rw [ab_pos R0]; exact R1
  have cz : (1 : Rat) / 2 ^ 27 + (101 / 100 * 2 ^ 22 + 2 ^ 21 * (103 / 100)) ≤ 101 / 100 * 2 ^ 23 := by decide +kernel
  have cap : ∀ {z v u : Rat}, ab (z - (v - (rv ra + rv rb) * u)) ≤ 1 / 2 ^ 27 → ab v ≤ 101 / 100 * 2 ^ 22 → ab u ≤ 103 / 100 → ab z ≤ 101 / 100 * 2 ^ 23 := by
    intro z v u h1 h2 h3
    have m := ab_mul_le aR h3
    have m2 := ab_sub v ((rv ra + rv rb) * u)
    have m3 := ab_add (z - (v - (rv ra + rv rb) * u)) (v - (rv ra + rv rb) * u)
    rw [show z - (v - (rv ra + rv rb) * u) + (v - (rv ra + rv rb) * u) = z by grind] at m3
    grind
  have lK := cap_25 l1 (cap d1 p1.1 j1) (cap d2 p2.1 j2)
  obtain ⟨r1, r2⟩ := behind_num hg gK lK l0 R0 R1 hR s1 s2 k1 k2 n1 n2 (fun _ => d1) (fun _ => d2) l1 l2
  obtain ⟨y3, y4⟩ := sub_o (bd_mono (bd_of gl lK) (by decide : 25 ≤ 27)) q2 (by decide)
  refine ⟨u0, y3, ?_⟩
  have c31 : (2 : Rat) ^ 25 + 2 ^ 27 ≤ 2 ^ 29 := by decide +kernel
  have f3 := off_29 y4 (by
    have a := ab_sub (rv (lnF (suF (moF N.2.2 nb (Dv .quo (unW N).1 (lnF (unW N)), Dv .quo (unW N).2 (lnF (unW N)))) (moF N.2.1 ra (Dv .quo (unW N).1 (lnF (unW N)), Dv .quo (unW N).2 (lnF (unW N))))))) (rv (oF .sub (lnF (unW N)) (oF .add ra rb)))
    have b := bd_ab q2
    have c := bd_ab (bd_of gl lK)
    have b : ab (rv (oF .sub (lnF (unW N)) (oF .add ra rb))) ≤ 2 ^ 27 := b
    grind)
  have c32 : (2 * (1 / 2 ^ 22) + 2 * (1 / 2 ^ 26) : Rat) + 3 * (1 / 2 ^ 23) ≤ 1 / 2 ^ 20 := by decide +kernel
  generalize (2 * (1 / 2 ^ 22) + 2 * (1 / 2 ^ 26) : Rat) = X at *
  generalize (1 / 2 ^ 23 : Rat) = Y at *
  generalize (1 / 2 ^ 20 : Rat) = Z at *
  refine ab_of ?_ ?_ <;> grind
end Go.Proofs.Ythbdckjfekimdab
namespace Go.Proofs.Ythbdckjfekimdab
open Ieee Go.RowKit
set_option linter.unusedSimpArgs false
set_option linter.unusedVariables false

/-! ### The places of the cores -/
theorem cl_01 (q : Nat) : 0 ≤ rv (clK .f64 q 0 4607182418800017408) ∧ rv (clK .f64 q 0 4607182418800017408) ≤ 1 := by
  have z0 : rv 0 = 0 := by decide +kernel
  have z1 : rv 4607182418800017408 = 1 := by decide +kernel
  have n0 : nanK .f64 0 = false := by decide +kernel
  have n1 : nanK .f64 4607182418800017408 = false := by decide +kernel
  unfold clK
  split
  · rw [z0]; exact ⟨by decide, by decide +kernel⟩
  · rename_i h
    replace h : ltK .f64 0 q = true := by cases hh : ltK .f64 0 q <;> simp_all
    have nq : nanK .f64 q = false := by
      unfold ltK at h
      simp only [Bool.and_eq_true, Bool.not_eq_true'] at h
      exact h.1.2
    have h0 := (lt_rv n0 nq).1 h
    rw [z0] at h0
    split
    · rw [z1]; exact ⟨by decide +kernel, by decide +kernel⟩
    · rename_i g
      have g : ¬ 1 < rv q := fun hc => g ((lt_rv n1 nq).2 (by rw [z1]; exact hc))
      exact ⟨by grind, by grind⟩
theorem pt_num {c d w t m x : Rat} (c0 : ab c ≤ 2 ^ 20) (d0 : ab d ≤ 2 ^ 20) (t0 : 0 ≤ t) (t1 : t ≤ 1) (hw : nrS (d - c) w) (hm : nrS (t * w) m) (hx : nrS (c + m) x) : ab x ≤ 2 ^ 21 := by
  have k1 : (2 : Rat) ^ 20 + 2 ^ 20 ≤ 2 ^ 21 := by decide +kernel
  have k2 : (1 : Rat) * (101 / 100 * 2 ^ 21) ≤ 2 ^ 22 := by decide +kernel
  have k3 : (2 : Rat) ^ 20 + 101 / 100 * 2 ^ 22 ≤ 2 ^ 23 := by decide +kernel
  have k4 : (102 / 100 : Rat) * (epR * 2 ^ 21) ≤ 1 := by decide +kernel
  have k5 : (102 / 100 : Rat) * (epR * 2 ^ 22) ≤ 1 := by decide +kernel
  have k6 : (102 / 100 : Rat) * (epR * 2 ^ 23) ≤ 1 := by decide +kernel
  have k7 : (2 : Rat) ^ 20 + 3 ≤ 2 ^ 21 := by decide +kernel
  have at1 : ab t ≤ 1 := by rw [ab_pos t0]; exact t1
  obtain ⟨w1, w2⟩ := opx hw (B := 2 ^ 21) (by have := ab_sub d c; grind) (by decide +kernel)
  have tw := ab_mul_le at1 w1
  obtain ⟨m1, m2⟩ := opx hm (B := 2 ^ 22) (Rat.le_trans tw k2) (by decide +kernel)
  obtain ⟨x1, x2⟩ := opx hx (B := 2 ^ 23) (by have := ab_add c m; grind) (by decide +kernel)
  have a1 := ab_le (d - c - w)
  have a2 := ab_le (t * w - m)
  have a3 := ab_le (c + m - x)
  have a4 := ab_le c
  have a5 := ab_le d
  have b1 := rmul (show w ≤ d - c + 1 by grind) t0
  have b2 := rmul (show d - c - 1 ≤ w by grind) t0
  have s0 : 0 ≤ 1 - t := by grind
  have e1 := rmul (show c ≤ 2 ^ 20 by grind) s0
  have e2 := rmul (show d ≤ 2 ^ 20 by grind) t0
  have e3 := rmul (show -2 ^ 20 ≤ c by grind) s0
  have e4 := rmul (show -2 ^ 20 ≤ d by grind) t0
  generalize (2 : Rat) ^ 20 = P at *
  generalize (2 : Rat) ^ 21 = P2 at *
  clear hw hm hx w1 tw m1 x1
  refine ab_of ?_ ?_ <;> grind
theorem pt_21 {c d p : Vp} (hc : BdP 20 c) (hd : BdP 20 d) : BdP 21 (ptF c d p).1 := by
  have b := pt_bd (p := p) (hc.mono (by decide : 20 ≤ 40)) (hd.mono (by decide : 20 ≤ 40))
  unfold ptF at b ⊢
  split
  · rename_i h
    rw [if_pos h] at b
    have w := su_bd hd hc (by decide)
    obtain ⟨w1, w2⟩ := su_rv hd hc (by decide)
    have bt := cl_bd (oF_ok .quo (dtF (suF p c) (suF d c)) (dtF (suF d c) (suF d c)))
    obtain ⟨t0, t1⟩ := cl_01 (oF .quo (dtF (suF p c) (suF d c)) (dtF (suF d c) (suF d c)))
    obtain ⟨m1, a1, a2⟩ := mo_rv1 (n := 22) (bd_mono hc.1 (by decide)) bt w.1 (by decide)
    obtain ⟨m2, a3, a4⟩ := mo_rv1 (n := 22) (bd_mono hc.2 (by decide)) bt w.2 (by decide)
    have r1 := pt_num (bd_ab hc.1) (bd_ab hd.1) t0 t1 w1 a1 a2
    have r2 := pt_num (bd_ab hc.2) (bd_ab hd.2) t0 t1 w2 a3 a4
    exact ⟨⟨b.1.1, b.1.2.1, by rw [← ab_rv]; exact r1⟩, ⟨b.2.1, b.2.2.1, by rw [← ab_rv]; exact r2⟩⟩
  · exact hc.mono (by decide)
/-- so far apart as it says, or they touch, or there are none yet -/
def Pl (N : Nr) : Prop := (N.1 = lnF (unW N) ∧ BdP 21 N.2.1 ∧ BdP 21 N.2.2) ∨ N.1 = 0 ∨ N.1 = 9218868437227405312
theorem pl_nr {N M : Nr} (h1 : Pl N) (h2 : Pl M) : Pl (nrF N M) := by
  unfold nrF
  split
  · exact h2
  · exact h1
theorem pl_ap {a b : Vp} (ha : BdP 21 a) (hb : BdP 21 b) : Pl (apN a b) := .inl ⟨rfl, ha, hb⟩
theorem pl_seg {a b c d : Vp} (ha : BdP 20 a) (hb : BdP 20 b) (hc : BdP 20 c) (hd : BdP 20 d) : Pl (segF a b c d) := by
  unfold segF
  split
  · exact .inr (.inl rfl)
  · unfold endF n0F n1F
    exact pl_nr (pl_nr (pl_nr (pl_ap (ha.mono (by decide)) (pt_21 hc hd)) (pl_ap (hb.mono (by decide)) (pt_21 hc hd))) (pl_ap (pt_21 ha hb) (hc.mono (by decide)))) (pl_ap (pt_21 ha hb) (hd.mono (by decide)))
theorem pl_in {A B : Vp} {us vs : Nat → Nat} {m : Nat} {N : Nr} (hA : BdP 20 A) (hB : BdP 20 B) (hm : ∀ j, j < m → BdP 20 (sdA us vs j)) (hN : Pl N) : ∀ k, k ≤ m → Pl (inF A B us vs m N k) := by
  intro k
  induction k with
  | zero => intro _; exact hN
  | succ k ih =>
    intro hk
    exact pl_nr (ih (by omega)) (pl_seg hA hB (hm k (by omega)) (hm _ (Nat.mod_lt _ (by omega))))
theorem pl_ou {xs ys us vs : Nat → Nat} {n m mb : Nat} (hn : ∀ i, i < n → BdP 20 (sdA xs ys i)) (hm : ∀ j, j < m → BdP 20 (sdA us vs j)) (hmb : mb ≤ m) : ∀ k, k ≤ n → Pl (ouF xs ys n us vs m mb k) := by
  intro k
  induction k with
  | zero => intro _; exact .inr (.inr rfl)
  | succ k ih =>
    intro hk
    exact pl_in (hn k (by omega)) (hn _ (Nat.mod_lt _ (by omega))) hm (ih (by omega)) mb hmb
theorem pl_co {o1 o2 : Option Nat} {us vs xs ys : Nat → Nat} {N : Nr} (h : Pl N) : Pl (coF o1 o2 us vs xs ys N) := by
  unfold coF
  split
  · exact .inr (.inl rfl)
  · split
    · exact .inr (.inl rfl)
    · exact h
end Go.Proofs.Ythbdckjfekimdab
namespace Go.Proofs.Ythbdckjfekimdab
open Ieee Go.RowKit
set_option linter.unusedSimpArgs false
set_option linter.unusedVariables false

/-! ### Both, of what Shapes answers -/
theorem not_zero {N : Nr} {ra rb : Nat} (ga : 0 ≤ rv ra) (gb : 0 ≤ rv rb) (ba : Bd 20 ra) (bb : Bd 20 rb) (hN : N.1 = 0) (hf : ltK .f64 4562146422526312448 (frF N ra rb) = true) : False := by
  obtain ⟨q1, o1⟩ := add_o ba bb (by decide)
  have b0 : Bd 22 0 := ⟨ok_zero, by decide +kernel, by decide +kernel⟩
  obtain ⟨q2, o2⟩ := sub_o b0 (bd_mono q1 (by decide : 20 + 2 ≤ 22)) (by decide)
  have z0 : rv 0 = 0 := by decide +kernel
  rw [z0] at o2
  unfold frF at hf
  rw [hN] at hf
  have hf := (lt_rv (by decide +kernel) (fin_nan q2.2.1)).1 hf
  rw [show rv 4562146422526312448 = 1 / 2 ^ 10 by decide +kernel] at hf
  have c29 : (2 : Rat) ^ 20 + 2 ^ 20 ≤ 2 ^ 29 := by decide +kernel
  have c30 : (0 : Rat) + 2 ^ 22 ≤ 2 ^ 29 := by decide +kernel
  have a0 : ab 0 = 0 := by decide +kernel
  have f1 := off_29 o1 (by have := ab_add (rv ra) (rv rb); have := bd_ab ba; have := bd_ab bb; grind)
  have f2 := off_29 o2 (by have := ab_sub 0 (rv (oF .add ra rb)); have := bd_ab q1; grind)
  have ra0 := ga
  have rb0 := gb
  have c10 : (2 : Rat) * (1 / 2 ^ 23) ≤ 1 / 2 ^ 10 := by decide +kernel
  grind
/-- ITS PLACES ARE SO FAR APART -/
theorem apart_sh {N : Nr} {ra rb nb : Nat} (pl : Pl N) (g : Gf N.1) (ga : 0 ≤ rv ra) (gb : 0 ≤ rv rb) (ba : Bd 20 ra) (bb : Bd 20 rb) (bn : Bd 20 nb) (en : rv nb = -rv rb) (hf : ltK .f64 4562146422526312448 (shF N ra rb nb).1 = true) :
    Bd 29 (oF .sub (lnF (suF (shF N ra rb nb).2.2 (shF N ra rb nb).2.1)) (shF N ra rb nb).1) ∧ ab (rv (oF .sub (lnF (suF (shF N ra rb nb).2.2 (shF N ra rb nb).2.1)) (shF N ra rb nb).1)) ≤ 1 / 2 ^ 20 := by
  have e1 : (shF N ra rb nb).1 = frF N ra rb := by
    simp only [shF] at hf ⊢
    cases h : ltK .f64 0 (frF N ra rb)
    · rw [h, pkF_no rfl] at hf
      exact absurd hf (by decide +kernel)
    · rw [pkF_yes rfl]
  rw [e1] at hf ⊢
  rcases pl with ⟨h, hA, hB⟩ | h | h
  · obtain ⟨u, r1, r2⟩ := behind hA hB ga gb ba bb bn en h hf
    have e2 : (shF N ra rb nb).2.1 = moF N.2.1 ra (unF N) := by simp only [shF]; rw [u, pkF_yes rfl]
    have e3 : (shF N ra rb nb).2.2 = moF N.2.2 nb (unF N) := by simp only [shF]; rw [u, pkF_yes rfl]
    rw [e2, e3]
    exact ⟨r1, r2⟩
  · exact (not_zero ga gb ba bb h hf).elim
  · rw [h] at g
    exact absurd g.2.1 (by decide +kernel)
/-- FAR IS NOT BELOW NOUGHT, and a number -/
theorem sh_gf {N : Nr} {ra rb nb : Nat} (g : Gf N.1) (hN : Bd 40 N.1) (ba : Bd 40 ra) (bb : Bd 40 rb) : finK .f64 (shF N ra rb nb).1 = true ∧ 0 ≤ rv (shF N ra rb nb).1 := by
  obtain ⟨q1, o1⟩ := add_o ba bb (by decide)
  obtain ⟨q2, o2⟩ := sub_o (bd_mono hN (by decide : 40 ≤ 42)) q1 (by decide)
  simp only [shF]
  cases h : ltK .f64 0 (frF N ra rb)
  · rw [pkF_no rfl]
    exact ⟨by decide +kernel, by decide +kernel⟩
  · rw [pkF_yes rfl]
    have f : finK .f64 (frF N ra rb) = true := q2.2.1
    have := (lt_rv (by decide +kernel) (fin_nan f)).1 h
    rw [show rv 0 = 0 by decide +kernel] at this
    exact ⟨f, Rat.le_of_lt this⟩
end Go.Proofs.Ythbdckjfekimdab
namespace Go.Proofs.Ythbdckjfekimdab
open Ieee Go.RowKit
set_option linter.unusedSimpArgs false
set_option linter.unusedVariables false

/-! ### Far of Shapes, either way round; of itself -/
theorem fr_back {N M : Nr} (h : N.1 = M.1) (ra rb : Nat) : frF N ra rb = frF M rb ra := by
  unfold frF
  rw [h, show oF .add ra rb = oF .add rb ra by unfold oF; rw [add_comm_bits]]
theorem sh_back {N M : Nr} (h : N.1 = M.1) (ra rb na nb : Nat) : (shF N ra rb nb).1 = (shF M rb ra na).1 := by
  simp only [shF]
  rw [fr_back h]
/-- a rounded number is on its side of nought -/
theorem sgn_nn {q : Rat} {x : Nat} (h : nrS q (rv x)) (hq : 0 ≤ q) : 0 ≤ rv x := by
  apply Classical.byContradiction
  intro hc
  have hc : rv x < 0 := by grind
  have hm : mg x ≠ 0 := by
    intro hz
    have : av x = 0 := by unfold av; rw [hz]; decide +kernel
    have a := ab_rv x
    rw [this] at a
    have := ab_le (rv x)
    grind
  have a := av_ge hm
  rw [← ab_rv] at a
  have b := ab_le (q - rv x)
  have c : ab (rv x) = -rv x := by unfold ab; split <;> grind
  have ce : epR * 4 ≤ 1 := by decide +kernel
  have k := rmul ce (ab_nn (rv x))
  have ch : etR * 2 ≤ 1 / 2 ^ 1074 := by decide +kernel
  have cz : (0 : Rat) < 1 / 2 ^ 1074 := by decide +kernel
  unfold nrS at h
  generalize (1 : Rat) / 2 ^ 1074 = T at *
  grind
theorem sgn_np {q : Rat} {x : Nat} (h : nrS q (rv x)) (hq : q ≤ 0) : rv x ≤ 0 := by
  apply Classical.byContradiction
  intro hc
  have hc : 0 < rv x := by grind
  have hm : mg x ≠ 0 := by
    intro hz
    have : av x = 0 := by unfold av; rw [hz]; decide +kernel
    have a := ab_rv x
    rw [this] at a
    have := ab_le (rv x)
    grind
  have a := av_ge hm
  rw [← ab_rv] at a
  have b := ab_le (q - rv x)
  have c : ab (rv x) = rv x := ab_pos (Rat.le_of_lt hc)
  have ce : epR * 4 ≤ 1 := by decide +kernel
  have k := rmul ce (ab_nn (rv x))
  have ch : etR * 2 ≤ 1 / 2 ^ 1074 := by decide +kernel
  have cz : (0 : Rat) < 1 / 2 ^ 1074 := by decide +kernel
  unfold nrS at h
  generalize (1 : Rat) / 2 ^ 1074 = T at *
  grind
/-- nought less the radii: 0 -/
theorem sh_own {N : Nr} {r nb : Nat} (g : 0 ≤ rv r) (b : Bd 42 r) (h : N.1 = 0) : (shF N r r nb).1 = 0 := by
  simp only [shF]
  cases hc : ltK .f64 0 (frF N r r)
  · rw [pkF_no rfl]
  · exfalso
    obtain ⟨q1, o1⟩ := add_o b b (by decide)
    have b0 : Bd 44 0 := ⟨ok_zero, by decide +kernel, by decide +kernel⟩
    obtain ⟨q2, o2⟩ := sub_o b0 q1 (by decide)
    have z0 : rv 0 = 0 := by decide +kernel
    have r0 := g
    have s1 := sgn_nn o1 (by grind)
    have s2 := sgn_np o2 (by rw [z0]; grind)
    have ef : frF N r r = oF .sub 0 (oF .add r r) := by unfold frF; rw [h]
    rw [ef] at hc
    have := (lt_rv (by decide +kernel) (fin_nan q2.2.1)).1 hc
    rw [z0] at this
    grind
end Go.Proofs.Ythbdckjfekimdab
namespace Go.Proofs.Ythbdckjfekimdab
open Ieee Go.RowKit
set_option linter.unusedSimpArgs false
set_option linter.unusedVariables false

/-! ### A shape and itself -/
/-- the first side and itself: every kind of core -/
theorem core_own {xs ys : Nat → Nat} {n : Nat} {k : Int} (h : Kd k n) (hn : ∀ i, i < n → BdP 40 (sdA xs ys i)) : (ouF xs ys n xs ys n (sdN k n) (sdN k n)).1 = 0 := by
  obtain ⟨s1, s2⟩ := sd_le h
  have g := (ou_1 hn hn s1 (sdN k n) s1).2.1 0 0 s2 s2
  unfold sidF at g
  rw [end_own (hn 0 (by omega)) (hn _ (Nat.mod_lt _ (by omega)))] at g
  omega
theorem co_zero {o1 o2 : Option Nat} {us vs xs ys : Nat → Nat} {N : Nr} (h : N.1 = 0) : (coF o1 o2 us vs xs ys N).1 = 0 := by
  unfold coF
  split
  · rfl
  · split
    · rfl
    · exact h
/-- FAR IS 0 OF A SHAPE AND ITSELF -/
theorem self_far {xs ys : Nat → Nat} {n r nb : Nat} {k : Int} {o1 o2 : Option Nat} (h : Kd k n) (hn : ∀ i, i < n → BdP 40 (sdA xs ys i)) (g : 0 ≤ rv r) (b : Bd 42 r) : (shF (coF o1 o2 xs ys xs ys (ouF xs ys n xs ys n (sdN k n) (sdN k n))) r r nb).1 = 0 :=
  sh_own g b (co_zero (core_own h hn))
/-- FAR IS THE SAME EITHER WAY ROUND -/
theorem both_far {xs ys us vs : Nat → Nat} {n m ra rb na nb : Nat} {ka kb : Int} {o1 o2 : Option Nat} (hA : Kd ka n) (hB : Kd kb m) (hn : ∀ i, i < n → BdP 40 (sdA xs ys i)) (hm : ∀ j, j < m → BdP 40 (sdA us vs j)) :
    (shF (coF o1 o2 us vs xs ys (ouF xs ys n us vs m (sdN kb m) (sdN ka n))) ra rb nb).1 = (shF (coF o2 o1 xs ys us vs (ouF us vs m xs ys n (sdN ka n) (sdN kb m))) rb ra na).1 := by
  obtain ⟨a1, a2⟩ := sd_le hA
  obtain ⟨b1, b2⟩ := sd_le hB
  exact sh_back (co_back (ou_back hn hm a1 b1 a2 b2).1) ra rb na nb
end Go.Proofs.Ythbdckjfekimdab
namespace Go.Proofs.Ythbdckjfekimdab
open Ieee Go.RowKit
set_option linter.unusedSimpArgs false
set_option linter.unusedVariables false

/-! ### From what Check says to the numbers -/
theorem sda_eq {xs ys : Nat → Nat} {n i : Nat} (g : Gd xs ys n) (hi : i < n) : sdA xs ys i = (xs i, ys i) := by
  unfold sdA nP
  simp only
  rw [bits_num (fin_nan (g i hi).1.2.1), bits_num (fin_nan (g i hi).2.2.1)]
theorem su_side {xs ys : Nat → Nat} {n j : Nat} (g : Gd xs ys n) (hj : j < n) : suF (sdA xs ys ((j + 1) % n)) (sdA xs ys j) = (wX xs n j, wX ys n j) := by
  have h0 : (j + 1) % n < n := Nat.mod_lt _ (by omega)
  rw [sda_eq g h0, sda_eq g hj]
  unfold suF wX
  simp only
  rw [oF_dv (some_sub (g _ h0).1.2.1 (g _ hj).1.2.1 (g _ hj).1.1) (bd_sub (g _ h0).1 (g _ hj).1 (by decide)), oF_dv (some_sub (g _ h0).2.2.1 (g _ hj).2.2.1 (g _ hj).2.1) (bd_sub (g _ h0).2 (g _ hj).2 (by decide))]
theorem long_of {xs ys : Nat → Nat} {n j : Nat} (g : Gd xs ys n) (hj : j < n) (h : ltK .f64 (lnK (wX xs n j) (wX ys n j)) 4472074429978902528 = false) : LongS xs ys n j := by
  obtain ⟨b1, b2⟩ := wX_bd g hj
  obtain ⟨l1, l2⟩ := sq_low b1 b2 h
  obtain ⟨f, s⟩ := sq_ng b1 b2 (by decide)
  unfold LongS
  rw [su_side g hj, dtF_eq (a := (wX xs n j, wX ys n j)) (b := (wX xs n j, wX ys n j)) ⟨b1, b2⟩ ⟨b1, b2⟩ (by decide)]
  simp only
  rw [rv_pos s]
  refine ⟨(lt_rv (by decide +kernel) (fin_nan f)).2 ?_, l1⟩
  rw [show rv 0 = 0 by decide +kernel, rv_pos s]
  have : (0 : Rat) < 2 ^ 63 := by decide +kernel
  apply Classical.byContradiction
  intro hc
  have e : av (dtK (wX xs n j) (wX ys n j) (wX xs n j) (wX ys n j)) = 0 := by
    have := av_nn (dtK (wX xs n j) (wX ys n j) (wX xs n j) (wX ys n j))
    grind
  rw [e] at l1
  exact absurd l1 (by decide +kernel)
theorem long_cap {xs ys : Nat → Nat} (g : Gd xs ys 2) (h : cpB (xs 0) (ys 0) (xs 1) (ys 1) = false) : LongS xs ys 2 0 := long_of g (by decide) h
theorem long_out {xs ys : Nat → Nat} {n j : Nat} (g : Gd xs ys n) (hj : j < n) (h : outB xs ys n j = true) : LongS xs ys n j := by
  unfold outB at h
  rw [Bool.and_eq_true] at h
  exact long_of g hj (by simpa using h.1)
/-- a word that is not no number -/
theorem isF_word {x X : Nat} (h : isF x X) (n : nanK .f64 X = false) : x = X := by
  have h2 := h.2
  cases hx : nanK .f64 x
  · rw [bits_num hx] at h2; exact h2
  · rw [bits_nan hx] at h2; rw [← h2, none_nan] at n; cases n
/-- FAR IS NOT BELOW NOUGHT -/
theorem sh_nn (N : Nr) (ra rb nb : Nat) : nanK .f64 (shF N ra rb nb).1 = false ∧ leK .f64 0 (shF N ra rb nb).1 = true := by
  simp only [shF]
  cases h : ltK .f64 0 (frF N ra rb)
  · rw [pkF_no rfl]
    exact ⟨by decide +kernel, by decide +kernel⟩
  · rw [pkF_yes rfl]
    have n : nanK .f64 (frF N ra rb) = false := by unfold ltK at h; simp at h; exact h.1.2
    refine ⟨n, ?_⟩
    rw [le_rv (by decide +kernel) n]
    exact Rat.le_of_lt ((lt_rv (by decide +kernel) n).1 h)
/-! ### the radii -/
theorem rd_nn {r : Nat} (h : rdB r = true) : 0 ≤ rv r := by
  obtain ⟨h1, h2⟩ := rd_parts h
  have n : nanK .f64 r = false := by unfold leK at h1; simp at h1; exact h1.1.2
  have := (le_rv (by decide +kernel) n).1 h1
  have c : (0 : Rat) ≤ rv 4472074429978902528 := by decide +kernel
  grind
theorem z_rv {r : Nat} (h : eqK .f64 r 0 = true) : rv r = 0 ∧ finK .f64 r = true := by
  rw [eqK_nought] at h
  have h0 := of_decide_eq_true h
  constructor
  · have : av r = 0 := by unfold av mg; rw [h0]; decide +kernel
    have a := ab_rv r
    rw [this] at a
    have := ab_le (rv r)
    grind
  · unfold finK; rw [h0]; decide +kernel
theorem r_20 {r : Nat} (o : okK .f64 r) (f : finK .f64 r = true) (h0 : 0 ≤ rv r) (h : leK .f64 r 4697254411347427328 = true) : Bd 20 r := by
  have := (le_rv (fin_nan f) (by decide +kernel)).1 h
  refine ⟨o, f, ?_⟩
  rw [← ab_rv, ab_pos h0]
  rw [show rv 4697254411347427328 = 2 ^ 20 by decide +kernel] at this
  exact this
theorem nb_20 {r : Nat} (b : Bd 20 r) : Bd 20 (bitsK (Op.negFloat .f64 r)) ∧ rv (bitsK (Op.negFloat .f64 r)) = -rv r := by
  have o := neg_ok b.1
  obtain ⟨h1, h2, _⟩ := neg_facts .f64 r b.1
  have f : finK .f64 (Op.negFloat .f64 r) = true := by have := b.2.1; unfold finK at this ⊢; rw [h1]; exact this
  rw [bits_num (fin_nan f)]
  refine ⟨⟨o, f, ?_⟩, rv_turned b.1⟩
  have e : av (Op.negFloat .f64 r) = av r := by unfold av mg; rw [h1]
  rw [e]
  exact b.2.2
/-! ### lengths between calm points -/
theorem len_23 {a b : Vp} (ha : BdP 20 a) (hb : BdP 20 b) : Gf (lnF (suF a b)) ∧ rv (lnF (suF a b)) ≤ 2 ^ 23 := by
  have W := su_bd ha hb (by decide)
  obtain ⟨v1, v2⟩ := su_rv ha hb (by decide)
  have c : (2 : Rat) ^ 20 + 2 ^ 20 ≤ 2 ^ 21 := by decide +kernel
  have p1 := (opx v1 (B := 2 ^ 21) (by have := ab_sub (rv a.1) (rv b.1); have := bd_ab ha.1; have := bd_ab hb.1; grind) (by decide +kernel)).1
  have p2 := (opx v2 (B := 2 ^ 21) (by have := ab_sub (rv a.2) (rv b.2); have := bd_ab ha.2; have := bd_ab hb.2; grind) (by decide +kernel)).1
  obtain ⟨g0, s2, _⟩ := len_two W (by decide)
  refine ⟨gf_ln W (by decide), len_cap s2 ?_ ?_ (by decide +kernel) (by decide +kernel)⟩
  · have q1 := sq_le (ab_nn _) p1
    have := ab_sq (rv (suF a b).1)
    have := ab_sq (rv (suF a b).2)
    have q2 := sq_le (ab_nn _) p2
    have c2 : (101 / 100 * 2 ^ 21 : Rat) * (101 / 100 * 2 ^ 21) + (101 / 100 * 2 ^ 21) * (101 / 100 * 2 ^ 21) ≤ 2 ^ 44 := by decide +kernel
    grind
  · have := ab_sq (rv (suF a b).1)
    have := ab_sq (rv (suF a b).2)
    have := Rat.mul_nonneg (ab_nn (rv (suF a b).1)) (ab_nn (rv (suF a b).1))
    have := Rat.mul_nonneg (ab_nn (rv (suF a b).2)) (ab_nn (rv (suF a b).2))
    grind
end Go.Proofs.Ythbdckjfekimdab
namespace Go.Proofs.Ythbdckjfekimdab
open Ieee Go.RowKit
set_option linter.unusedSimpArgs false
set_option linter.unusedVariables false

/-! ### NearBoth: what is held against the points, and the places -/
theorem lt_of_not {x y : Nat} (nx : nanK .f64 x = false) (ny : nanK .f64 y = false) (h : ltK .f64 x y = false) : leK .f64 y x = true := by
  rw [le_rv ny nx]
  have : ¬ rv x < rv y := fun hc => by rw [(lt_rv nx ny).2 hc] at h; cases h
  exact Rat.not_lt.1 this
theorem rg_rv (x : Nat) (o : okK .f64 x) : rv (rgK .f64 x) = av x := by
  have h2 : ngK .f64 (rgK .f64 x) = false := by rw [ng64, rg64, beq_eq_false_iff_ne]; omega
  have h1 : rgK .f64 (rgK .f64 x) = rgK .f64 x := by rw [rg64, rg64]; omega
  rw [rv_pos h2]
  unfold av mg
  rw [h1]
theorem rg_nan {x : Nat} (h : finK .f64 x = true) : nanK .f64 (rgK .f64 x) = false := by
  have h1 : rgK .f64 (rgK .f64 x) = rgK .f64 x := by rw [rg64, rg64]; omega
  apply fin_nan
  unfold finK at h ⊢
  rw [h1]; exact h
theorem co_cases (o1 o2 : Option Nat) (us vs xs ys : Nat → Nat) (N : Nr) : (coF o1 o2 us vs xs ys N).1 = 0 ∨ coF o1 o2 us vs xs ys N = N := by
  unfold coF
  split
  · exact .inl rfl
  · split
    · exact .inl rfl
    · exact .inr rfl
theorem far_all {xs ys us vs : Nat → Nat} {n m ra rb nb : Nat} {ka kb : Int} {o1 o2 : Option Nat} (hA : Kd ka n) (hB : Kd kb m) (gA : ∀ i, i < n → BdP 20 (sdA xs ys i)) (gB : ∀ j, j < m → BdP 20 (sdA us vs j)) (hl : kb = 1 ∨ ∀ j, j < sdN kb m → LongS us vs m j) (ba : Bd 20 ra) (bb : Bd 20 rb) {i k : Nat} (hi : i < n) (hk : k < m) :
    ltK .f64 (oF .add (pkF (ltK .f64 0 (oF .sub (oF .sub (lnF (suF (sdA us vs k) (sdA xs ys i))) ra) rb)) (oF .sub (oF .sub (lnF (suF (sdA us vs k) (sdA xs ys i))) ra) rb) 0) 4517110426252607488)
      (shF (coF o1 o2 us vs xs ys (ouF xs ys n us vs m (sdN kb m) (sdN ka n))) ra rb nb).1 = false := by
  obtain ⟨a1, a2⟩ := sd_le hA
  obtain ⟨b1, b2⟩ := sd_le hB
  have gu := (ou_back (fun i hi => (gA i hi).mono (by decide)) (fun j hj => (gB j hj).mono (by decide)) a1 b1 a2 b2).2
  have cl := core_le hA hB gA gB hl hi hk
  obtain ⟨l1, l2⟩ := len_23 (gA i hi) (gB k hk)
  have eb : lnF (suF (sdA us vs k) (sdA xs ys i)) = lnF (suF (sdA xs ys i) (sdA us vs k)) := ln_back (gB k hk) (gA i hi) (by decide)
  rw [eb]
  have L := bd_of l1 l2
  have lp := pos_of l1
  generalize hLL : lnF (suF (sdA xs ys i) (sdA us vs k)) = LL at *
  generalize hUU : ouF xs ys n us vs m (sdN kb m) (sdN ka n) = U at *
  have c0 : (0 : Rat) ≤ 1 / 2 ^ 22 := by decide +kernel
  have c1 : (2 : Rat) ^ 23 + 1 / 2 ^ 22 ≤ 2 ^ 24 := by decide +kernel
  have z0 : rv 0 = 0 := by decide +kernel
  have hN : Bd 24 (coF o1 o2 us vs xs ys U).1 ∧ rv (coF o1 o2 us vs xs ys U).1 ≤ rv LL + 1 / 2 ^ 22 := by
    rcases co_cases o1 o2 us vs xs ys U with h | h
    · rw [h, z0]
      exact ⟨⟨ok_zero, by decide +kernel, by decide +kernel⟩, by grind⟩
    · rw [h]
      exact ⟨bd_of gu (by grind), cl⟩
  obtain ⟨k3, _⟩ := sub_o (bd_mono L (by decide : 23 ≤ 24)) (bd_mono ba (by decide : 20 ≤ 24)) (by decide)
  obtain ⟨k4, _⟩ := sub_o k3 (bd_mono bb (by decide : 20 ≤ 26)) (by decide)
  obtain ⟨M, hM⟩ : ∃ M, oF .sub (oF .sub LL ra) rb = M := ⟨_, rfl⟩
  rw [hM] at k4 ⊢
  have hX : Bd 28 (pkF (ltK .f64 0 M) M 0) ∧ 0 ≤ rv (pkF (ltK .f64 0 M) M 0) ∧ rv M ≤ rv (pkF (ltK .f64 0 M) M 0) := by
    cases hm : ltK .f64 0 M
    · rw [pkF_no rfl, z0]
      refine ⟨⟨ok_zero, by decide +kernel, by decide +kernel⟩, Rat.le_refl, ?_⟩
      have := lt_of_not (by decide +kernel) (fin_nan k4.2.1) hm
      have := (le_rv (fin_nan k4.2.1) (by decide +kernel)).1 this
      rw [z0] at this
      exact this
    · rw [pkF_yes rfl]
      have := (lt_rv (by decide +kernel) (fin_nan k4.2.1)).1 hm
      rw [z0] at this
      exact ⟨k4, Rat.le_of_lt this, Rat.le_refl⟩
  exact far_may hN.1 (bd_mono L (by decide)) (bd_mono ba (by decide)) (bd_mono bb (by decide)) hN.2 hX.1 hX.2.1 (by rw [hM]; exact hX.2.2)
theorem far_fin {xs ys us vs : Nat → Nat} {n m ra rb : Nat} (gA : ∀ i, i < n → BdP 20 (sdA xs ys i)) (gB : ∀ j, j < m → BdP 20 (sdA us vs j)) (ba : Bd 20 ra) (bb : Bd 20 rb) {i k : Nat} (hi : i < n) (hk : k < m) :
    finK .f64 (oF .sub (oF .sub (lnF (suF (sdA us vs k) (sdA xs ys i))) ra) rb) = true := by
  obtain ⟨l1, l2⟩ := len_23 (gB k hk) (gA i hi)
  have L := bd_of l1 l2
  obtain ⟨k3, _⟩ := sub_o (bd_mono L (by decide : 23 ≤ 24)) (bd_mono ba (by decide : 20 ≤ 24)) (by decide)
  obtain ⟨k4, _⟩ := sub_o k3 (bd_mono bb (by decide : 20 ≤ 26)) (by decide)
  exact k4.2.1
theorem mx_is {y M : Nat} (h : isF y M) : isF (pkF (ltK .f64 0 y) y 0) (pkF (ltK .f64 0 M) M 0) := by
  rw [lt0_is h]
  cases ltK .f64 0 M
  · exact isF_zero
  · exact h
/-- the places of a calm core -/
theorem pl_core {xs ys us vs : Nat → Nat} {n m : Nat} {ka kb : Int} {o1 o2 : Option Nat} (hA : Kd ka n) (hB : Kd kb m) (gA : ∀ i, i < n → BdP 20 (sdA xs ys i)) (gB : ∀ j, j < m → BdP 20 (sdA us vs j)) :
    Pl (coF o1 o2 us vs xs ys (ouF xs ys n us vs m (sdN kb m) (sdN ka n))) ∧ Gf (coF o1 o2 us vs xs ys (ouF xs ys n us vs m (sdN kb m) (sdN ka n))).1 := by
  obtain ⟨a1, a2⟩ := sd_le hA
  obtain ⟨b1, b2⟩ := sd_le hB
  exact ⟨pl_co (pl_ou gA gB b1 (sdN ka n) a1), co_gf (ou_back (fun i hi => (gA i hi).mono (by decide)) (fun j hj => (gB j hj).mono (by decide)) a1 b1 a2 b2).2⟩
theorem wi_20 {x : Nat} (o : okK .f64 x) (h : withinK .f64 x 4697254411347427328 = true) : Bd 20 x := bd_wG o (by rw [okK64]; decide) (by decide +kernel) (by decide +kernel) (by decide +kernel) h
theorem calm_bd {xs ys : Nat → Nat} {n : Nat} (o : Oks xs ys n) (h : allB n (fun i => withinK .f64 (xs i) 4697254411347427328 && withinK .f64 (ys i) 4697254411347427328) = true) : ∀ i, i < n → BdP 20 (sdA xs ys i) := fun i hi => by
  have q := allB_iff.1 h i hi
  simp only [Bool.and_eq_true] at q
  exact is_bd (isP_self (o i hi).1 (o i hi).2) (wi_20 (o i hi).1 q.1) (wi_20 (o i hi).2 q.2)
theorem sh_ok (N : Nr) (ra rb nb : Nat) : okK .f64 (shF N ra rb nb).1 := by
  simp only [shF]
  cases ltK .f64 0 (frF N ra rb)
  · exact ok_zero
  · exact oF_ok _ _ _
theorem apart_all {N : Nr} {ra rb nb : Nat} (pl : Pl N) (g : Gf N.1) (ga : 0 ≤ rv ra) (gb : 0 ≤ rv rb) (ba : Bd 20 ra) (bb : Bd 20 rb) (bn : Bd 20 nb) (en : rv nb = -rv rb) :
    leK .f64 (shF N ra rb nb).1 4562146422526312448 = true ∨ (finK .f64 (oF .sub (lnF (suF (shF N ra rb nb).2.2 (shF N ra rb nb).2.1)) (shF N ra rb nb).1) = true ∧ leK .f64 (rgK .f64 (oF .sub (lnF (suF (shF N ra rb nb).2.2 (shF N ra rb nb).2.1)) (shF N ra rb nb).1)) 4517110426252607488 = true) := by
  cases h : ltK .f64 4562146422526312448 (shF N ra rb nb).1
  · exact .inl (lt_of_not (by decide +kernel) (sh_nn N ra rb nb).1 h)
  · right
    obtain ⟨b, d⟩ := apart_sh pl g ga gb ba bb bn en h
    refine ⟨b.2.1, ?_⟩
    rw [le_rv (rg_nan b.2.1) (by decide +kernel), rg_rv _ b.1, ← ab_rv]
    exact Rat.le_trans d (by decide +kernel)
end Go.Proofs.Ythbdckjfekimdab
