/-
  Plain facts on floats, more: rounding to the nearest rung, sums and products of finite floats, signs turned. No program is named here.
-/
import Derived.Test.YtmgoancijepeoaaGeo
import Derived.Test.YtmgoancijepeoaaBox
namespace Go.Proofs.Ytmgoancijepeoaa
open Ieee Go.RowKit
set_option linter.unusedSimpArgs false
set_option linter.unusedVariables false

/-! ### Go's order of finite floats is that of their numbers -/
theorem wo_sv (x y : Nat) : woK .f64 x ≤ woK .f64 y ↔ svK .f64 x ≤ svK .f64 y := by
  have hx := woK_eq .f64 x
  have hy := woK_eq .f64 y
  have vz : vl FloatKind.f64.format 0 = 0 := vl_zero _
  have le : ∀ {r s : Nat}, vl FloatKind.f64.format r ≤ vl FloatKind.f64.format s ↔ r ≤ s := fun {r s} => by
    rw [← Nat.not_lt, ← Nat.not_lt, vl_lt_iff]
  have pos : ∀ r, vl FloatKind.f64.format r = 0 ↔ r = 0 := fun r => ⟨fun h => vl_inj _ (h.trans vz.symm), fun h => by rw [h]; exact vz⟩
  rw [hx, hy]
  show (if ngK .f64 x then -(rgK .f64 x : Int) else (rgK .f64 x : Int)) ≤ (if ngK .f64 y then -(rgK .f64 y : Int) else (rgK .f64 y : Int)) ↔ (if ngK .f64 x then -(vl FloatKind.f64.format (rgK .f64 x) : Int) else (vl FloatKind.f64.format (rgK .f64 x) : Int)) ≤ (if ngK .f64 y then -(vl FloatKind.f64.format (rgK .f64 y) : Int) else (vl FloatKind.f64.format (rgK .f64 y) : Int))
  generalize rgK .f64 x = a
  generalize rgK .f64 y = b
  have l1 := @le a b
  have l2 := @le b a
  have p1 := pos a
  have p2 := pos b
  generalize vl FloatKind.f64.format a = u at *
  generalize vl FloatKind.f64.format b = v at *
  cases ngK .f64 x <;> cases ngK .f64 y <;> simp <;> omega
theorem rv_le (x y : Nat) : rv x ≤ rv y ↔ svK .f64 x ≤ svK .f64 y := by
  rw [rv_sv, rv_sv]
  constructor
  · intro h
    have := Rat.mul_le_mul_of_nonneg_right h (Rat.le_of_lt W_pos)
    rw [Rat.div_mul_cancel (Rat.ne_of_gt W_pos), Rat.div_mul_cancel (Rat.ne_of_gt W_pos)] at this
    exact Rat.intCast_le_intCast.1 this
  · intro h
    rw [Rat.div_def, Rat.div_def]
    exact Rat.mul_le_mul_of_nonneg_right (Rat.intCast_le_intCast.2 h) (Rat.le_of_lt (Rat.inv_pos.2 W_pos))
theorem le_rv {x y : Nat} (hx : nanK .f64 x = false) (hy : nanK .f64 y = false) : leK .f64 x y = true ↔ rv x ≤ rv y := by
  unfold leK
  rw [hx, hy, rv_le, ← wo_sv]
  simp
theorem lt_rv {x y : Nat} (hx : nanK .f64 x = false) (hy : nanK .f64 y = false) : ltK .f64 x y = true ↔ rv x < rv y := by
  have h := rv_le y x
  have g := wo_sv y x
  unfold ltK
  rw [hx, hy]
  simp
  rw [← Rat.not_le, h, ← g]
  omega
end Go.Proofs.Ytmgoancijepeoaa
namespace Go.Proofs.Ytmgoancijepeoaa
open Ieee Go.RowKit
set_option linter.unusedSimpArgs false
set_option linter.unusedVariables false

/-! ### A ray's quotient, near to what it stands for -/
theorem ab_tri (a b c : Rat) : ab (a - c) ≤ ab (a - b) + ab (b - c) := by
  have := ab_add (a - b) (b - c)
  rwa [show a - b + (b - c) = a - c by grind] at this
theorem ab_turn (a b : Rat) : ab (a - b) = ab (b - a) := by rw [← ab_neg]; congr 1; grind
theorem quo_rat2 {A D P W Q e h M N : Rat} (he : 0 ≤ e) (he1 : e * 1024 ≤ 1) (hh : 0 ≤ h) (hW : ab W ≤ N) (hD : ab D ≤ M) (hhe : h * N ≤ e * M) (hhM : h ≤ e * M) (h1 : ab (A - D) ≤ e * ab D + h) (h2 : ab (Q * W - D) ≤ e * ab D) (h3 : ab (Q - P) ≤ e * ab P + h) : ab (P * W - A) ≤ 8 * (e * M) := by
  have w0 := ab_nn W
  have d0 := ab_nn D
  have p0 := ab_nn P
  have e1 : ab (P * W) = ab P * ab W := ab_mul P W
  have e2 : ab (P * W - Q * W) = ab (Q - P) * ab W := by rw [show P * W - Q * W = (P - Q) * W by grind, ab_mul, ab_turn]
  have e3 : ab (Q - P) * ab W ≤ (e * ab P + h) * ab W := Rat.mul_le_mul_of_nonneg_right h3 w0
  have e4 : (e * ab P + h) * ab W = e * (ab P * ab W) + h * ab W := by grind
  have e5 : h * ab W ≤ h * N := Rat.mul_le_mul_of_nonneg_left hW hh
  have e6 : e * ab D ≤ e * M := Rat.mul_le_mul_of_nonneg_left hD he
  have t1 := ab_tri (P * W) (Q * W) D
  have t2 := ab_tri (P * W) D A
  have t3 : ab (P * W) ≤ ab (P * W - D) + ab D := by
    have := ab_add (P * W - D) D
    rwa [show P * W - D + D = P * W by grind] at this
  have t4 := ab_turn D A
  have x0 : 0 ≤ ab P * ab W := Rat.mul_nonneg p0 w0
  have m0 : 0 ≤ M := Rat.le_trans d0 hD
  generalize hX : ab P * ab W = X at *
  have t5 : e * X * 1024 ≤ X := by
    have := Rat.mul_le_mul_of_nonneg_right he1 x0
    grind
  have t6 : X ≤ 4 * M := by
    have : e * M * 1024 ≤ M := by
      have := Rat.mul_le_mul_of_nonneg_right he1 m0
      grind
    grind
  have t7 : e * X ≤ e * (4 * M) := Rat.mul_le_mul_of_nonneg_left t6 he
  grind
theorem ep_facts : (0 : Rat) ≤ epR ∧ epR * 1024 ≤ 1 ∧ (0 : Rat) ≤ etR ∧ etR * 2 ^ 20 ≤ epR * 2 ^ 22 ∧ etR ≤ epR * 2 ^ 22 ∧ 8 * (epR * 2 ^ 22) ≤ 1 / 2 ^ 28 := by
  refine ⟨?_, ?_, ?_, ?_, ?_, ?_⟩ <;> decide +kernel
/-- a ray's quotient times the way is what leads to the box's end, up to 2 ^ -28 -/
theorem ax_quo {low frm way d p : Nat} (h1 : Bd 20 low) (h2 : Bd 20 frm) (h3 : Bd 20 way) (hw : 1 ≤ av way * 2 ^ 20) (hd : resK .sub .f64 low frm d) (hp : resK .quo .f64 d way p) : Bd 45 p ∧ ab (rv p * rv way - (rv low - rv frm)) ≤ 1 / 2 ^ 28 := by
  have ed := res_dv hd (some_sub h1.2.1 h2.2.1 h2.1)
  have bd : Bd 22 d := by rw [ed]; exact bd_sub h1 h2 (by decide)
  have y0 : mg way ≠ 0 := by
    intro h
    have : av way = 0 := by unfold av; rw [h]; decide +kernel
    rw [this] at hw
    exact absurd hw (by decide +kernel)
  have ep := res_dv hp (some_quo bd.2.1 h3.2.1 y0)
  have bp : Bd 45 p := by rw [ep]; exact (bd_quo bd h3 hw (by decide)).1
  refine ⟨bp, ?_⟩
  have r1 := sub_rv h2.1 h1.2.1 h2.2.1 bd.2.1 hd
  obtain ⟨Q, r2, r3⟩ := quo_rv bd.2.1 h3.2.1 y0 bp.2.1 hp
  obtain ⟨a1, a2, a3, a4, a5, a6⟩ := ep_facts
  refine Rat.le_trans (quo_rat2 a1 a2 a3 (by rw [ab_rv]; exact h3.2.2) (by rw [ab_rv]; exact bd.2.2) a4 a5 r1 r2 r3) a6
end Go.Proofs.Ytmgoancijepeoaa
namespace Go.Proofs.Ytmgoancijepeoaa
open Ieee Go.RowKit
set_option linter.unusedSimpArgs false
set_option linter.unusedVariables false

/-! ### One axis of a ray, as numbers -/
theorem cutS_rv {s p : Nat} (ns : nanK .f64 s = false) (np : nanK .f64 p = false) : rv s ≤ rv (cutS s p) ∧ rv p ≤ rv (cutS s p) ∧ (cutS s p = s ∨ cutS s p = p) := by
  unfold cutS
  have h := lt_rv ns np
  cases e : ltK .f64 s p
  · rw [e] at h
    simp at h ⊢
    exact Rat.not_lt.1 h
  · rw [e] at h
    simp at h ⊢
    exact Rat.le_of_lt h
theorem cutT_rv {t q : Nat} (nt : nanK .f64 t = false) (nq : nanK .f64 q = false) : rv (cutT t q) ≤ rv t ∧ rv (cutT t q) ≤ rv q ∧ (cutT t q = t ∨ cutT t q = q) := by
  unfold cutT
  have h := lt_rv nq nt
  cases e : ltK .f64 q t
  · rw [e] at h
    simp at h ⊢
    exact Rat.not_lt.1 h
  · rw [e] at h
    simp at h ⊢
    exact Rat.le_of_lt h
theorem lt_or_ge' (a b : Rat) : a < b ∨ b ≤ a := by
  by_cases h : a < b
  · exact .inl h
  · exact .inr (Rat.not_lt.1 h)
theorem mul_lt_pos {a b W : Rat} (hW : 0 < W) (h : a * W < b * W) : a < b := by
  rcases lt_or_ge' a b with g | g
  · exact g
  · have := Rat.mul_le_mul_of_nonneg_right g (Rat.le_of_lt hW)
    exact absurd h (Rat.not_lt.2 this)
theorem mul_lt_neg {a b W : Rat} (hW : W < 0) (h : a * W < b * W) : b < a := by
  refine mul_lt_pos (W := -W) (by grind) ?_
  grind
theorem mul_le_pos {a b W : Rat} (hW : 0 < W) (h : a ≤ b) : a * W ≤ b * W := Rat.mul_le_mul_of_nonneg_right h (Rat.le_of_lt hW)
theorem mul_le_neg {a b W : Rat} (hW : W < 0) (h : a ≤ b) : b * W ≤ a * W := by
  have := mul_le_pos (W := -W) (by grind) h
  grind
/-- both ends' quotients in their order: what lies between them lies between the ends, and the other way round -/
theorem ax_rat {lo hi f W p q s t s' t' δ : Rat} (hδ : 0 < δ) (hlh : lo ≤ hi) (hW : W ≠ 0) (hp1 : p * W - (lo - f) ≤ δ) (hp2 : (lo - f) - p * W ≤ δ) (hq1 : q * W - (hi - f) ≤ δ) (hq2 : (hi - f) - q * W ≤ δ) :
    (∀ u, (p ≤ u ∧ u ≤ q) ∨ (q ≤ u ∧ u ≤ p) → lo - δ ≤ f + u * W ∧ f + u * W ≤ hi + δ) ∧
    (∀ u, lo + 2 * δ ≤ f + u * W → f + u * W ≤ hi - 2 * δ → (p < u ∧ u < q) ∨ (q < u ∧ u < p)) := by
  rcases lt_or_ge' 0 W with g | g
  · refine ⟨fun u hu => ?_, fun u h1 h2 => ?_⟩
    · rcases hu with ⟨a, b⟩ | ⟨a, b⟩
      · have := mul_le_pos g a
        have := mul_le_pos g b
        grind
      · have := mul_le_pos g a
        have := mul_le_pos g b
        grind
    · exact .inl ⟨mul_lt_pos g (by grind), mul_lt_pos g (by grind)⟩
  · have g : W < 0 := by
      rcases lt_or_ge' W 0 with h | h
      · exact h
      · exact absurd (Rat.le_antisymm g h) hW
    refine ⟨fun u hu => ?_, fun u h1 h2 => ?_⟩
    · rcases hu with ⟨a, b⟩ | ⟨a, b⟩
      · have := mul_le_neg g a
        have := mul_le_neg g b
        grind
      · have := mul_le_neg g a
        have := mul_le_neg g b
        grind
    · exact .inr ⟨mul_lt_neg g (by grind), mul_lt_neg g (by grind)⟩
theorem ab_pm {a d : Rat} (h : ab a ≤ d) : a ≤ d ∧ -a ≤ d := ⟨Rat.le_trans (ab_le a).1 h, Rat.le_trans (ab_le a).2 h⟩
theorem sg_rv {x : Nat} (h : sgK .f64 x = 0) (hn : nanK .f64 x = false) : rv x = 0 := by
  have z : woK .f64 0 = 0 := by decide +kernel
  have n0 : nanK .f64 0 = false := by decide +kernel
  have r0 : rv 0 = 0 := by decide +kernel
  have hx : woK .f64 x = 0 := by
    unfold sgK ltK at h
    rw [hn, n0, z] at h
    simp at h
    by_cases a : 0 < woK .f64 x
    · simp [a] at h
    · by_cases b : woK .f64 x < 0
      · simp [a, b] at h
      · omega
  have a := (rv_le x 0).2 ((wo_sv x 0).1 (by rw [hx, z]; exact Int.le_refl _))
  have b := (rv_le 0 x).2 ((wo_sv 0 x).1 (by rw [hx, z]; exact Int.le_refl _))
  rw [r0] at a b
  exact Rat.le_antisymm a b
/-- one axis: what is left of s to t -/
theorem ax_all {low high frm way s t s' t' : Nat} {ok : Bool} (h1 : Bd 20 low) (h2 : Bd 20 high) (h3 : Bd 20 frm) (h4 : Bd 20 way) (hw : sgK .f64 way = 0 ∨ 1 ≤ av way * 2 ^ 20) (hlh : leK .f64 low high = true) (ns : nanK .f64 s = false) (nt : nanK .f64 t = false) (hst : rv s ≤ rv t) (h : AxR low high frm way s t s' t' ok) :
    (ok = true → nanK .f64 s' = false ∧ nanK .f64 t' = false ∧ rv s ≤ rv s' ∧ rv t' ≤ rv t ∧ rv s' ≤ rv t' ∧ ∀ u, rv s' ≤ u → u ≤ rv t' → rv low - 1 / 2 ^ 28 ≤ rv frm + u * rv way ∧ rv frm + u * rv way ≤ rv high + 1 / 2 ^ 28) ∧
    (∀ u, rv s ≤ u → u ≤ rv t → rv low + 2 * (1 / 2 ^ 28) ≤ rv frm + u * rv way → rv frm + u * rv way ≤ rv high - 2 * (1 / 2 ^ 28) → ok = true ∧ rv s' ≤ u ∧ u ≤ rv t') := by
  have n1 := fin_num h1.2.1
  have n2 := fin_num h2.2.1
  have n3 := fin_num h3.2.1
  have n4 := fin_num h4.2.1
  have dp : (0 : Rat) < 1 / 2 ^ 28 := by decide +kernel
  have hlh' := (le_rv n1 n2).1 hlh
  unfold AxR at h
  by_cases e : sgK .f64 way = 0
  · rw [if_pos e] at h
    obtain ⟨rfl, rfl, hok⟩ := h
    have w0 := sg_rv e n4
    rw [w0]
    refine ⟨fun ho => ?_, fun u _ _ a b => ?_⟩
    · rw [ho] at hok
      have hok := hok.symm
      rw [Bool.and_eq_true] at hok
      have a := (le_rv n1 n3).1 hok.1
      have b := (le_rv n3 n2).1 hok.2
      refine ⟨ns, nt, Rat.le_refl, Rat.le_refl, hst, fun u _ _ => ?_⟩
      generalize (1 : Rat) / 2 ^ 28 = δ at *
      constructor <;> grind
    · refine ⟨?_, by assumption, by assumption⟩
      rw [hok, Bool.and_eq_true]
      generalize (1 : Rat) / 2 ^ 28 = δ at *
      exact ⟨(le_rv n1 n3).2 (by grind), (le_rv n3 n2).2 (by grind)⟩
  · rw [if_neg e] at h
    have hw := hw.resolve_left e
    obtain ⟨d1, p, d2, q, r1, r2, r3, r4, r5⟩ := h
    obtain ⟨bp, ep⟩ := ax_quo h1 h3 h4 hw r1 r2
    obtain ⟨bq, eq⟩ := ax_quo h2 h3 h4 hw r3 r4
    have np := fin_num bp.2.1
    have nq := fin_num bq.2.1
    have hW : rv way ≠ 0 := by
      intro h0
      have : av way = 0 := by rw [← ab_rv, h0]; decide +kernel
      rw [this] at hw
      exact absurd hw (by decide +kernel)
    have ep1 := ab_pm ep
    have eq1 := ab_pm eq
    generalize (1 : Rat) / 2 ^ 28 = δ at *
    obtain ⟨A, B⟩ := ax_rat (lo := rv low) (hi := rv high) (f := rv frm) (W := rv way) (p := rv p) (q := rv q) (s := 0) (t := 0) (s' := 0) (t' := 0) dp hlh' hW ep1.1 (by have := ep1.2; grind) eq1.1 (by have := eq1.2; grind)
    rw [np, nq] at r5
    simp only [Bool.or_self, Bool.false_eq_true, if_false] at r5
    have hlt := lt_rv nq np
    cases l : ltK .f64 q p
    · rw [l] at r5 hlt
      simp only [Bool.false_eq_true, if_false, false_iff] at r5 hlt
      obtain ⟨rfl, rfl, hok⟩ := r5
      obtain ⟨c1, c2, c3⟩ := cutS_rv ns np
      obtain ⟨c4, c5, c6⟩ := cutT_rv nt nq
      have m1 : nanK .f64 (cutS s p) = false := by rcases c3 with h | h <;> rw [h] <;> assumption
      have m2 : nanK .f64 (cutT t q) = false := by rcases c6 with h | h <;> rw [h] <;> assumption
      refine ⟨fun ho => ?_, fun u u1 u2 a b => ?_⟩
      · rw [ho] at hok
        have k := (le_rv m1 m2).1 hok.symm
        exact ⟨m1, m2, c1, c4, k, fun u v1 v2 => A u (.inl ⟨Rat.le_trans c2 v1, Rat.le_trans v2 c5⟩)⟩
      · rcases B u a b with ⟨v1, v2⟩ | ⟨v1, v2⟩
        · have k1 : rv (cutS s p) ≤ u := by rcases c3 with h | h <;> rw [h] <;> grind
          have k2 : u ≤ rv (cutT t q) := by rcases c6 with h | h <;> rw [h] <;> grind
          exact ⟨by rw [hok]; exact (le_rv m1 m2).2 (Rat.le_trans k1 k2), k1, k2⟩
        · exfalso; have := Rat.not_lt.1 hlt; grind
    · rw [l] at r5 hlt
      simp only [if_true, true_iff] at r5 hlt
      obtain ⟨rfl, rfl, hok⟩ := r5
      obtain ⟨c1, c2, c3⟩ := cutS_rv ns nq
      obtain ⟨c4, c5, c6⟩ := cutT_rv nt np
      have m1 : nanK .f64 (cutS s q) = false := by rcases c3 with h | h <;> rw [h] <;> assumption
      have m2 : nanK .f64 (cutT t p) = false := by rcases c6 with h | h <;> rw [h] <;> assumption
      refine ⟨fun ho => ?_, fun u u1 u2 a b => ?_⟩
      · rw [ho] at hok
        have k := (le_rv m1 m2).1 hok.symm
        exact ⟨m1, m2, c1, c4, k, fun u v1 v2 => A u (.inr ⟨Rat.le_trans c2 v1, Rat.le_trans v2 c5⟩)⟩
      · rcases B u a b with ⟨v1, v2⟩ | ⟨v1, v2⟩
        · exfalso; grind
        · have k1 : rv (cutS s q) ≤ u := by rcases c3 with h | h <;> rw [h] <;> grind
          have k2 : u ≤ rv (cutT t p) := by rcases c6 with h | h <;> rw [h] <;> grind
          exact ⟨by rw [hok]; exact (le_rv m1 m2).2 (Rat.le_trans k1 k2), k1, k2⟩
/-- a ray: where it enters lies in the box; a place of its own way that lies well in the box means that it enters -/
theorem ray_all {lx ly hx hy fx fy wx wy r : Nat} {ok : Bool} (a1 : Bd 20 lx) (a2 : Bd 20 ly) (a3 : Bd 20 hx) (a4 : Bd 20 hy) (a5 : Bd 20 fx) (a6 : Bd 20 fy) (a7 : Bd 20 wx) (a8 : Bd 20 wy) (w1 : sgK .f64 wx = 0 ∨ 1 ≤ av wx * 2 ^ 20) (w2 : sgK .f64 wy = 0 ∨ 1 ≤ av wy * 2 ^ 20) (l1 : leK .f64 lx hx = true) (l2 : leK .f64 ly hy = true) (h : RayR lx ly hx hy fx fy wx wy r ok) :
    (ok = false → r = 0) ∧ nanK .f64 r = false ∧ 0 ≤ rv r ∧ rv r ≤ 1 ∧
    (ok = true → rv lx - 1 / 2 ^ 28 ≤ rv fx + rv r * rv wx ∧ rv fx + rv r * rv wx ≤ rv hx + 1 / 2 ^ 28 ∧ rv ly - 1 / 2 ^ 28 ≤ rv fy + rv r * rv wy ∧ rv fy + rv r * rv wy ≤ rv hy + 1 / 2 ^ 28) ∧
    (∀ u, 0 ≤ u → u ≤ 1 → rv lx + 2 * (1 / 2 ^ 28) ≤ rv fx + u * rv wx → rv fx + u * rv wx ≤ rv hx - 2 * (1 / 2 ^ 28) → rv ly + 2 * (1 / 2 ^ 28) ≤ rv fy + u * rv wy → rv fy + u * rv wy ≤ rv hy - 2 * (1 / 2 ^ 28) → ok = true) := by
  have n0 : nanK .f64 0 = false := by decide +kernel
  have n1 : nanK .f64 4607182418800017408 = false := by decide +kernel
  have r0 : rv 0 = 0 := by decide +kernel
  have r1 : rv 4607182418800017408 = 1 := by decide +kernel
  obtain ⟨s1, t1, b1, h1, h2⟩ := h
  obtain ⟨A, B⟩ := ax_all a1 a3 a5 a7 w1 l1 n0 n1 (by rw [r0, r1]; decide) h1
  rw [r0, r1] at A B
  cases b1
  · rw [if_neg (by decide)] at h2
    obtain ⟨rfl, rfl⟩ := h2
    refine ⟨fun _ => rfl, n0, by rw [r0]; decide, by rw [r0]; decide, (fun h => by cases h), fun u u1 u2 p1 p2 _ _ => ?_⟩
    exact absurd (B u u1 u2 p1 p2).1 (by decide)
  · rw [if_pos rfl] at h2
    obtain ⟨m1, m2, c1, c2, c3, c4⟩ := A rfl
    obtain ⟨s2, t2, b2, h3, rfl, rfl⟩ := h2
    obtain ⟨A2, B2⟩ := ax_all a2 a4 a6 a8 w2 l2 m1 m2 c3 h3
    cases ok
    · refine ⟨fun _ => rfl, n0, by show 0 ≤ rv 0; rw [r0]; decide, by show rv 0 ≤ 1; rw [r0]; decide, (fun h => by cases h), fun u u1 u2 p1 p2 p3 p4 => ?_⟩
      obtain ⟨_, k1, k2⟩ := B u u1 u2 p1 p2
      exact absurd (B2 u k1 k2 p3 p4).1 (by decide)
    · obtain ⟨m3, m4, d1, d2, d3, d4⟩ := A2 rfl
      refine ⟨(fun h => by cases h), m3, Rat.le_trans c1 d1, Rat.le_trans d3 (Rat.le_trans d2 c2), fun _ => ?_, fun _ _ _ _ _ _ _ => rfl⟩
      obtain ⟨e1, e2⟩ := c4 (rv s2) d1 (Rat.le_trans d3 d2)
      obtain ⟨e3, e4⟩ := d4 (rv s2) Rat.le_refl d3
      exact ⟨e1, e2, e3, e4⟩
end Go.Proofs.Ytmgoancijepeoaa
namespace Go.Proofs.Ytmgoancijepeoaa
open Ieee Go.RowKit
set_option linter.unusedSimpArgs false
set_option linter.unusedVariables false

/-! ### A place on a ray, and a box grown, near to what they stand for -/
theorem near_ab {q A B d : Rat} (h : nrS q A) (hA : ab A ≤ B) (hd : epR * B + etR ≤ d) : ab (q - A) ≤ d := by
  unfold nrS at h
  have e0 : (0 : Rat) ≤ epR := ep_facts.1
  have := Rat.mul_le_mul_of_nonneg_left hA e0
  grind
theorem more_near {f s wy p x : Nat} (h1 : Bd 20 f) (h2 : Bd 0 s) (h3 : Bd 20 wy) (hp : resK .mul .f64 s wy p) (hx : resK .add .f64 f p x) : Bd 23 x ∧ ab (rv f + rv s * rv wy - rv x) ≤ 1 / 2 ^ 29 := by
  have ep := res_dv hp (some_mul h2.2.1 h3.2.1)
  have bp : Bd 21 p := by rw [ep]; exact bd_mul h2 h3 (by decide)
  have ex := res_dv hx (some_add h1.2.1 bp.2.1)
  have bx : Bd 23 x := by rw [ex]; exact bd_add (bd_mono h1 (by decide)) bp (by decide)
  refine ⟨bx, ?_⟩
  have r1 := near_ab (mul_rv h2.2.1 h3.2.1 bp.2.1 hp) (by rw [ab_rv]; exact bp.2.2) (d := 1 / 2 ^ 31) (by decide +kernel)
  have r2 := near_ab (add_rv h1.2.1 bp.2.1 bx.2.1 hx) (by rw [ab_rv]; exact bx.2.2) (d := 1 / 2 ^ 30 + 1 / 2 ^ 40) (by decide +kernel)
  have t := ab_tri (rv f + rv s * rv wy) (rv f + rv p) (rv x)
  have e : ab (rv f + rv s * rv wy - (rv f + rv p)) = ab (rv s * rv wy - rv p) := by congr 1; grind
  rw [e] at t
  have k : (1 : Rat) / 2 ^ 31 + (1 / 2 ^ 30 + 1 / 2 ^ 40) ≤ 1 / 2 ^ 29 := by decide +kernel
  refine Rat.le_trans t (Rat.le_trans ?_ k)
  generalize (1 : Rat) / 2 ^ 31 = A at *
  generalize (1 : Rat) / 2 ^ 30 + 1 / 2 ^ 40 = B at *
  grind
theorem grow_sub {l m a : Nat} (h1 : Bd 20 l) (h2 : Bd 20 m) (h : resK .sub .f64 l m a) : Bd 22 a ∧ ab (rv l - rv m - rv a) ≤ 1 / 2 ^ 30 := by
  have ea := res_dv h (some_sub h1.2.1 h2.2.1 h2.1)
  have ba : Bd 22 a := by rw [ea]; exact bd_sub h1 h2 (by decide)
  exact ⟨ba, near_ab (sub_rv h2.1 h1.2.1 h2.2.1 ba.2.1 h) (by rw [ab_rv]; exact ba.2.2) (by decide +kernel)⟩
theorem grow_add {l m a : Nat} (h1 : Bd 20 l) (h2 : Bd 20 m) (h : resK .add .f64 l m a) : Bd 22 a ∧ ab (rv l + rv m - rv a) ≤ 1 / 2 ^ 30 := by
  have ea := res_dv h (some_add h1.2.1 h2.2.1)
  have ba : Bd 22 a := by rw [ea]; exact bd_add h1 h2 (by decide)
  exact ⟨ba, near_ab (add_rv h1.2.1 h2.2.1 ba.2.1 h) (by rw [ab_rv]; exact ba.2.2) (by decide +kernel)⟩
/-- the margin 2 ^ -20 and its opposite, as floats -/
def mB : Nat := 4517110426252607488
def mN : Nat := 13740482463107383296
theorem mB_rv : rv mB = 1 / 2 ^ 20 := by decide +kernel
theorem mN_rv : rv mN = -(1 / 2 ^ 20) := by decide +kernel
theorem mB_bd : Bd 20 mB := ⟨by rw [okK64]; decide, by decide +kernel, by decide +kernel⟩
theorem mN_bd : Bd 20 mN := ⟨by rw [okK64]; decide, by decide +kernel, by decide +kernel⟩
/-- one axis: what lies between the ends up to 2 ^ -28 lies in the box grown -/
theorem in_grown {l h m a c x : Nat} {X : Rat} (b1 : Bd 20 l) (b2 : Bd 20 h) (ha : resK .sub .f64 l mB a) (hc : resK .add .f64 h mB c) (bx : Bd 23 x) (hx : ab (X - rv x) ≤ 1 / 2 ^ 29) (k1 : rv l - 1 / 2 ^ 28 ≤ X) (k2 : X ≤ rv h + 1 / 2 ^ 28) : leK .f64 a x = true ∧ leK .f64 x c = true := by
  obtain ⟨ba, ea⟩ := grow_sub b1 mB_bd ha
  obtain ⟨bc, ec⟩ := grow_add b2 mB_bd hc
  rw [mB_rv] at ea ec
  have ea := ab_pm ea
  have ec := ab_pm ec
  have ex := ab_pm hx
  have n1 := fin_num ba.2.1
  have n2 := fin_num bc.2.1
  have n3 := fin_num bx.2.1
  have k : (1 : Rat) / 2 ^ 30 + 1 / 2 ^ 29 + 1 / 2 ^ 28 ≤ 1 / 2 ^ 20 := by decide +kernel
  generalize (1 : Rat) / 2 ^ 30 = A at *
  generalize (1 : Rat) / 2 ^ 29 = B at *
  generalize (1 : Rat) / 2 ^ 28 = C at *
  generalize (1 : Rat) / 2 ^ 20 = D at *
  exact ⟨(le_rv n1 n3).2 (by grind), (le_rv n3 n2).2 (by grind)⟩
/-- one axis: what lies in the box less a margin lies well between the ends -/
theorem in_less {l h a c x : Nat} {X : Rat} (b1 : Bd 20 l) (b2 : Bd 20 h) (ha : resK .sub .f64 l mN a) (hc : resK .add .f64 h mN c) (bx : Bd 23 x) (hx : ab (X - rv x) ≤ 1 / 2 ^ 29) (k1 : leK .f64 a x = true) (k2 : leK .f64 x c = true) : rv l + 2 * (1 / 2 ^ 28) ≤ X ∧ X ≤ rv h - 2 * (1 / 2 ^ 28) := by
  obtain ⟨ba, ea⟩ := grow_sub b1 mN_bd ha
  obtain ⟨bc, ec⟩ := grow_add b2 mN_bd hc
  rw [mN_rv] at ea ec
  have ea := ab_pm ea
  have ec := ab_pm ec
  have ex := ab_pm hx
  have n1 := fin_num ba.2.1
  have n2 := fin_num bc.2.1
  have n3 := fin_num bx.2.1
  have k1 := (le_rv n1 n3).1 k1
  have k2 := (le_rv n3 n2).1 k2
  have k : (1 : Rat) / 2 ^ 30 + 1 / 2 ^ 29 + 2 * (1 / 2 ^ 28) ≤ 1 / 2 ^ 20 := by decide +kernel
  generalize (1 : Rat) / 2 ^ 30 = A at *
  generalize (1 : Rat) / 2 ^ 29 = B at *
  generalize (1 : Rat) / 2 ^ 28 = C at *
  generalize (1 : Rat) / 2 ^ 20 = D at *
  constructor <;> grind
/-- where a way enters, it is in the box grown by the margin -/
theorem enters_yes {lx ly hx hy fx fy wx wy r a b c d x y : Nat} (a1 : Bd 20 lx) (a2 : Bd 20 ly) (a3 : Bd 20 hx) (a4 : Bd 20 hy) (a5 : Bd 20 fx) (a6 : Bd 20 fy) (a7 : Bd 20 wx) (a8 : Bd 20 wy) (w1 : sgK .f64 wx = 0 ∨ 1 ≤ av wx * 2 ^ 20) (w2 : sgK .f64 wy = 0 ∨ 1 ≤ av wy * 2 ^ 20) (l1 : leK .f64 lx hx = true) (l2 : leK .f64 ly hy = true) (h : RayR lx ly hx hy fx fy wx wy r true) (br : Bd 0 r)
    (g : GrowR lx ly hx hy mB a b c d) (m : MoreR fx fy r wx wy x y) : bHas a b c d x y = true := by
  obtain ⟨_, _, _, _, k, _⟩ := ray_all a1 a2 a3 a4 a5 a6 a7 a8 w1 w2 l1 l2 h
  obtain ⟨k1, k2, k3, k4⟩ := k rfl
  obtain ⟨p, q, e1, e2, e3, e4⟩ := m
  obtain ⟨bx, ex⟩ := more_near a5 br a7 e1 e3
  obtain ⟨b_y, ey⟩ := more_near a6 br a8 e2 e4
  obtain ⟨i1, i2⟩ := in_grown (m := 0) a1 a3 g.1.1 g.2.1 bx ex k1 k2
  obtain ⟨i3, i4⟩ := in_grown (m := 0) a2 a4 g.1.2 g.2.2 b_y ey k3 k4
  unfold bHas
  rw [i1, i2, i3, i4]; rfl
/-- where it does not, no place of it lies in the box less the margin -/
theorem enters_no {lx ly hx hy fx fy wx wy r a b c d x y u : Nat} (a1 : Bd 20 lx) (a2 : Bd 20 ly) (a3 : Bd 20 hx) (a4 : Bd 20 hy) (a5 : Bd 20 fx) (a6 : Bd 20 fy) (a7 : Bd 20 wx) (a8 : Bd 20 wy) (w1 : sgK .f64 wx = 0 ∨ 1 ≤ av wx * 2 ^ 20) (w2 : sgK .f64 wy = 0 ∨ 1 ≤ av wy * 2 ^ 20) (l1 : leK .f64 lx hx = true) (l2 : leK .f64 ly hy = true) (h : RayR lx ly hx hy fx fy wx wy r false) (bu : Bd 0 u) (u0 : 0 ≤ rv u) (u1 : rv u ≤ 1)
    (g : GrowR lx ly hx hy mN a b c d) (m : MoreR fx fy u wx wy x y) : bHas a b c d x y = false := by
  obtain ⟨_, _, _, _, _, k⟩ := ray_all a1 a2 a3 a4 a5 a6 a7 a8 w1 w2 l1 l2 h
  obtain ⟨p, q, e1, e2, e3, e4⟩ := m
  obtain ⟨bx, ex⟩ := more_near a5 bu a7 e1 e3
  obtain ⟨b_y, ey⟩ := more_near a6 bu a8 e2 e4
  cases hb : bHas a b c d x y
  · rfl
  · unfold bHas at hb
    rw [Bool.and_eq_true, Bool.and_eq_true, Bool.and_eq_true] at hb
    obtain ⟨⟨⟨i1, i2⟩, i3⟩, i4⟩ := hb
    obtain ⟨j1, j2⟩ := in_less a1 a3 g.1.1 g.2.1 bx ex i1 i2
    obtain ⟨j3, j4⟩ := in_less a2 a4 g.1.2 g.2.2 b_y ey i3 i4
    exact absurd (k (rv u) u0 u1 j1 j2 j3 j4) (by decide)
end Go.Proofs.Ytmgoancijepeoaa
namespace Go.Proofs.Ytmgoancijepeoaa
open Ieee Go.RowKit
set_option linter.unusedSimpArgs false
set_option linter.unusedVariables false

/-! ### BoxEnters: what 'small' says; the middles of the pieces -/
theorem bd_within20 {x : Nat} (o : okK .f64 x) (h : withinK .f64 x 4697254411347427328 = true) : Bd 20 x := by
  have om : okK .f64 4697254411347427328 := by rw [okK64]; decide
  rw [← abs_within _ _ om] at h
  have h1 : rgK .f64 (rgK .f64 x) = rgK .f64 x := by rw [rg64, rg64]; omega
  have h2 : ngK .f64 (rgK .f64 x) = false := by rw [ng64, rg64, beq_eq_false_iff_ne]; omega
  obtain ⟨f, g⟩ := fin_of_le (a := rgK .f64 x) (b := 4697254411347427328) (by decide +kernel) h2 (by decide +kernel) h
  have e : av (rgK .f64 x) = av x := by unfold av mg; rw [h1]
  have e2 : finK .f64 (rgK .f64 x) = finK .f64 x := by unfold finK; rw [h1]
  have e3 : av 4697254411347427328 = 2 ^ 20 := by decide +kernel
  rw [e, e3] at g
  rw [e2] at f
  exact ⟨o, f, g⟩
def smB (x : Nat) : Bool := decide (rgK .f64 x = 0) || (leK .f64 4517110426252607488 (rgK .f64 x) && leK .f64 (rgK .f64 x) 4697254411347427328)
theorem small_facts {x : Nat} (o : okK .f64 x) (h : smB x = true) : Bd 20 x ∧ (sgK .f64 x = 0 ∨ 1 ≤ av x * 2 ^ 20) := by
  unfold smB at h
  have h1 : rgK .f64 (rgK .f64 x) = rgK .f64 x := by rw [rg64, rg64]; omega
  have h2 : ngK .f64 (rgK .f64 x) = false := by rw [ng64, rg64, beq_eq_false_iff_ne]; omega
  have e : av (rgK .f64 x) = av x := by unfold av mg; rw [h1]
  rw [Bool.or_eq_true, Bool.and_eq_true] at h
  rcases h with h | ⟨k1, k2⟩
  · have h := of_decide_eq_true h
    have z : mg x = 0 := mg_zero.2 h
    have za : av x = 0 := by unfold av; rw [z]; decide +kernel
    refine ⟨⟨o, decide_eq_true (by rw [h]; exact infK_pos _), by rw [za]; decide +kernel⟩, .inl ?_⟩
    have nz : nanK .f64 x = false := fin_num (k := .f64) (decide_eq_true (by rw [h]; exact infK_pos _))
    unfold sgK ltK
    rw [woK_eq .f64 x, h]
    have w0 : woK .f64 0 = 0 := by decide +kernel
    rw [w0]
    simp
  · have b := bd_within20 o (by rw [← abs_within _ _ (by rw [okK64]; decide)]; exact k2)
    refine ⟨b, .inr ?_⟩
    obtain ⟨f, g⟩ := av_of_le (a := 4517110426252607488) (b := rgK .f64 x) (by decide +kernel) (by decide +kernel) k1
    rw [e, show av 4517110426252607488 = 1 / 2 ^ 20 by decide +kernel] at g
    have := Rat.mul_le_mul_of_nonneg_right g (show (0 : Rat) ≤ 2 ^ 20 by decide)
    rwa [show (1 : Rat) / 2 ^ 20 * 2 ^ 20 = 1 by decide +kernel] at this
def flI (i : Nat) : Nat := FloatKind.f64.nearest (i : Int)
def midK (i : Nat) : Nat := Dv .quo (Dv .add (flI i) 4602678819172646912) 4634204016564240384
def midB (i : Nat) : Bool := decide (midK i < 18446744073709551616) && finK .f64 (midK i) && decide (av (midK i) ≤ 1) && decide (0 ≤ rv (midK i)) && finK .f64 (flI i) && decide (flI i < 18446744073709551616) && finK .f64 (Dv .add (flI i) 4602678819172646912)
theorem mid_all : ((List.range 64).all midB) = true := by decide +kernel
theorem mid_facts {i : Nat} (h : i < 64) : Bd 0 (midK i) ∧ 0 ≤ rv (midK i) ∧ rv (midK i) ≤ 1 ∧ finK .f64 (flI i) = true ∧ finK .f64 (Dv .add (flI i) 4602678819172646912) = true := by
  have h1 := List.all_eq_true.1 mid_all i (List.mem_range.2 h)
  unfold midB at h1
  simp only [Bool.and_eq_true, decide_eq_true_eq] at h1
  obtain ⟨⟨⟨⟨⟨⟨a1, a2⟩, a3⟩, a4⟩, a5⟩, a6⟩, a7⟩ := h1
  refine ⟨⟨by rw [okK64]; exact a1, a2, by rw [Rat.pow_zero]; exact a3⟩, a4, ?_, a5, a7⟩
  have := (ab_le (rv (midK i))).1
  rw [ab_rv] at this
  exact Rat.le_trans this a3
/-- where the way enters is a number of nought to one -/
theorem ray_unit {r : Nat} (o : okK .f64 r) (n : nanK .f64 r = false) (h0 : 0 ≤ rv r) (h1 : rv r ≤ 1) : Bd 0 r ∧ eqK .f64 r r = true ∧ ltK .f64 r 0 = false ∧ ltK .f64 4607182418800017408 r = false := by
  have n0 : nanK .f64 0 = false := by decide +kernel
  have n1 : nanK .f64 4607182418800017408 = false := by decide +kernel
  have r0 : rv 0 = 0 := by decide +kernel
  have r1 : rv 4607182418800017408 = 1 := by decide +kernel
  have l0 : ltK .f64 r 0 = false := by
    cases e : ltK .f64 r 0
    · rfl
    · have := (lt_rv n n0).1 e
      rw [r0] at this
      grind
  have l1 : ltK .f64 4607182418800017408 r = false := by
    cases e : ltK .f64 4607182418800017408 r
    · rfl
    · have := (lt_rv n1 n).1 e
      rw [r1] at this
      grind
  have ha : av r ≤ 1 := by rw [← ab_rv, ab_pos h0]; exact h1
  refine ⟨⟨o, ?_, by rw [Rat.pow_zero]; exact ha⟩, ?_, l0, l1⟩
  · have hle : leK .f64 r 4607182418800017408 = true := (le_rv n n1).2 (by rw [r1]; exact h1)
    have hge : leK .f64 (Op.negFloat .f64 4607182418800017408) r = true := (le_rv (by decide +kernel) n).2 (by rw [show rv (Op.negFloat .f64 4607182418800017408) = -1 by decide +kernel]; grind)
    have hw : withinK .f64 r 4607182418800017408 = true := by unfold withinK; rw [hle, hge]; rfl
    rw [← abs_within _ _ (by rw [okK64]; decide)] at hw
    have q1 : rgK .f64 (rgK .f64 r) = rgK .f64 r := by rw [rg64, rg64]; omega
    have q2 : ngK .f64 (rgK .f64 r) = false := by rw [ng64, rg64, beq_eq_false_iff_ne]; omega
    obtain ⟨f, g⟩ := fin_of_le (a := rgK .f64 r) (b := 4607182418800017408) (by decide +kernel) q2 (by decide +kernel) hw
    have e2 : finK .f64 (rgK .f64 r) = finK .f64 r := by unfold finK; rw [q1]
    rwa [e2] at f
  · unfold eqK; rw [n]; simp
theorem ax_ok {low high frm way s t s' t' : Nat} (h : AxR low high frm way s t s' t' true) (os : okK .f64 s) (ot : okK .f64 t) : okK .f64 s' ∧ okK .f64 t' := by
  unfold AxR at h
  split at h
  · obtain ⟨rfl, rfl, _⟩ := h
    exact ⟨os, ot⟩
  · obtain ⟨d1, p, d2, q, h1, h2, h3, h4, h5⟩ := h
    split at h5
    · cases h5
    · split at h5
      all_goals
        obtain ⟨rfl, rfl, _⟩ := h5
        unfold cutS cutT
        constructor <;> split <;> first | assumption | exact h2.1 | exact h4.1
theorem ray_ok {lx ly hx hy fx fy wx wy r : Nat} {ok : Bool} (h : RayR lx ly hx hy fx fy wx wy r ok) : okK .f64 r := by
  have o0 : okK .f64 0 := by rw [okK64]; decide
  obtain ⟨s1, t1, b1, h1, h2⟩ := h
  cases b1
  · rw [if_neg (by decide)] at h2
    rw [h2.2]; exact o0
  · rw [if_pos rfl] at h2
    obtain ⟨s2, t2, b2, h3, rfl, rfl⟩ := h2
    obtain ⟨o1, o2⟩ := ax_ok h1 o0 (by rw [okK64]; decide)
    cases ok
    · exact o0
    · exact (ax_ok h3 o1 o2).1
theorem band {a b : Bool} (h : (a && b) = true) : a = true ∧ b = true := by simpa using h
theorem chk_le {lx ly hx hy : Nat} (h : bChk lx ly hx hy = true) : leK .f64 lx hx = true ∧ leK .f64 ly hy = true := by
  rw [← bChk_eq] at h
  exact band (band h).2
end Go.Proofs.Ytmgoancijepeoaa
