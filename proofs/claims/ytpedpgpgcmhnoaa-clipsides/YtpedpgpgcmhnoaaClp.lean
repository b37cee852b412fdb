/-
  Plain facts on floats, more: rounding to the nearest rung, sums and products of finite floats, signs turned. No program is named here.
-/
import Derived.Test.YtpedpgpgcmhnoaaGel
import Derived.Test.YtpedpgpgcmhnoaaShp
namespace Go.Proofs.Ytpedpgpgcmhnoaa
open Ieee Go.RowKit
set_option linter.unusedSimpArgs false
set_option linter.unusedVariables false

/-! ### Go's order of finite floats is that of their numbers -/
theorem wo_sv (x y : Nat) : woK .f64 x ≤ woK .f64 y ↔ svK .f64 x ≤ svK .f64 y := by
  have hx := woK_eq .f64 x
  have hy := woK_eq .f64 y
  have vz : vl FloatKind.f64.format 0 = 0 := vl_zero _
  have le : ∀ {r s : Nat}, vl FloatKind.f64.format r ≤ vl FloatKind.f64.format s ↔ r ≤ s := fun {r s} => by
    rw [← Nat.not_lt, ← Nat.not_lt, vl_lt_iff]
  have pos : ∀ r, vl FloatKind.f64.format r = 0 ↔ r = 0 := fun r => ⟨fun h => vl_inj _ (h.trans vz.symm), fun h => by rw [h]; exact vz⟩
  rw [hx, hy]
  show (if ngK .f64 x then -(rgK .f64 x : Int) else (rgK .f64 x : Int)) ≤ (if ngK .f64 y then -(rgK .f64 y : Int) else (rgK .f64 y : Int)) ↔ (if ngK .f64 x then -(vl FloatKind.f64.format (rgK .f64 x) : Int) else (vl FloatKind.f64.format (rgK .f64 x) : Int)) ≤ (if ngK .f64 y then -(vl FloatKind.f64.format (rgK .f64 y) : Int) else (vl FloatKind.f64.format (rgK .f64 y) : Int))
  generalize rgK .f64 x = a
  generalize rgK .f64 y = b
  have l1 := @le a b
  have l2 := @le b a
  have p1 := pos a
  have p2 := pos b
  generalize vl FloatKind.f64.format a = u at *
  generalize vl FloatKind.f64.format b = v at *
  cases ngK .f64 x <;> cases ngK .f64 y <;> simp <;> omega
theorem rv_le (x y : Nat) : rv x ≤ rv y ↔ svK .f64 x ≤ svK .f64 y := by
  rw [rv_sv, rv_sv]
  constructor
  · intro h
    have := Rat.mul_le_mul_of_nonneg_right h (Rat.le_of_lt W_pos)
    rw [Rat.div_mul_cancel (Rat.ne_of_gt W_pos), Rat.div_mul_cancel (Rat.ne_of_gt W_pos)] at this
    exact Rat.intCast_le_intCast.1 this
  · intro h
    rw [Rat.div_def, Rat.div_def]
    exact Rat.mul_le_mul_of_nonneg_right (Rat.intCast_le_intCast.2 h) (Rat.le_of_lt (Rat.inv_pos.2 W_pos))
theorem le_rv {x y : Nat} (hx : nanK .f64 x = false) (hy : nanK .f64 y = false) : leK .f64 x y = true ↔ rv x ≤ rv y := by
  unfold leK
  rw [hx, hy, rv_le, ← wo_sv]
  simp
theorem lt_rv {x y : Nat} (hx : nanK .f64 x = false) (hy : nanK .f64 y = false) : ltK .f64 x y = true ↔ rv x < rv y := by
  have h := rv_le y x
  have g := wo_sv y x
  unfold ltK
  rw [hx, hy]
  simp
  rw [← Rat.not_le, h, ← g]
  omega
end Go.Proofs.Ytpedpgpgcmhnoaa
namespace Go.Proofs.Ytpedpgpgcmhnoaa
open Ieee Go.RowKit
set_option linter.unusedSimpArgs false
set_option linter.unusedVariables false

/-! ### Planes: how far a place lies beyond, the cut of two places, what is left of a row -/
theorem bd_quo1 {m l x y : Nat} (hx : Bd m x) (hy : Bd l y) (y0 : mg y ≠ 0) (h1 : av x ≤ 2 * av y) : Bd 3 (Dv .quo x y) ∧ resK .quo .f64 x y (Dv .quo x y) := by
  have s := some_quo hx.2.1 hy.2.1 y0
  have r := dv_res s
  obtain ⟨Q, c, q0, q1, q2, e, hnr, _⟩ := quo_near hx.2.1 hy.2.1 y0
  have yp : 0 < av y := by
    have g := av_ge y0
    have g0 : (0 : Rat) < 1 / 2 ^ 1074 := by decide +kernel
    generalize (1 : Rat) / 2 ^ 1074 = K at *
    grind
  have hQ : Q ≤ 4 := by
    have a1 : epR ≤ 1 := by decide +kernel
    have a2 := rmul a1 (av_nn x)
    have a3 : Q * av y ≤ 4 * av y := by grind
    exact Rat.le_of_mul_le_mul_right a3 yp
  have hv : (vl FloatKind.f64.format c : Rat) / 2 ^ 1074 ≤ 8 := by
    have h2 := hnr.2
    have a1 : epR ≤ 1 / 4 := by decide +kernel
    have a2 : etR ≤ 1 := by decide +kernel
    have a4 : (0 : Rat) ≤ (vl FloatKind.f64.format c : Rat) / 2 ^ 1074 := by
      rw [Rat.div_def]; exact Rat.mul_nonneg Rat.natCast_nonneg (Rat.le_of_lt (Rat.inv_pos.2 W_pos))
    have a5 := rmul a1 a4
    generalize (vl FloatKind.f64.format c : Rat) / 2 ^ 1074 = A at *
    grind
  have hc : c < infK .f64 := rung_fin (Rat.le_trans hv (by
    have := two_900 (n := 3) (by omega)
    have e3 : (2 : Rat) ^ 3 = 8 := by decide +kernel
    generalize (2 : Rat) ^ 1000 = K at *
    grind))
  have er := res_is r e
  refine ⟨⟨okDv _ s, by rw [er]; exact fin_of _ hc, ?_⟩, r⟩
  rw [er, av_word _ _ hc]
  exact Rat.le_trans hv (by decide +kernel)
/-- one lies within, the other beyond: the difference is not nought, and no less than half of either -/
theorem sub_apart {k u w : Nat} (hu : Bd k u) (hw : Bd k w) (hk : k ≤ 900) (h : leK .f64 u 0 ≠ leK .f64 w 0) : mg (Dv .sub u w) ≠ 0 ∧ av u ≤ 2 * av (Dv .sub u w) := by
  have b := bd_sub hu hw hk
  have r := dv_res (some_sub hu.2.1 hw.2.1 hw.1)
  have hr := sub_rv hw.1 hu.2.1 hw.2.1 b.2.1 r
  have n0 : nanK .f64 0 = false := by decide +kernel
  have r0 : rv 0 = 0 := by decide +kernel
  have iu := le_rv (fin_num hu.2.1) n0
  have iw := le_rv (fin_num hw.2.1) n0
  rw [r0] at iu iw
  have au := ab_rv u
  have aw := ab_rv w
  have gt1 : ∀ z, rv z ≠ 0 → 1 / 2 ^ 1074 ≤ av z := fun z hz => by
    refine av_ge fun h0 => hz ?_
    have : av z = 0 := by unfold av; rw [h0]; decide +kernel
    unfold rv; rw [this]; split <;> decide +kernel
  have key : 1 / 2 ^ 1074 ≤ ab (rv u - rv w) ∧ av u ≤ ab (rv u - rv w) := by
    by_cases hu0 : rv u ≤ 0
    · have hw0 : ¬ rv w ≤ 0 := fun hc => h (by rw [iu.2 hu0, iw.2 hc])
      have hwp : rv w = av w := by rw [← aw, ab_pos (by grind)]
      have hun : av u = - rv u := by rw [← au, ← ab_neg, ab_pos (by grind)]
      have g := gt1 w (by grind)
      have := (ab_le (rv u - rv w)).2
      generalize (1 : Rat) / 2 ^ 1074 = K at *
      constructor <;> grind
    · have hw0 : rv w ≤ 0 := by
        apply Classical.byContradiction
        intro hc
        apply h
        cases e1 : leK .f64 u 0 <;> cases e2 : leK .f64 w 0
        · rfl
        · exact absurd (iw.1 e2) hc
        · exact absurd (iu.1 e1) hu0
        · rfl
      have hup : av u = rv u := by rw [← au, ab_pos (by grind)]
      have g := gt1 u (by grind)
      have := (ab_le (rv u - rv w)).1
      generalize (1 : Rat) / 2 ^ 1074 = K at *
      constructor <;> grind
  have e1 : etR * 2 ≤ 1 / 2 ^ 1074 := by decide +kernel
  have e2 : epR * 4 ≤ 1 := by decide +kernel
  have e3 : (0 : Rat) ≤ etR := by decide +kernel
  have e4 : (0 : Rat) < 1 / 2 ^ 1074 := by decide +kernel
  have ad := ab_rv (Dv .sub u w)
  have hd : ab (rv u - rv w) ≤ ab (rv (Dv .sub u w)) + (epR * ab (rv (Dv .sub u w)) + etR) := by
    have := ab_add (rv u - rv w - rv (Dv .sub u w)) (rv (Dv .sub u w))
    rw [show rv u - rv w - rv (Dv .sub u w) + rv (Dv .sub u w) = rv u - rv w by grind] at this
    have h2 := hr
    unfold nrS at h2
    grind
  rw [ad] at hd
  have nz : mg (Dv .sub u w) ≠ 0 := by
    intro h0
    have : av (Dv .sub u w) = 0 := by unfold av; rw [h0]; decide +kernel
    rw [this] at hd
    have k1 := key.1
    generalize (1 : Rat) / 2 ^ 1074 = K at *
    grind
  refine ⟨nz, ?_⟩
  have g := av_ge nz
  have k2 := key.2
  have e5 := rmul e2 (av_nn (Dv .sub u w))
  generalize (1 : Rat) / 2 ^ 1074 = K at *
  grind
/-- a plane: its normal, how far -/
abbrev Pn := Nat × Nat × Nat
def frK (p : Pn) (a : Pt) : Nat := Dv .sub (dtK p.1 p.2.1 a.1 a.2) p.2.2
def wiB (p : Pn) (a : Pt) : Bool := leK .f64 (frK p a) 0
def cuT (p : Pn) (a b : Pt) : Nat := Dv .quo (frK p a) (Dv .sub (frK p a) (frK p b))
def cuX (p : Pn) (a b : Pt) : Nat := Dv .add a.1 (Dv .mul (cuT p a b) (Dv .sub b.1 a.1))
def cuY (p : Pn) (a b : Pt) : Nat := Dv .add a.2 (Dv .mul (cuT p a b) (Dv .sub b.2 a.2))
def cuP (p : Pn) (a b : Pt) : Pt := (cuX p a b, cuY p a b)
/-- a plane's floats are of a size -/
def PnB (p : Pn) : Prop := Bd 80 p.1 ∧ Bd 80 p.2.1 ∧ Bd 130 p.2.2
def PtB (k : Nat) (a : Pt) : Prop := Bd k a.1 ∧ Bd k a.2
theorem PtB.mono {k l : Nat} {a : Pt} (h : PtB k a) (hk : k ≤ l) : PtB l a := ⟨bd_mono h.1 hk, bd_mono h.2 hk⟩
theorem fr_dt {k : Nat} {p : Pn} {a : Pt} (hp : PnB p) (ha : PtB k a) (hk : k ≤ 600) : Bd (k + 130) (dtK p.1 p.2.1 a.1 a.2) := bd_mono (bd_dt hp.1 hp.2.1 ha.1 ha.2 (by omega)) (by omega)
theorem fr_bd {k : Nat} {p : Pn} {a : Pt} (hp : PnB p) (ha : PtB k a) (hk : k ≤ 600) : Bd (k + 132) (frK p a) := bd_sub (fr_dt hp ha hk) (bd_mono hp.2.2 (by omega)) (by omega)
theorem cuT_bd {k : Nat} {p : Pn} {a b : Pt} (hp : PnB p) (ha : PtB k a) (hb : PtB k b) (hk : k ≤ 600) (h : wiB p a ≠ wiB p b) : mg (Dv .sub (frK p a) (frK p b)) ≠ 0 ∧ Bd (k + 134) (Dv .sub (frK p a) (frK p b)) ∧ Bd 3 (cuT p a b) ∧ resK .quo .f64 (frK p a) (Dv .sub (frK p a) (frK p b)) (cuT p a b) := by
  have f1 := fr_bd hp ha hk
  have f2 := fr_bd hp hb hk
  obtain ⟨s1, s2⟩ := sub_apart f1 f2 (by omega) h
  have s3 := bd_sub f1 f2 (by omega)
  obtain ⟨s4, s5⟩ := bd_quo1 f1 s3 s1 s2
  exact ⟨s1, s3, s4, s5⟩
theorem cu_bd {k : Nat} {p : Pn} {a b : Pt} (hp : PnB p) (ha : PtB k a) (hb : PtB k b) (hk : k ≤ 600) (h : wiB p a ≠ wiB p b) : PtB (k + 8) (cuP p a b) := by
  obtain ⟨_, _, t, _⟩ := cuT_bd hp ha hb hk h
  have m1 := bd_mul t (bd_sub hb.1 ha.1 (by omega)) (by omega)
  have m2 := bd_mul t (bd_sub hb.2 ha.2 (by omega)) (by omega)
  rw [show 3 + (k + 2) + 1 = k + 6 by omega] at m1 m2
  exact ⟨bd_add (bd_mono ha.1 (by omega)) m1 (by omega), bd_add (bd_mono ha.2 (by omega)) m2 (by omega)⟩
/-- may a plane be? -/
def pnB (p : Pn) : Bool := (withinK .f64 p.1 4611686018427387904 && withinK .f64 p.2.1 4611686018427387904) && (leK .f64 4607182418800009216 (dtK p.1 p.2.1 p.1 p.2.1) && leK .f64 (dtK p.1 p.2.1 p.1 p.2.1) 4607182418800021504) && withinK .f64 p.2.2 4796333603149578240
def pE (p : Pn) : Int := if pnB p then 0 else 90
end Go.Proofs.Ytpedpgpgcmhnoaa
namespace Go.Proofs.Ytpedpgpgcmhnoaa
open Ieee Go.RowKit
set_option linter.unusedSimpArgs false
set_option linter.unusedVariables false

theorem bd_withinG {x c k : Nat} (o : okK .f64 x) (oc : okK .f64 c) (nc : ngK .f64 c = false) (fc : finK .f64 c = true) (ac : av c = 2 ^ k) (h : withinK .f64 x c = true) : Bd k x := by
  rw [← abs_within _ _ oc] at h
  have h1 : rgK .f64 (rgK .f64 x) = rgK .f64 x := by rw [rg64, rg64]; omega
  have h2 : ngK .f64 (rgK .f64 x) = false := by rw [ng64, rg64, beq_eq_false_iff_ne]; omega
  obtain ⟨f, g⟩ := fin_of_le (a := rgK .f64 x) (b := c) fc h2 nc h
  have e : av (rgK .f64 x) = av x := by unfold av mg; rw [h1]
  have e2 : finK .f64 (rgK .f64 x) = finK .f64 x := by unfold finK; rw [h1]
  rw [e, ac] at g
  rw [e2] at f
  exact ⟨o, f, g⟩
theorem bd_w1 {x : Nat} (o : okK .f64 x) (h : withinK .f64 x 4611686018427387904 = true) : Bd 1 x := bd_withinG o (by rw [okK64]; decide) (by decide +kernel) (by decide +kernel) (by decide +kernel) h
theorem bd_w42 {x : Nat} (o : okK .f64 x) (h : withinK .f64 x 4796333603149578240 = true) : Bd 42 x := bd_withinG o (by rw [okK64]; decide) (by decide +kernel) (by decide +kernel) (by decide +kernel) h
theorem pn_ok {p : Pn} (o1 : okK .f64 p.1) (o2 : okK .f64 p.2.1) (o3 : okK .f64 p.2.2) (h : pnB p = true) : Bd 1 p.1 ∧ Bd 1 p.2.1 ∧ Bd 42 p.2.2 := by
  unfold pnB at h
  simp only [Bool.and_eq_true] at h
  obtain ⟨⟨⟨h1, h2⟩, _⟩, h3⟩ := h
  exact ⟨bd_w1 o1 h1, bd_w1 o2 h2, bd_w42 o3 h3⟩
theorem pn_bd {p : Pn} (o1 : okK .f64 p.1) (o2 : okK .f64 p.2.1) (o3 : okK .f64 p.2.2) (h : pnB p = true) : PnB p := by
  obtain ⟨h1, h2, h3⟩ := pn_ok o1 o2 o3 h
  exact ⟨bd_mono h1 (by decide), bd_mono h2 (by decide), bd_mono h3 (by decide)⟩
def sideL (p : Pn) (a b : Pt) : List Pt := (if wiB p a then [a] else []) ++ (if wiB p a != wiB p b then [cuP p a b] else [])
def rowN (p : Pn) (L : List Pt) : Nat → List Pt
  | 0 => []
  | i + 1 => rowN p L i ++ sideL p (pt L i) (pt L ((i + 1) % L.length))
def lastL (D : List Pt) : List Pt := if 1 < D.length ∧ eqP (pt D (D.length - 1)) (pt D 0) = true then D.take (D.length - 1) else D
def outL (p : Pn) (L : List Pt) : List Pt := dd (rowN p L L.length) (rowN p L L.length).length
def leftL (p : Pn) (L : List Pt) : List Pt := if (lastL (outL p L)).length < 3 then [] else lastL (outL p L)
def PsB (k : Nat) (L : List Pt) : Prop := ∀ q, q ∈ L → PtB k q
theorem side_len (p : Pn) (a b : Pt) : (sideL p a b).length ≤ 2 := by
  unfold sideL
  split <;> split <;> simp
theorem side_bd {k : Nat} {p : Pn} {a b : Pt} (hp : PnB p) (ha : PtB k a) (hb : PtB k b) (hk : k ≤ 600) : PsB (k + 8) (sideL p a b) := by
  intro q hq
  unfold sideL at hq
  rw [List.mem_append] at hq
  rcases hq with hq | hq
  · split at hq
    · simp at hq; rw [hq]; exact ha.mono (by omega)
    · cases hq
  · split at hq
    · rename_i hne
      simp at hq; rw [hq]; exact cu_bd hp ha hb hk (by simpa using hne)
    · cases hq
theorem rowN_len (p : Pn) (L : List Pt) : ∀ i, (rowN p L i).length ≤ 2 * i := by
  intro i
  induction i with
  | zero => simp [rowN]
  | succ i ih =>
    have := side_len p (pt L i) (pt L ((i + 1) % L.length))
    simp only [rowN, List.length_append]
    omega
theorem rowN_bd {k : Nat} {p : Pn} {L : List Pt} (hp : PnB p) (hL : PsB k L) (hk : k ≤ 600) : ∀ i, i ≤ L.length → PsB (k + 8) (rowN p L i) := by
  intro i
  induction i with
  | zero => intro _ q hq; cases hq
  | succ i ih =>
    intro hi q hq
    simp only [rowN] at hq
    rw [List.mem_append] at hq
    rcases hq with hq | hq
    · exact ih (by omega) q hq
    · exact side_bd hp (hL _ (pt_mem (by omega))) (hL _ (pt_mem (Nat.mod_lt _ (by omega)))) hk q hq
theorem lastL_mem {D : List Pt} {q : Pt} (h : q ∈ lastL D) : q ∈ D := by
  unfold lastL at h
  split at h
  · exact List.mem_of_mem_take h
  · exact h
theorem outL_mem {p : Pn} {L : List Pt} {q : Pt} (h : q ∈ outL p L) : q ∈ rowN p L L.length := dd_mem _ (Nat.le_refl _) q h
theorem leftL_bd {k : Nat} {p : Pn} {L : List Pt} (hp : PnB p) (hL : PsB k L) (hk : k ≤ 600) : PsB (k + 8) (leftL p L) := by
  intro q hq
  unfold leftL at hq
  split at hq
  · cases hq
  · exact rowN_bd hp hL hk _ (Nat.le_refl _) q (outL_mem (lastL_mem hq))
theorem lastL_len (D : List Pt) : (lastL D).length ≤ D.length := by
  unfold lastL
  split
  · simp
  · exact Nat.le_refl _
theorem outL_len (p : Pn) (L : List Pt) : (outL p L).length ≤ 2 * L.length := Nat.le_trans (dd_len _ _) (rowN_len _ _ _)
theorem leftL_len (p : Pn) (L : List Pt) : (leftL p L).length ≤ 2 * L.length := by
  have h1 := outL_len p L
  have h2 := lastL_len (outL p L)
  unfold leftL
  split
  · simp
  · omega
theorem ps_nums {k : Nat} {L : List Pt} (h : PsB k L) : Nums L := fun q hq => ⟨fin_num (h q hq).1.2.1, fin_num (h q hq).2.2.1⟩
/-- a plane, and places beside it -/
def cwE (p : Pn) (xs ys : Nat → Nat) (n : Nat) : Int := if pnB p = true then (if reaB xs ys n = true then 0 else 5) else 90
theorem cwE_pn {p : Pn} {xs ys : Nat → Nat} {n : Nat} (h : pnB p = false) : cwE p xs ys n = 90 := by unfold cwE; rw [h]; rfl
theorem cwE_no {p : Pn} {xs ys : Nat → Nat} {n k : Nat} (h : pnB p = true) (hk : k < n) (g : (withinK .f64 (xs k) 4787326403894837248 && withinK .f64 (ys k) 4787326403894837248) = false) : cwE p xs ys n = 5 := by
  unfold cwE reaB; rw [h, allB_no hk g]; rfl
theorem cwE_ok {p : Pn} {xs ys : Nat → Nat} {n : Nat} (h : pnB p = true) (g : ∀ k, k < n → (withinK .f64 (xs k) 4787326403894837248 && withinK .f64 (ys k) 4787326403894837248) = true) : cwE p xs ys n = 0 := by
  unfold cwE reaB; rw [h, allB_iff.2 g]; rfl
theorem cwE_zero {p : Pn} {xs ys : Nat → Nat} {n : Nat} (h : cwE p xs ys n = 0) : pnB p = true ∧ ∀ k, k < n → (withinK .f64 (xs k) 4787326403894837248 && withinK .f64 (ys k) 4787326403894837248) = true := by
  unfold cwE at h
  split at h
  · rename_i hp
    split at h
    · rename_i hr
      unfold reaB at hr
      exact ⟨hp, allB_iff.1 hr⟩
    · cases h
  · cases h
/-- a polygon's sides as planes -/
def sdP (xs ys : Nat → Nat) (n i : Nat) : Pn := (nX xs ys n i, nY xs ys n i, dtK (nX xs ys n i) (nY xs ys n i) (xs i) (ys i))
theorem sd_bd {xs ys : Nat → Nat} {n i : Nat} (g : Gd xs ys n) (hi : i < n) (h : outB xs ys n i = true) : PnB (sdP xs ys n i) := by
  obtain ⟨w1, w2⟩ := wX_bd g hi
  obtain ⟨_, n1, n2⟩ := n_bd w1 w2 (out_len h)
  obtain ⟨g1, g2⟩ := g i hi
  exact ⟨n1, n2, bd_mono (bd_dt n1 n2 g1 g2 (by decide)) (by decide)⟩
/-- a row cut by the first k sides -/
def bothL (xs ys : Nat → Nat) (n : Nat) (L : List Pt) : Nat → List Pt
  | 0 => L
  | k + 1 => leftL (sdP xs ys n k) (bothL xs ys n L k)
theorem both_len (xs ys : Nat → Nat) (n : Nat) (L : List Pt) : ∀ k, (bothL xs ys n L k).length ≤ 2 ^ k * L.length := by
  intro k
  induction k with
  | zero => simp [bothL]
  | succ k ih =>
    have := leftL_len (sdP xs ys n k) (bothL xs ys n L k)
    simp only [bothL]
    rw [Nat.pow_succ]
    have e : 2 ^ k * 2 * L.length = 2 * (2 ^ k * L.length) := by rw [Nat.mul_comm (2 ^ k) 2, Nat.mul_assoc]
    omega
theorem leftL_nil (p : Pn) : leftL p [] = [] := by
  have e : outL p [] = [] := by
    have h1 := outL_len p []
    simpa using h1
  unfold leftL
  rw [e]
  exact if_pos (by decide)
theorem both_nil {xs ys : Nat → Nat} {n : Nat} {L : List Pt} {k : Nat} (h : bothL xs ys n L k = []) : ∀ j, bothL xs ys n L (k + j) = [] := by
  intro j
  induction j with
  | zero => exact h
  | succ j ih =>
    show leftL _ (bothL xs ys n L (k + j)) = []
    rw [ih]; exact leftL_nil _
theorem both_bd {xs ys : Nat → Nat} {n : Nat} {L : List Pt} (g : Gd xs ys n) (ho : ∀ i, i < n → outB xs ys n i = true) (hL : PsB 40 L) (hn : n ≤ 64) : ∀ k, k ≤ n → PsB (40 + 8 * k) (bothL xs ys n L k) := by
  intro k
  induction k with
  | zero => intro _; exact hL
  | succ k ih =>
    intro hk
    have := leftL_bd (sd_bd g (by omega) (ho k (by omega))) (ih (by omega)) (by omega)
    rw [show 40 + 8 * (k + 1) = 40 + 8 * k + 8 by omega]
    exact this
end Go.Proofs.Ytpedpgpgcmhnoaa
