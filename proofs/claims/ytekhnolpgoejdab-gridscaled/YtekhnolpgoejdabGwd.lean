/-
  Plain facts on floats, more: rounding to the nearest rung, sums and products of finite floats, signs turned. No program is named here.
-/
import Derived.Test.YtekhnolpgoejdabGsy
import Derived.Test.YtekhnolpgoejdabRndz
import Derived.Test.YtekhnolpgoejdabBox
namespace Go.Proofs.Ytekhnolpgoejdab
open Ieee Go.RowKit Go.Sort Go.Shelf Go.Lib
set_option linter.unusedSimpArgs false
set_option linter.unusedVariables false

/-! ### The good width: sizes by their places in the row of floats, powers of two -/
def wdW (k : Nat) : Nat := 4472074429978902528 + k * 4503599627370496
theorem wd_all : (List.range 70).all (fun k => floatBits .add .f64 (wdW k) (wdW k) == some (wdW (k + 1)) && floatBits .mul .f64 (wdW k) 4611686018427387904 == some (wdW (k + 1))) = true := by decide +kernel
theorem wd_add {k : Nat} (h : k < 70) : floatBits .add .f64 (wdW k) (wdW k) = some (wdW (k + 1)) := by
  have := List.all_eq_true.1 wd_all k (List.mem_range.2 h)
  simp only [Bool.and_eq_true, beq_iff_eq] at this
  exact this.1
theorem wd_mul {k : Nat} (h : k < 70) : floatBits .mul .f64 (wdW k) 4611686018427387904 = some (wdW (k + 1)) := by
  have := List.all_eq_true.1 wd_all k (List.mem_range.2 h)
  simp only [Bool.and_eq_true, beq_iff_eq] at this
  exact this.2
theorem wd_lt_all : (List.range 71).all (fun k => ltK .f64 (wdW k) 4787326403894837248 == decide (k < 70) && (!nanK .f64 (wdW k)) && (rkK (wdW k) == woK .f64 (wdW k)) && decide (0 < woK .f64 (wdW k))) = true := by decide +kernel
theorem wd_most {k : Nat} (h : k ≤ 70) : ltK .f64 (wdW k) 4787326403894837248 = decide (k < 70) := by
  have := List.all_eq_true.1 wd_lt_all k (List.mem_range.2 (by omega))
  simp only [Bool.and_eq_true, beq_iff_eq] at this
  exact this.1.1.1
theorem wd_num {k : Nat} (h : k ≤ 70) : nanK .f64 (wdW k) = false ∧ rkK (wdW k) = woK .f64 (wdW k) ∧ 0 < woK .f64 (wdW k) := by
  have := List.all_eq_true.1 wd_lt_all k (List.mem_range.2 (by omega))
  simp only [Bool.and_eq_true, beq_iff_eq, Bool.not_eq_true', decide_eq_true_eq] at this
  exact ⟨this.1.1.2, this.1.2, this.2⟩
theorem rk_wo {s : Nat} (n : nanK .f64 s = false) : (0 < woK .f64 s → rkK s = woK .f64 s) ∧ (woK .f64 s ≤ 0 → rkK s ≤ 0) := by
  rw [woK_eq]
  unfold rkK plK
  rw [n]
  simp only [Bool.false_eq_true, if_false]
  cases ngK .f64 s <;> simp <;> omega
theorem lt_wd {k s : Nat} (h : k ≤ 70) (hs : okK .f64 s) : ltK .f64 (wdW k) s = decide (rkK (wdW k) < rkK s) := by
  obtain ⟨h1, h2, h3⟩ := wd_num h
  rw [h2]
  cases n : nanK .f64 s with
  | true =>
    have : rkK s = -9223372036854775809 := by unfold rkK; rw [n]; rfl
    rw [this]
    unfold ltK
    rw [n]
    simp
    omega
  | false =>
    obtain ⟨g1, g2⟩ := rk_wo n
    unfold ltK
    rw [h1, n]
    simp only [Bool.not_false, Bool.true_and]
    by_cases hp : 0 < woK .f64 s
    · rw [g1 hp]
    · have := g2 (by omega)
      simp
      omega
def lwR (z : Int) : Nat → Nat
  | 0 => 70
  | f + 1 => if rkK (wdW (70 - (f + 1))) < z then lwR z f else 70 - (f + 1)
/-- the power of two for a size of that place -/
def pwR (z : Int) : Nat := wdW (lwR z 70)
/-- a size's place -/
def zrk (b : Bo) : Int := match floatBits .add .f64 (Dv .sub b.2.2.1 b.1) (Dv .sub b.2.2.2 b.2.1) with | some r => rkK r | none => -9223372036854775809
theorem sub_some {x y : Nat} (hx : finK .f64 x = true) (hy : finK .f64 y = true) (oy : okK .f64 y) : (floatBits .sub .f64 x y).isSome = true := by
  rw [sub_is_add .f64 x y oy]
  have hn : finK .f64 (Op.negFloat .f64 y) = true := by
    have := (neg_facts .f64 y oy).1
    unfold finK at hy ⊢
    first
      | (rw [this]; exact hy)
      | (simp only [rgK] at this hy ⊢; simpa [this] using hy)
  rw [add_spec .f64 x _ hx hn]
  rfl
theorem size_rk {b : Bo} {r : Nat} (h : mayO b = true) (o1 : okK .f64 b.1) (o2 : okK .f64 b.2.1) (hr : SizeR b.1 b.2.1 b.2.2.1 b.2.2.2 r) : rkK r = zrk b ∧ okK .f64 r := by
  obtain ⟨p, q, ⟨hp, hq⟩, hs⟩ := hr
  have hf := h
  unfold mayO bChk bFin at hf
  simp only [Bool.and_eq_true] at hf
  have f1 := hf.1.1.1.1.1
  have f2 := hf.1.1.1.1.2
  have f3 := hf.1.1.1.2
  have f4 := hf.1.1.2
  have e1 := res_dv hp (sub_some f3 f1 o1)
  have e2 := res_dv hq (sub_some f4 f2 o2)
  subst e1 e2
  refine ⟨?_, hs.1⟩
  unfold zrk
  rcases hs.2 with e | ⟨e, n⟩
  · rw [e]
  · rw [e]
    unfold rkK
    rw [n]; rfl
def zrL (B : Nat → Bo) (n : Nat) : List Int := (nums (fun i => mayO (B i)) n).map fun i => zrk (B i)
def srtZ (l : List Int) : List Int := l.mergeSort fun a b => decide (a ≤ b)
theorem srtZ_perm (l : List Int) : (srtZ l).Perm l := List.mergeSort_perm l _
theorem srtZ_pw (l : List Int) : (srtZ l).Pairwise (· ≤ ·) := by
  have := List.pairwise_mergeSort (le := fun a b : Int => decide (a ≤ b)) (fun a b c h1 h2 => by simp at *; omega) (fun a b => by simp; omega) l
  exact this.imp fun h => by simpa using h
theorem pw_uniq : ∀ {l l' : List Int}, l.Perm l' → l.Pairwise (· ≤ ·) → l'.Pairwise (· ≤ ·) → l = l'
  | [], l', h, _, _ => (List.Perm.nil_eq h)
  | a :: l, l', h, h1, h2 => by
    cases l' with
    | nil => exact absurd h.symm.nil_eq (by simp)
    | cons b l' =>
      obtain ⟨p1, q1⟩ := List.pairwise_cons.1 h1
      obtain ⟨p2, q2⟩ := List.pairwise_cons.1 h2
      have hab : a = b := by
        have ha : a ∈ b :: l' := h.mem_iff.1 (List.mem_cons_self ..)
        have hb : b ∈ a :: l := h.mem_iff.2 (List.mem_cons_self ..)
        rcases List.mem_cons.1 ha with e | e
        · exact e
        · rcases List.mem_cons.1 hb with e' | e'
          · exact e'.symm
          · have := p1 b e'; have := p2 a e; omega
      subst hab
      rw [pw_uniq (List.Perm.cons_inv h) q1 q2]
/-- what Width answers -/
def midW (l : List Int) : Nat := match (srtZ l)[(l.length - 1) / 2]? with | some z => pwR z | none => 4607182418800017408
def gwW (B : Nat → Bo) (n : Nat) : Nat := if 16384 < n then 0 else midW (zrL B n)
abbrev Ow := { x : Nat // okK .f64 x }
def encO (x : Ow) : Value := .float .f64 x.1
def cfO (x y : Ow) : Int := ordK x.1 y.1
theorem lt_cfO (x y : Ow) : ltOf cfO x y = decide (rkK x.1 < rkK y.1) := by
  unfold ltOf cfO
  rw [ord_rk x.1 y.1 x.2 y.2]
  by_cases h1 : rkK x.1 < rkK y.1
  · simp [h1]
  · by_cases h2 : rkK y.1 < rkK x.1 <;> simp [h1, h2]
theorem swo_cfO : SWO (ltOf cfO) where
  irrefl x := by rw [lt_cfO]; simp
  trans x y z h1 h2 := by rw [lt_cfO] at *; simp at *; omega
  ntrans x y z h1 h2 := by rw [lt_cfO] at *; simp at *; omega
def fRow (L : List Nat) : List Value := L.map fun x => .float .f64 x
theorem fRow_app (L M : List Nat) : fRow (L ++ M) = fRow L ++ fRow M := by simp [fRow]
theorem withOk (l : List Nat) (h : ∀ x ∈ l, okK .f64 x) : ∃ m : List Ow, m.map (·.1) = l := withP (fun x => okK .f64 x) l h
theorem map_encO (l : List Ow) : l.map encO = fRow (l.map (·.1)) := by simp [fRow, encO]
end Go.Proofs.Ytekhnolpgoejdab
namespace Go.Proofs.Ytekhnolpgoejdab
open Ieee Go.RowKit
set_option linter.unusedSimpArgs false
set_option linter.unusedVariables false

/-! ### The cell of a place, as the document reckons it -/
theorem neg53 : Op.negFloat .f64 4845873199050653696 = loW := by decide +kernel
theorem hi53 : (4845873199050653696 : Nat) = hiW := rfl
theorem within53 {f : Nat} (n : nanK .f64 f = false) : withinK .f64 f 4845873199050653696 = decide (-4845873199050653696 ≤ woK .f64 f ∧ woK .f64 f ≤ 4845873199050653696) := by
  unfold withinK
  rw [neg53, hi53]
  unfold leK
  rw [n, lo_nan, hi_nan, lo_wo, hi_wo]
  simp
theorem abs53 {f : Nat} (n : nanK .f64 f = false) : ltK .f64 4845873199050653696 (rgK .f64 f) = !withinK .f64 f 4845873199050653696 := by
  rw [within53 n]
  have r1 : rgK .f64 (rgK .f64 f) = rgK .f64 f := by rw [rg64, rg64]; omega
  have r2 : ngK .f64 (rgK .f64 f) = false := by rw [ng64, rg64, beq_eq_false_iff_ne]; omega
  have r3 : nanK .f64 (rgK .f64 f) = false := by rw [nanK_eq, r1, ← nanK_eq]; exact n
  have w1 : woK .f64 (rgK .f64 f) = (rgK .f64 f : Int) := by rw [woK_eq, r1, r2]; rfl
  unfold ltK
  rw [r3, hi53, hi_nan, hi_wo, w1]
  have hw := woK_eq .f64 f
  obtain ⟨W, hW⟩ : ∃ W, woK .f64 f = W := ⟨_, rfl⟩
  rw [hW] at hw ⊢
  obtain ⟨R, hR⟩ : ∃ R, rgK .f64 f = R := ⟨_, rfl⟩
  rw [hR] at hw ⊢
  have : (4845873199050653696 : Int) < (R : Int) ↔ ¬ (-4845873199050653696 ≤ W ∧ W ≤ 4845873199050653696) := by
    rw [hw]
    cases ngK .f64 f <;> simp <;> omega
  simp only [Bool.not_false, Bool.true_and, ← decide_not]
  exact decide_eq_decide.2 this
theorem co_in {x d : Nat} (n : nanK .f64 x = false) (h : mayW d = true) (hw : withinK .f64 (flK (Dv .quo x d)) 4845873199050653696 = true) : (FloatKind.f64.decode (flK (Dv .quo x d))).toInt .zero = some (coK x d) := by
  obtain ⟨a, b, nf, e, _⟩ := co_all n h
  rw [within53 nf] at hw
  have hw := of_decide_eq_true hw
  have hb := in_bounds hw.2 hw.1
  obtain ⟨_, f⟩ := cl_wo nf
  have hc := in_bounds (x := coW x d) (by unfold coW; rw [f]; omega) (by unfold coW; rw [f]; omega)
  rw [(toI_fin hb.1).1]
  congr 1
  have h1 := toI_mono hb.1 hc.1 (by unfold coW; rw [f]; omega)
  have h2 := toI_mono hc.1 hb.1 (by unfold coW; rw [f]; omega)
  unfold coK
  omega
end Go.Proofs.Ytekhnolpgoejdab
