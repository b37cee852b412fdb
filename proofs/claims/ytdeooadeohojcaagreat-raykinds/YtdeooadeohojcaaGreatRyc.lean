/-
  Plain facts on floats, more: rounding to the nearest rung, sums and products of finite floats, signs turned. No program is named here.
-/
import Derived.Test.YtdeooadeohojcaaGreatRyb
namespace Go.Proofs.YtdeooadeohojcaaGreat
open Ieee Go.RowKit
set_option linter.unusedSimpArgs false
set_option linter.unusedVariables false

abbrev Hb := Bool × Ht
/-- what is kept, once one more was told -/
def cpT (s x : Hb) : Hb := pkF (x.1 && (!s.1 || ltK .f64 x.2.2.2 s.2.2.2)) (true, x.2) s
def cpO (A B : Vp) (R : Nat) : Vp := scF (lfP (uvF (suF B A))) R
def cpA (A B : Vp) (R : Nat) (F Y : Vp) : Nat → Hb
  | 0 => (false, zeH)
  | 1 => cpT (false, zeH) (ciX A R F Y)
  | _ => cpT (cpT (false, zeH) (ciX A R F Y)) (ciX B R F Y)
def cpS (A B : Vp) (R : Nat) (F Y : Vp) : Nat → Hb
  | 0 => cpA A B R F Y 2
  | 1 => cpT (cpA A B R F Y 2) (sgX (adF A (cpO A B R)) (adF B (cpO A B R)) F Y)
  | _ => cpT (cpT (cpA A B R F Y 2) (sgX (adF A (cpO A B R)) (adF B (cpO A B R)) F Y)) (sgX (suF A (cpO A B R)) (suF B (cpO A B R)) F Y)
theorem cpT_no {s x : Hb} (h : x.1 = false) : cpT s x = s := by unfold cpT; rw [h, Bool.false_and, pkF_no rfl]
theorem cpT_0 {s x : Hb} (h : x.1 = true) (g : s.1 = false) : cpT s x = (true, x.2) := by unfold cpT; rw [h, g]; rfl
theorem cpT_1 {s x : Hb} (h : x.1 = true) (g : s.1 = true) (l : ltK .f64 x.2.2.2 s.2.2.2 = true) : cpT s x = (true, x.2) := by unfold cpT; rw [h, g, l]; rfl
theorem cpT_2 {s x : Hb} (h : x.1 = true) (g : s.1 = true) (l : ltK .f64 x.2.2.2 s.2.2.2 = false) : cpT s x = s := by unfold cpT; rw [h, g, l]; rfl
theorem cpA_s {xs ys : Nat → Nat} {R : Nat} {F Y : Vp} {k : Nat} (h : k < 2) : cpA (sdA xs ys 0) (sdA xs ys 1) R F Y (k + 1) = cpT (cpA (sdA xs ys 0) (sdA xs ys 1) R F Y k) (ciX (sdA xs ys k) R F Y) := by
  rcases (show k = 0 ∨ k = 1 by omega) with rfl | rfl <;> rfl
end Go.Proofs.YtdeooadeohojcaaGreat
