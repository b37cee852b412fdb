/-
  Plain facts on floats, more: rounding to the nearest rung, sums and products of finite floats, signs turned. No program is named here.
-/
import Derived.Test.YtfohggiehbplkaaGeo
namespace Go.Proofs.Ytfohggiehbplkaa
open Ieee Go.RowKit

end Go.Proofs.Ytfohggiehbplkaa
namespace Go.Proofs.Ytfohggiehbplkaa
open Ieee Go.RowKit

theorem eq_zero_bd {r : Nat} (o : okK .f64 r) (h : eqK .f64 r 0 = true) (n : Nat) : Bd n r := by
  unfold eqK at h
  rw [Bool.and_eq_true, Bool.and_eq_true] at h
  have h3 := of_decide_eq_true h.2
  have hr : rgK .f64 r = 0 := by
    rw [woK_eq, woK_eq] at h3
    rw [show ngK .f64 0 = false by decide +kernel, show rgK .f64 0 = 0 by decide +kernel] at h3
    split at h3 <;> simp at h3 <;> omega
  have em : av r = 0 := by unfold av mg; rw [hr]; decide +kernel
  refine ⟨o, ?_, by rw [em]; exact Rat.le_trans (by decide) (two_ge1 n)⟩
  unfold finK
  rw [hr]
  decide +kernel
end Go.Proofs.Ytfohggiehbplkaa
