/-
  Plain facts on floats, more: rounding to the nearest rung, sums and products of finite floats, signs turned. No program is named here.
-/
import Derived.Test.YtekhnolpgoejdabGst
namespace Go.Proofs.Ytekhnolpgoejdab
open Ieee Go.RowKit
set_option linter.unusedSimpArgs false
set_option linter.unusedVariables false

/-! ### The pairs of wide boxes -/
def wdL (B : Nat → Bo) (Wd Sm : List Nat) : Nat → List (Nat × Nat)
  | 0 => []
  | t + 1 => wdL B Wd Sm t ++ (match Wd[t]? with | some i => pwL B i (Wd.drop (t + 1)) ++ pwL B i Sm | none => [])
theorem wdL_at {B : Nat → Bo} {Wd Sm : List Nat} {t i : Nat} (h : Wd[t]? = some i) : wdL B Wd Sm (t + 1) = (wdL B Wd Sm t ++ pwL B i (Wd.drop (t + 1))) ++ pwL B i Sm := by
  rw [wdL, h, List.append_assoc]
theorem wdL_len {B : Nat → Bo} {Wd Sm : List Nat} : ∀ t, (wdL B Wd Sm t).length ≤ t * (Wd.length + Sm.length)
  | 0 => by simp [wdL]
  | t + 1 => by
    have ih := wdL_len (B := B) (Wd := Wd) (Sm := Sm) t
    rw [wdL, List.length_append, Nat.add_mul, Nat.one_mul]
    have : (match Wd[t]? with | some i => pwL B i (Wd.drop (t + 1)) ++ pwL B i Sm | none => []).length ≤ Wd.length + Sm.length := by
      split
      · rw [List.length_append]
        rename_i i _
        have h1 := pwL_len B i (Wd.drop (t + 1))
        have h2 := pwL_len B i Sm
        rw [List.length_drop] at h1
        omega
      · simp
    omega
theorem RowN.drop {w : World} {N : Nat} {K : Nat → Prop} {g o : Nat} {R : List Nat} (h : RowN w N K (some ⟨g, o, none⟩) R) (j : Nat) : RowN w N K (some ⟨g, o + j, none⟩) (R.drop j) := by
  rcases h with h | ⟨g', o', e, hg, hk, h⟩
  · left; rw [h]; simp
  · cases e; exact .inr ⟨g, o + j, rfl, hg, hk, h.drop j⟩
end Go.Proofs.Ytekhnolpgoejdab
