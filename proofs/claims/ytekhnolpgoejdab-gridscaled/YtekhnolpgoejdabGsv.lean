/-
  Plain facts on floats, more: rounding to the nearest rung, sums and products of finite floats, signs turned. No program is named here.
-/
import Derived.Test.YtekhnolpgoejdabGsu
namespace Go.Proofs.Ytekhnolpgoejdab
open Ieee Go.RowKit
set_option linter.unusedSimpArgs false
set_option linter.unusedVariables false

/-! ### The pairs of a cell -/
abbrev Sp4 := (Int × Int) × (Int × Int)
def firstC (a b : Sp4) : Int × Int := (max a.1.1 b.1.1, max a.1.2 b.1.2)
def cpL (B : Nat → Bo) (S : Nat → Sp4) (c : Ce) (i : Nat) (R : List Nat) : List (Nat × Nat) := (R.filter fun k => ovO (B i) (B k) && decide (firstC (S i) (S k) = c)).map fun k => (i, k)
def ccL (B : Nat → Bo) (S : Nat → Sp4) (c : Ce) (R : List Nat) : Nat → List (Nat × Nat)
  | 0 => []
  | t + 1 => ccL B S c R t ++ (match R[t]? with | some i => cpL B S c i (R.drop (t + 1)) | none => [])
theorem ccL_at {B : Nat → Bo} {S : Nat → Sp4} {c : Ce} {R : List Nat} {t i : Nat} (h : R[t]? = some i) : ccL B S c R (t + 1) = ccL B S c R t ++ cpL B S c i (R.drop (t + 1)) := by rw [ccL, h]
theorem cpL_snoc (B : Nat → Bo) (S : Nat → Sp4) (c : Ce) (i k : Nat) (R : List Nat) : cpL B S c i (R ++ [k]) = cpL B S c i R ++ (if ovO (B i) (B k) && decide (firstC (S i) (S k) = c) then [(i, k)] else []) := by
  unfold cpL
  rw [List.filter_append, List.map_append]
  congr 1
  cases h : (ovO (B i) (B k) && decide (firstC (S i) (S k) = c)) <;> simp [h]
theorem cpL_pre {B : Nat → Bo} {S : Nat → Sp4} {c : Ce} {i : Nat} {R : List Nat} (t : Nat) : (cpL B S c i (R.take t)).length ≤ (cpL B S c i R).length := by
  unfold cpL
  rw [List.length_map, List.length_map]
  exact List.Sublist.length_le (List.Sublist.filter _ (List.take_sublist t R))
theorem ccL_pre {B : Nat → Bo} {S : Nat → Sp4} {c : Ce} {R : List Nat} : ∀ {t m : Nat}, t ≤ m → (ccL B S c R t).length ≤ (ccL B S c R m).length
  | t, 0, h => by rw [show t = 0 by omega]; exact Nat.le_refl _
  | t, m + 1, h => by
    rcases Nat.lt_or_ge t (m + 1) with h' | h'
    · have := ccL_pre (B := B) (S := S) (c := c) (R := R) (show t ≤ m by omega)
      rw [ccL, List.length_append]; omega
    · rw [show t = m + 1 by omega]; exact Nat.le_refl _
/-- spans of those that lie -/
def SpS (w : World) (sb : Nat) (S : Nat → Sp4) (V : Nat → Bool) (n : Nat) : Prop := ∀ i, i < n → V i = true → w.cell? ⟨sb, i * 4, none⟩ = some (.int .i64 (S i).1.1) ∧ w.cell? ⟨sb, i * 4 + 1, none⟩ = some (.int .i64 (S i).1.2) ∧ w.cell? ⟨sb, i * 4 + 2, none⟩ = some (.int .i64 (S i).2.1) ∧ w.cell? ⟨sb, i * 4 + 3, none⟩ = some (.int .i64 (S i).2.2)
theorem SpS.sta {w w' : World} {N sb n : Nat} {K : Nat → Prop} {S : Nat → Sp4} {V : Nat → Bool} (h : SpS w sb S V n) (s : Sta N K w w') (hs : sb < N) (hk : ¬ K sb) : SpS w' sb S V n := fun i hi hv => by
  obtain ⟨h1, h2, h3, h4⟩ := h i hi hv
  exact ⟨(s.cell hs hk).trans h1, (s.cell hs hk).trans h2, (s.cell hs hk).trans h3, (s.cell hs hk).trans h4⟩
theorem SpS.bel {w w' : World} {sb n : Nat} {S : Nat → Sp4} {V : Nat → Bool} (h : SpS w sb S V n) (b : Bel w w') : SpS w' sb S V n := fun i hi hv => by
  obtain ⟨h1, h2, h3, h4⟩ := h i hi hv
  exact ⟨keepB b h1, keepB b h2, keepB b h3, keepB b h4⟩
end Go.Proofs.Ytekhnolpgoejdab
