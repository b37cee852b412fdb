/-
  Plain facts on floats, more: rounding to the nearest rung, sums and products of finite floats, signs turned. No program is named here.
-/
import Derived.Test.YtglndoncaammlaaOnce
namespace Go.Proofs.Ytglndoncaammlaa
open Ieee Go.RowKit
set_option linter.unusedSimpArgs false
set_option linter.unusedVariables false

/-! ### A store of n cells into one block, as one world -/
def putN (R : Nat) : Nat → Value → World → World
  | 0, _, W => W
  | k + 1, v, W => (putN R k v W).setCell ⟨R, k, none⟩ (cellAt v k)
theorem putN_far {R : Nat} {v : Value} {W : World} {a : Addr} : ∀ n, a.block ≠ R → (putN R n v W).cell? a = W.cell? a := by
  intro n
  induction n with
  | zero => intro _; rfl
  | succ n ih =>
    intro h
    refine Eq.trans ?_ (ih h)
    apply World.cell?_setCell_other
    rintro rfl
    exact h rfl
theorem putN_bel {w0 W : World} {R : Nat} {v : Value} (h : Bel w0 W) (hR : w0.heap.size ≤ R) : ∀ n, Bel w0 (putN R n v W) := by
  intro n
  induction n with
  | zero => exact h
  | succ n ih => exact bl_set ih hR
theorem putN_off {R i : Nat} {v : Value} {W : World} : ∀ n, n ≤ i → (putN R n v W).cell? ⟨R, i, none⟩ = W.cell? ⟨R, i, none⟩ := by
  intro n
  induction n with
  | zero => intro _; rfl
  | succ n ih =>
    intro h
    refine Eq.trans ?_ (ih (by omega))
    apply World.cell?_setCell_other
    intro e
    injection e
    omega
theorem putN_at {R : Nat} {v : Value} {W : World} : ∀ n, (∀ i, i < n → (W.cell? ⟨R, i, none⟩).isSome = true) → ∀ i, i < n → (putN R n v W).cell? ⟨R, i, none⟩ = some (cellAt v i) := by
  intro n
  induction n with
  | zero => intro _ i hi; omega
  | succ n ih =>
    intro h i hi
    by_cases e : i = n
    · subst e
      obtain ⟨u, hu⟩ := Option.isSome_iff_exists.1 (h i (by omega))
      exact World.cell?_setCell_same _ _ _ ((putN_off i (Nat.le_refl _)).trans hu)
    · refine Eq.trans ?_ (ih (fun j hj => h j (by omega)) i (by omega))
      apply World.cell?_setCell_other
      intro e'
      injection e'
      omega
theorem putN2_eq {R : Nat} {v0 v1 : Value} {W : World} : putN R 2 (.agg #[v0, v1]) W = ((W.setCell ⟨R, 0, none⟩ v0).setCell ⟨R, 1, none⟩ v1) := by simp [putN, cellAt, Array.getD]
theorem putN3_eq {R : Nat} {v0 v1 v2 : Value} {W : World} : putN R 3 (.agg #[v0, v1, v2]) W = (((W.setCell ⟨R, 0, none⟩ v0).setCell ⟨R, 1, none⟩ v1).setCell ⟨R, 2, none⟩ v2) := by simp [putN, cellAt, Array.getD]
theorem putN4_eq {R : Nat} {v0 v1 v2 v3 : Value} {W : World} : putN R 4 (.agg #[v0, v1, v2, v3]) W = ((((W.setCell ⟨R, 0, none⟩ v0).setCell ⟨R, 1, none⟩ v1).setCell ⟨R, 2, none⟩ v2).setCell ⟨R, 3, none⟩ v3) := by simp [putN, cellAt, Array.getD]
theorem putN5_eq {R : Nat} {v0 v1 v2 v3 v4 : Value} {W : World} : putN R 5 (.agg #[v0, v1, v2, v3, v4]) W = (((((W.setCell ⟨R, 0, none⟩ v0).setCell ⟨R, 1, none⟩ v1).setCell ⟨R, 2, none⟩ v2).setCell ⟨R, 3, none⟩ v3).setCell ⟨R, 4, none⟩ v4) := by simp [putN, cellAt, Array.getD]
theorem putN6_eq {R : Nat} {v0 v1 v2 v3 v4 v5 : Value} {W : World} : putN R 6 (.agg #[v0, v1, v2, v3, v4, v5]) W = ((((((W.setCell ⟨R, 0, none⟩ v0).setCell ⟨R, 1, none⟩ v1).setCell ⟨R, 2, none⟩ v2).setCell ⟨R, 3, none⟩ v3).setCell ⟨R, 4, none⟩ v4).setCell ⟨R, 5, none⟩ v5) := by simp [putN, cellAt, Array.getD]
theorem once_keepN {w W : World} {R n : Nat} {Rl : Value → Prop} {a : Addr} {v : Value} (h : Once w (putN R n) Rl W) (hz : w.cell? a = some v) (hne : a.block ≠ R) : W.cell? a = some v := by
  have key : ∀ {p q : World}, Bel p q → p.cell? a = some v → q.cell? a = some v := fun hb hc => (hb.1.cell (World.block_lt_of_cell? _ _ hc)).trans hc
  rcases h with h | ⟨u, W0, _, h1, h2⟩
  · exact key h hz
  · exact key h2 ((putN_far n hne).trans (key h1 hz))
theorem once_belN {w0 w W : World} {R n : Nat} {Rl : Value → Prop} (h : Once w (putN R n) Rl W) (hb : Bel w0 w) (hR : w0.heap.size ≤ R) : Bel w0 W := by
  rcases h with h | ⟨u, W0, _, h1, h2⟩
  · exact bl_trans hb h
  · exact bl_trans (putN_bel (bl_trans hb h1) hR n) h2
end Go.Proofs.Ytglndoncaammlaa
