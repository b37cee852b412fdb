/-
  Plain facts on floats, more: rounding to the nearest rung, sums and products of finite floats, signs turned. No program is named here.
-/
import Derived.Test.YtglndoncaammlaaOnce
namespace Go.Proofs.Ytglndoncaammlaa
open Ieee Go.RowKit
set_option linter.unusedSimpArgs false
set_option linter.unusedVariables false

def putN (R : Nat) : Nat → Value → World → World
  | 0, _, W => W
  | k + 1, v, W => (putN R k v W).setCell ⟨R, k, none⟩ (cellAt v k)
theorem putN_far {R : Nat} {v : Value} {W : World} {a : Addr} : ∀ n, a.block ≠ R → (putN R n v W).cell? a = W.cell? a := by
  intro n
  induction n with
  | zero => intro _; rfl
  | succ n ih =>
    intro h
    refine Eq.trans ?_ (ih h)
    apply World.cell?_setCell_other
    rintro rfl
    exact h rfl
theorem putN_bel {w0 W : World} {R : Nat} {v : Value} (h : Bel w0 W) (hR : w0.heap.size ≤ R) : ∀ n, Bel w0 (putN R n v W) := by
  intro n
  induction n with
  | zero => exact h
  | succ n ih => exact bl_set ih hR
theorem putN_off {R i : Nat} {v : Value} {W : World} : ∀ n, n ≤ i → (putN R n v W).cell? ⟨R, i, none⟩ = W.cell? ⟨R, i, none⟩ := by
  intro n
  induction n with
  | zero => intro _; rfl
  | succ n ih =>
    intro h
    refine Eq.trans ?_ (ih (by omega))
    apply World.cell?_setCell_other
    intro e
    injection e
    omega
theorem putN_at {R : Nat} {v : Value} {W : World} : ∀ n, (∀ i, i < n → (W.cell? ⟨R, i, none⟩).isSome = true) → ∀ i, i < n → (putN R n v W).cell? ⟨R, i, none⟩ = some (cellAt v i) := by
  intro n
  induction n with
  | zero => intro _ i hi; omega
  | succ n ih =>
    intro h i hi
    by_cases e : i = n
    · subst e
      obtain ⟨u, hu⟩ := Option.isSome_iff_exists.1 (h i (by omega))
      exact World.cell?_setCell_same _ _ _ ((putN_off i (Nat.le_refl _)).trans hu)
    · refine Eq.trans ?_ (ih (fun j hj => h j (by omega)) i (by omega))
      apply World.cell?_setCell_other
      intro e'
      injection e'
      omega
theorem once_keepN {w W : World} {R n : Nat} {Rl : Value → Prop} {a : Addr} {v : Value} (h : Once w (putN R n) Rl W) (hz : w.cell? a = some v) (hne : a.block ≠ R) : W.cell? a = some v := by
  have key : ∀ {p q : World}, Bel p q → p.cell? a = some v → q.cell? a = some v := fun hb hc => (hb.1.cell (World.block_lt_of_cell? _ _ hc)).trans hc
  rcases h with h | ⟨u, W0, _, h1, h2⟩
  · exact key h hz
  · exact key h2 ((putN_far n hne).trans (key h1 hz))
end Go.Proofs.Ytglndoncaammlaa
