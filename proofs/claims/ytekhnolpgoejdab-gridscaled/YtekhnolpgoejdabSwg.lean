/-
  Plain facts on floats, more: rounding to the nearest rung, sums and products of finite floats, signs turned. No program is named here.
-/
import Derived.Test.YtekhnolpgoejdabSwt
namespace Go.Proofs.Ytekhnolpgoejdab
open Ieee Go.RowKit Go.Sort Go.WideShapes Go.Shelf Go.Lib
set_option linter.unusedSimpArgs false
set_option linter.unusedVariables false

/-! ### rows of boxes, cell by cell -/
def bSel (x : Bo) (k : Nat) : Nat := if k = 0 then x.1 else if k = 1 then x.2.1 else if k = 2 then x.2.2.1 else x.2.2.2
def bRow (B : Nat → Bo) (n : Nat) : List Value := (List.range (n * 4)).map fun j => .float .f64 (bSel (B (j / 4)) (j % 4))
theorem bRow_length (B : Nat → Bo) (n : Nat) : (bRow B n).length = n * 4 := by simp [bRow]
theorem bRow_one (B : Nat → Bo) (n : Nat) : ∀ u ∈ bRow B n, u.oneCell' = true := by
  intro u hu
  obtain ⟨i, _, rfl⟩ := List.mem_map.1 hu
  rfl
theorem bRow_get (B : Nat → Bo) (n j : Nat) (h : j < n * 4) : (bRow B n)[j]? = some (.float .f64 (bSel (B (j / 4)) (j % 4))) := by simp [bRow, h]
theorem bs_rw {w : World} {b off n : Nat} {B : Nat → Bo} (h : Bs w b off n B) : Rw w b off (bRow B n) := by
  intro j u hj
  have hl : j < n * 4 := by
    rcases Nat.lt_or_ge j (n * 4) with h' | h'
    · exact h'
    · rw [List.getElem?_eq_none (by rw [bRow_length]; exact h')] at hj; cases hj
  rw [bRow_get B n j hl] at hj
  simp only [Option.some.injEq] at hj
  subst hj
  obtain ⟨h0, h1, h2, h3⟩ := h (j / 4) (by omega)
  have hm : j % 4 = 0 ∨ j % 4 = 1 ∨ j % 4 = 2 ∨ j % 4 = 3 := by omega
  rcases hm with e | e | e | e
  · rw [e, show off + j = off + j / 4 * 4 by omega]; exact h0
  · rw [e, show off + j = off + j / 4 * 4 + 1 by omega]; exact h1
  · rw [e, show off + j = off + j / 4 * 4 + 2 by omega]; exact h2
  · rw [e, show off + j = off + j / 4 * 4 + 3 by omega]; exact h3
theorem rw_bs {w : World} {b off n : Nat} {B : Nat → Bo} (h : Rw w b off (bRow B n)) : Bs w b off n B := by
  intro i hi
  have q : ∀ k, k < 4 → w.cell? ⟨b, off + (i * 4 + k), none⟩ = some (.float .f64 (bSel (B i) k)) := fun k hk => by
    have := h (i * 4 + k) (.float .f64 (bSel (B ((i * 4 + k) / 4)) ((i * 4 + k) % 4))) (bRow_get B n _ (by omega))
    rwa [show (i * 4 + k) / 4 = i by omega, show (i * 4 + k) % 4 = k by omega] at this
  exact ⟨q 0 (by omega), q 1 (by omega), q 2 (by omega), q 3 (by omega)⟩
theorem Rw.left {w : World} {b off : Nat} {R S : List Value} (h : Rw w b off (R ++ S)) : Rw w b off R := fun j u hj => h j u (by rw [List.getElem?_append_left]; exact hj; (rcases Nat.lt_or_ge j R.length with h' | h'; exact h'; rw [List.getElem?_eq_none h'] at hj; cases hj))
/-- boxes that were lent: in memory of their own, with a mark behind -/
def LenB (w : World) (g n : Nat) (B : Nat → Bo) : Prop := Bs w g 0 n B ∧ w.cell? ⟨g, n * 4, none⟩ = some (.float .f64 4635118810238550016) ∧ w.cell? ⟨g, n * 4 + 1, none⟩ = some (.float .f64 0) ∧ w.cell? ⟨g, n * 4 + 2, none⟩ = some (.float .f64 0) ∧ w.cell? ⟨g, n * 4 + 3, none⟩ = some (.float .f64 0)
theorem LenB.below {w w' : World} {g n : Nat} {B : Nat → Bo} (h : LenB w g n B) (b : Below w.heap.size w w') : LenB w' g n B := by
  have hl := World.block_lt_of_cell? _ _ h.2.1
  exact ⟨h.1.below b, below_get b hl h.2.1, below_get b hl h.2.2.1, below_get b hl h.2.2.2.1, below_get b hl h.2.2.2.2⟩
theorem own_lenB {base n c g : Nat} {w : World} {B : Nat → Bo} (h : OwnR 4 base w (.slice (some ⟨g, 0, none⟩) (n + 1) c) (n + 1) (bRow B n ++ [.float .f64 4635118810238550016, .float .f64 0, .float .f64 0, .float .f64 0])) : base ≤ g ∧ n + 1 ≤ c ∧ c ≤ maxLen ∧ LenB w g n B ∧ g < w.heap.size := by
  obtain ⟨h1, h2, h3, h4, h5, h6⟩ := own_parts h
  have q : ∀ k u, k < 4 → ([.float .f64 4635118810238550016, .float .f64 0, .float .f64 0, .float .f64 0] : List Value)[k]? = some u → w.cell? ⟨g, n * 4 + k, none⟩ = some u := fun k u hk hu => by
    have := h4 (n * 4 + k) u (by rw [List.getElem?_append_right (by rw [bRow_length]; omega), bRow_length, Nat.add_sub_cancel_left]; exact hu)
    rwa [Nat.zero_add] at this
  have q0 := q 0 _ (by omega) rfl
  exact ⟨h1, h2, h3, ⟨rw_bs h4.left, q0, q 1 _ (by omega) rfl, q 2 _ (by omega) rfl, q 3 _ (by omega) rfl⟩, World.block_lt_of_cell? _ _ q0⟩
end Go.Proofs.Ytekhnolpgoejdab
