/-
  Plain facts on floats, more: rounding to the nearest rung, sums and products of finite floats, signs turned. No program is named here.
-/
import Derived.Test.YtoljkokcgmigeaaFrames
namespace Go.Proofs.Ytoljkokcgmigeaa
open Ieee Go.RowKit

/-! ### Frames: the same where they are given the same -/
theorem UndoR.ok {x y u v r i : Nat} (h : UndoR x y u v r i) : okK .f64 r ∧ okK .f64 i := by
  obtain ⟨a, b, c, d, h1, h2, h3, h4, h5, h6⟩ := h
  exact ⟨h5.1, h6.1⟩
theorem UndoR.sm2 {x y u v u' v' r i r' i' : Nat} (hu : smK .f64 u u' = true) (hv : smK .f64 v v' = true) (h : UndoR x y u v r i) (g : UndoR x y u' v' r' i') : smK .f64 r r' = true ∧ smK .f64 i i' = true := by
  obtain ⟨a, b, c, d, h1, h2, h3, h4, h5, h6⟩ := h
  obtain ⟨a', b', c', d', g1, g2, g3, g4, g5, g6⟩ := g
  have s := smK_self .f64
  exact ⟨res_congr (res_congr (s _) hu h1 g1) (res_congr (s _) hv h2 g2) h5 g5, res_congr (res_congr (s _) hv h3 g3) (res_congr (s _) hu h4 g4) h6 g6⟩
theorem UndoR.sm {x y u v r i r' i' : Nat} (h : UndoR x y u v r i) (g : UndoR x y u v r' i') : smK .f64 r r' = true ∧ smK .f64 i i' = true := h.sm2 (smK_self _ _) (smK_self _ _) g
theorem ToR.ok {X Y x y u v tx ty : Nat} (h : ToR X Y x y u v tx ty) : okK .f64 tx ∧ okK .f64 ty := by
  obtain ⟨A, B, _, h1, h2⟩ := h
  exact ⟨h1.1, h2.1⟩
theorem ToR.sm {X Y x y u v tx ty tx' ty' : Nat} (h : ToR X Y x y u v tx ty) (g : ToR X Y x y u v tx' ty') : smK .f64 tx tx' = true ∧ smK .f64 ty ty' = true := by
  obtain ⟨A, B, h0, h1, h2⟩ := h
  obtain ⟨A', B', g0, g1, g2⟩ := g
  have e := h0.sm g0
  exact ⟨res_congr (smK_self _ _) e.1 h1 g1, res_congr (smK_self _ _) e.2 h2 g2⟩
theorem OwnR.ok {X Y x y u v r i : Nat} (h : OwnR X Y x y u v r i) : okK .f64 r ∧ okK .f64 i := by
  obtain ⟨A, B, _, _, h⟩ := h
  exact h.ok
theorem OwnR.sm {X Y x y u v r i r' i' : Nat} (h : OwnR X Y x y u v r i) (g : OwnR X Y x y u v r' i') : smK .f64 r r' = true ∧ smK .f64 i i' = true := by
  obtain ⟨A, B, h1, h2, h0⟩ := h
  obtain ⟨A', B', g1, g2, g0⟩ := g
  exact h0.sm2 (res_congr (smK_self _ _) (smK_self _ _) h1 g1) (res_congr (smK_self _ _) (smK_self _ _) h2 g2) g0
end Go.Proofs.Ytoljkokcgmigeaa
