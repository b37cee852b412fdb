/-
  Plain facts that go together.
-/
import Derived.Test.YtfaiaepkmlmoaaaGreatVec
import Derived.Test.YtfaiaepkmlmoaaaGreatPh
import Derived.Below
import Derived.Laws.AppendOwn
import Derived.Laws.IdiomCopy
import Derived.OwnWalk
import Derived.WideShapes
import Derived.WalkKit
import Derived.WalkLawsBesides
import Derived.WalkSpells
import Derived.ProofKit
import Derived.OpenShut
import Derived.Deep.RegionHeld3
import Derived.Lib.SliceRun
import Derived.WalkMore
namespace Go.Proofs.YtfaiaepkmlmoaaaGreat
open Go.ChangeShapes Go.WideShapes Go.ChangeAt Go.RowKit
set_option linter.unusedVariables false
set_option linter.unusedSimpArgs false


theorem px_app1 (L M : List Pt) : ∀ i, i < L.length → px (L ++ M) i = px L i := fun i hi => by
  unfold px pt; rw [List.getD_eq_getElem?_getD, List.getD_eq_getElem?_getD, List.getElem?_append_left hi]
theorem py_app1 (L M : List Pt) : ∀ i, i < L.length → py (L ++ M) i = py L i := fun i hi => by
  unfold py pt; rw [List.getD_eq_getElem?_getD, List.getD_eq_getElem?_getD, List.getElem?_append_left hi]
/-- a row of the call's own, of points -/
def Own (base : Nat) (w : World) (v : Value) (L : List Pt) : Prop :=
  (v = .slice none 0 0 ∧ L = []) ∨ ∃ g cap, v = .slice (some ⟨g, 0, none⟩) L.length cap ∧ base ≤ g ∧ L.length ≤ cap ∧ cap ≤ maxLen ∧ Sl w g 0 L.length (px L) (py L) ∧ (∀ j, j < cap * 2 → (w.cell? ⟨g, j, none⟩).isSome = true) ∧ ∀ o, w.frozen? ⟨g, o, none⟩ = false
theorem Own.nil (base : Nat) (w : World) : Own base w (.slice none 0 0) [] := .inl ⟨rfl, rfl⟩
theorem Own.bel {base : Nat} {w w' : World} {v : Value} {L : List Pt} (h : Own base w v L) (g : Bel w w') : Own base w' v L := by
  rcases h with h | ⟨k, cap, e, h1, h2, h3, h4, h5, h6⟩
  · exact .inl h
  · refine .inr ⟨k, cap, e, h1, h2, h3, h4.bel g, fun j hj => ?_, fun o => (g.2 _).trans (h6 o)⟩
    obtain ⟨u, hu⟩ := Option.isSome_iff_exists.1 (h5 j hj)
    rw [keep g hu]; rfl
end Go.Proofs.YtfaiaepkmlmoaaaGreat

namespace Go.Proofs.YtfaiaepkmlmoaaaGreat
open Go.ChangeShapes Go.WideShapes Go.ChangeAt Go.RowKit
set_option linter.unusedVariables false
set_option linter.unusedSimpArgs false


theorem pt_end (L : List Pt) (p : Pt) : pt (L ++ [p]) L.length = p := by
  unfold pt; rw [List.getD_eq_getElem?_getD, List.getElem?_append_right (Nat.le_refl _), Nat.sub_self]; rfl
theorem Sl.put {w : World} {b off m : Nat} {D : List Pt} {p : Pt} (hD : D.length = m) (h : Sl w b off m (px D) (py D)) (x0 : (w.cell? ⟨b, off + m * 2, none⟩).isSome = true) (x1 : (w.cell? ⟨b, off + m * 2 + 1, none⟩).isSome = true) :
    Sl ((w.setCell ⟨b, off + m * 2, none⟩ (.float .f64 p.1)).setCell ⟨b, off + m * 2 + 1, none⟩ (.float .f64 p.2)) b off (m + 1) (px (D ++ [p])) (py (D ++ [p])) := by
  obtain ⟨u0, x0⟩ := Option.isSome_iff_exists.1 x0
  obtain ⟨u1, x1⟩ := Option.isSome_iff_exists.1 x1
  intro i hi
  by_cases e : i = m
  · subst e
    have e1 : px (D ++ [p]) i = p.1 := by unfold px; rw [← hD, pt_end]
    have e2 : py (D ++ [p]) i = p.2 := by unfold py; rw [← hD, pt_end]
    rw [e1, e2]
    exact ⟨cell_apart (by omega) (World.cell?_setCell_same _ _ _ x0), World.cell?_setCell_same _ _ _ (cell_apart (by omega) x1)⟩
  · rw [px_app1 _ _ _ (by omega), py_app1 _ _ _ (by omega)]
    obtain ⟨h1, h2⟩ := h i (by omega)
    exact ⟨cell_apart (by omega) (cell_apart (by omega) h1), cell_apart (by omega) (cell_apart (by omega) h2)⟩
end Go.Proofs.YtfaiaepkmlmoaaaGreat

namespace Go.Proofs.YtfaiaepkmlmoaaaGreat
open Go.ChangeShapes Go.WideShapes Go.ChangeAt Go.RowKit
set_option linter.unusedVariables false
set_option linter.unusedSimpArgs false


end Go.Proofs.YtfaiaepkmlmoaaaGreat

namespace Go.Proofs.YtfaiaepkmlmoaaaGreat
open Go.ChangeShapes Go.WideShapes Go.ChangeAt Go.RowKit
set_option linter.unusedVariables false
set_option linter.unusedSimpArgs false


end Go.Proofs.YtfaiaepkmlmoaaaGreat

namespace Go.Proofs.YtfaiaepkmlmoaaaGreat
open Go.ChangeShapes Go.WideShapes Go.ChangeAt Go.RowKit
set_option linter.unusedVariables false
set_option linter.unusedSimpArgs false


/-- a row of points: none, or n of them in cells -/
def AnyS (w : World) (V : Value) (n : Nat) (xs ys : Nat → Nat) : Prop := ∃ a cap, V = .slice a n cap ∧ n ≤ cap ∧ n ≤ maxLen ∧ n * 16 ≤ 140737488351232 ∧ Oks xs ys n ∧ (n = 0 ∨ (0 < n ∧ ∃ b off, a = some ⟨b, off, none⟩ ∧ Sl w b off n xs ys))
theorem AnyS.bel {w w' : World} {V : Value} {n : Nat} {xs ys : Nat → Nat} (h : AnyS w V n xs ys) (g : Bel w w') : AnyS w' V n xs ys := by
  obtain ⟨a, cap, h1, h2, h3, h4, h5, h6⟩ := h
  refine ⟨a, cap, h1, h2, h3, h4, h5, ?_⟩
  rcases h6 with h | ⟨h0, b, off, h, hs⟩
  · exact .inl h
  · exact .inr ⟨h0, b, off, h, hs.bel g⟩
/-- points that were lent: in memory of their own, with marks behind -/
def Lent (w : World) (g c n : Nat) (xs ys : Nat → Nat) : Prop := n + 2 ≤ c ∧ c ≤ maxLen ∧ Sl w g 0 n xs ys ∧ w.cell? ⟨g, n * 2, none⟩ = some (.float .f64 4635118810238550016) ∧ w.cell? ⟨g, (n + 1) * 2, none⟩ = some (.float .f64 4635189178982727680)
theorem Lent.bel {w w' : World} {g c n : Nat} {xs ys : Nat → Nat} (h : Lent w g c n xs ys) (b : Bel w w') : Lent w' g c n xs ys := ⟨h.1, h.2.1, h.2.2.1.bel b, keep b h.2.2.2.1, keep b h.2.2.2.2⟩
end Go.Proofs.YtfaiaepkmlmoaaaGreat
