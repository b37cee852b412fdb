/-
  What each function of package poly answers, and what the reference of its chapter answers: one contract a function, for every float: the answer stands in the relation of its formula to what was given; of the memory that was there nothing has turned.
-/
import Derived.Test.YtglndoncaammlaaVec
import Derived.Test.YtglndoncaammlaaPh
import Derived.Below
import Derived.Laws.AppendOwn
import Derived.Laws.IdiomCopy
import Derived.OwnWalk
import Derived.WideShapes
import Derived.WalkKit
import Derived.WalkLawsBesides
import Derived.WalkSpells
import Derived.ProofKit
import Derived.OpenShut
import Derived.Deep.RegionHeld3
namespace Go.Proofs.Ytglndoncaammlaa
open Go.ChangeShapes Go.WideShapes Go.ChangeAt Go.RowKit
set_option linter.unusedVariables false
set_option linter.unusedSimpArgs false


theorem px_app1 (L M : List Pt) : ∀ i, i < L.length → px (L ++ M) i = px L i := fun i hi => by
  unfold px pt; rw [List.getD_eq_getElem?_getD, List.getD_eq_getElem?_getD, List.getElem?_append_left hi]
theorem py_app1 (L M : List Pt) : ∀ i, i < L.length → py (L ++ M) i = py L i := fun i hi => by
  unfold py pt; rw [List.getD_eq_getElem?_getD, List.getD_eq_getElem?_getD, List.getElem?_append_left hi]
/-- a row of the call's own, of points -/
def Own (base : Nat) (w : World) (v : Value) (L : List Pt) : Prop :=
  (v = .slice none 0 0 ∧ L = []) ∨ ∃ g cap, v = .slice (some ⟨g, 0, none⟩) L.length cap ∧ base ≤ g ∧ L.length ≤ cap ∧ cap ≤ maxLen ∧ Sl w g 0 L.length (px L) (py L) ∧ (∀ j, j < cap * 2 → (w.cell? ⟨g, j, none⟩).isSome = true) ∧ ∀ o, w.frozen? ⟨g, o, none⟩ = false
theorem Own.bel {base : Nat} {w w' : World} {v : Value} {L : List Pt} (h : Own base w v L) (g : Bel w w') : Own base w' v L := by
  rcases h with h | ⟨k, cap, e, h1, h2, h3, h4, h5, h6⟩
  · exact .inl h
  · refine .inr ⟨k, cap, e, h1, h2, h3, h4.bel g, fun j hj => ?_, fun o => (g.2 _).trans (h6 o)⟩
    obtain ⟨u, hu⟩ := Option.isSome_iff_exists.1 (h5 j hj)
    rw [keep g hu]; rfl
end Go.Proofs.Ytglndoncaammlaa
