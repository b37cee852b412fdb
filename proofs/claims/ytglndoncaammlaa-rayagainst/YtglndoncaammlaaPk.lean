/-
  What each function of package poly answers, and what the reference of its chapter answers: one contract a function, for every float: the answer stands in the relation of its formula to what was given; of the memory that was there nothing has turned.
-/
import Derived.Test.YtglndoncaammlaaVec
import Derived.Test.YtglndoncaammlaaPj
import Derived.Below
import Derived.OwnWalk
import Derived.Lib.SliceRun
import Derived.WalkKit
import Derived.WalkLawsBesides
import Derived.WalkSpells
import Derived.ProofKit
import Derived.OpenShut
import Derived.Deep.RegionHeld3
namespace Go.Proofs.Ytglndoncaammlaa
open Go.ChangeShapes Go.WideShapes Go.ChangeAt Go.RowKit
set_option linter.unusedVariables false
set_option linter.unusedSimpArgs false


theorem pt_end (L : List Pt) (p : Pt) : pt (L ++ [p]) L.length = p := by
  unfold pt; rw [List.getD_eq_getElem?_getD, List.getElem?_append_right (Nat.le_refl _), Nat.sub_self]; rfl
theorem Sl.put {w : World} {b off m : Nat} {D : List Pt} {p : Pt} (hD : D.length = m) (h : Sl w b off m (px D) (py D)) (x0 : (w.cell? ⟨b, off + m * 2, none⟩).isSome = true) (x1 : (w.cell? ⟨b, off + m * 2 + 1, none⟩).isSome = true) :
    Sl ((w.setCell ⟨b, off + m * 2, none⟩ (.float .f64 p.1)).setCell ⟨b, off + m * 2 + 1, none⟩ (.float .f64 p.2)) b off (m + 1) (px (D ++ [p])) (py (D ++ [p])) := by
  obtain ⟨u0, x0⟩ := Option.isSome_iff_exists.1 x0
  obtain ⟨u1, x1⟩ := Option.isSome_iff_exists.1 x1
  intro i hi
  by_cases e : i = m
  · subst e
    have e1 : px (D ++ [p]) i = p.1 := by unfold px; rw [← hD, pt_end]
    have e2 : py (D ++ [p]) i = p.2 := by unfold py; rw [← hD, pt_end]
    rw [e1, e2]
    exact ⟨cell_apart (by omega) (World.cell?_setCell_same _ _ _ x0), World.cell?_setCell_same _ _ _ (cell_apart (by omega) x1)⟩
  · rw [px_app1 _ _ _ (by omega), py_app1 _ _ _ (by omega)]
    obtain ⟨h1, h2⟩ := h i (by omega)
    exact ⟨cell_apart (by omega) (cell_apart (by omega) h1), cell_apart (by omega) (cell_apart (by omega) h2)⟩
end Go.Proofs.Ytglndoncaammlaa
