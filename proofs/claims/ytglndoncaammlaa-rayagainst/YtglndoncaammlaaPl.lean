/-
  What each function of package poly answers, and what the reference of its chapter answers: one contract a function, for every float: the answer stands in the relation of its formula to what was given; of the memory that was there nothing has turned.
-/
import Derived.Test.YtglndoncaammlaaVec
import Derived.Test.YtglndoncaammlaaPk
import Derived.Below
import Derived.OwnWalk
import Derived.WalkMore
import Derived.WalkKit
import Derived.WalkLawsBesides
import Derived.WalkSpells
import Derived.ProofKit
import Derived.OpenShut
import Derived.Deep.RegionHeld3
namespace Go.Proofs.Ytglndoncaammlaa
open Go.ChangeShapes Go.WideShapes Go.ChangeAt Go.RowKit
set_option linter.unusedVariables false
set_option linter.unusedSimpArgs false


/-- points of a size -/
def GdL (L : List Pt) : Prop := ∀ p, p ∈ L → Bd 40 p.1 ∧ Bd 40 p.2
theorem GdL.gd {L : List Pt} (h : GdL L) : Gd (px L) (py L) L.length := fun i hi => h _ (pt_mem hi)
end Go.Proofs.Ytglndoncaammlaa
