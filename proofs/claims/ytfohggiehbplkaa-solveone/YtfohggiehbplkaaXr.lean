/-
  What each function of package poly answers, and what the reference of its chapter answers: one contract a function, for every float: the answer stands in the relation of its formula to what was given; of the memory that was there nothing has turned.
-/
import Derived.Test.YtfohggiehbplkaaVec
import Derived.Test.YtfohggiehbplkaaXq
import Derived.Below
import Derived.OwnWalk
import Derived.Laws.AppendOwn
import Derived.Lib.SliceRun
import Derived.Laws.MakeOwn
import Derived.WalkKit
import Derived.WalkLawsBesides
import Derived.WalkSpells
import Derived.ProofKit
import Derived.OpenShut
import Derived.Deep.RegionHeld3
namespace Go.Proofs.Ytfohggiehbplkaa
open Go.ChangeShapes Go.WideShapes Go.ChangeAt Go.RowKit
set_option linter.unusedVariables false
set_option linter.unusedSimpArgs false


/-- two stills as they lie that are told alike -/
theorem RelS.same {a b m : SD} (h : RelS a m) (g : RelS b m) : smK .f64 a.sm b.sm = true ∧ smK .f64 a.si b.si = true ∧ smK .f64 a.sx b.sx = true ∧ smK .f64 a.sy b.sy = true ∧ smK .f64 a.ss b.ss = true :=
 ⟨bits_iff.2 (by rw [h.em, g.em]), bits_iff.2 (by rw [h.ei, g.ei]), bits_iff.2 (by rw [h.hx.2, g.hx.2]), bits_iff.2 (by rw [h.hy.2, g.hy.2]), bits_iff.2 (by rw [h.hs.2, g.hs.2])⟩
end Go.Proofs.Ytfohggiehbplkaa
