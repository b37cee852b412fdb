/-
  Plain facts that go together.
-/
import Derived.Test.YtfohggiehbplkaaVec
import Derived.Test.YtfohggiehbplkaaWh
import Derived.Test.YtfohggiehbplkaaWnu
import Derived.Below
import Derived.WalkKit
import Derived.WalkLawsBesides
import Derived.WalkSpells
import Derived.ProofKit
import Derived.OpenShut
import Derived.Deep.RegionHeld3
namespace Go.Proofs.Ytfohggiehbplkaa
open Go.ChangeShapes Go.WideShapes Go.ChangeAt Go.RowKit
set_option linter.unusedSimpArgs false
set_option linter.unusedVariables false
theorem bd_word {n x q : Nat} (h : isF x q) (b : Bd n q) : x = q := by
  refine isF_wd h ?_
  rintro rfl
  exact absurd b.2.1 (by decide +kernel)
def Mk (n : Nat) : Prop := True
end Go.Proofs.Ytfohggiehbplkaa
