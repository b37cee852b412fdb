/-
  Plain facts on floats, more: rounding to the nearest rung, sums and products of finite floats, signs turned. No program is named here.
-/
import Derived.BigQuiet
import Derived.Test.YtglndoncaammlaaFlt
import Derived.Deep.Quiet
namespace Go.Proofs.Ytglndoncaammlaa
open Ieee Go.RowKit

end Go.Proofs.Ytglndoncaammlaa
