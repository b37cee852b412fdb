/-
  Plain facts on floats, more: rounding to the nearest rung, sums and products of finite floats, signs turned. No program is named here.
-/
import Derived.Test.YtfaiaepkmlmoaaaGreatGeo
namespace Go.Proofs.YtfaiaepkmlmoaaaGreat
open Ieee Go.RowKit
set_option linter.unusedSimpArgs false
set_option linter.unusedVariables false

abbrev Pt := Nat × Nat
def pt (L : List Pt) (i : Nat) : Pt := L.getD i (0, 0)
def px (L : List Pt) (i : Nat) : Nat := (pt L i).1
def py (L : List Pt) (i : Nat) : Nat := (pt L i).2
def c3 (x y : Nat) : Int := if ltK .f64 x y then -1 else if ltK .f64 y x then 1 else 0
/-- the same place -/
def eqP (p q : Pt) : Bool := eqK .f64 p.1 q.1 && eqK .f64 p.2 q.2
/-- of the first i points each place once (they lie in order) -/
def dd (L : List Pt) : Nat → List Pt
  | 0 => []
  | i + 1 => if 1 ≤ i ∧ eqP (pt L i) (pt L (i - 1)) = true then dd L i else dd L i ++ [pt L i]
end Go.Proofs.YtfaiaepkmlmoaaaGreat
