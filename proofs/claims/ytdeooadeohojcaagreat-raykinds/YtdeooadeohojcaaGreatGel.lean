/-
  Plain facts on floats, more: rounding to the nearest rung, sums and products of finite floats, signs turned. No program is named here.
-/
import Derived.Test.YtdeooadeohojcaaGreatGeo
namespace Go.Proofs.YtdeooadeohojcaaGreat
open Ieee Go.RowKit
set_option linter.unusedSimpArgs false
set_option linter.unusedVariables false

abbrev Pt := Nat × Nat
def pt (L : List Pt) (i : Nat) : Pt := L.getD i (0, 0)
def px (L : List Pt) (i : Nat) : Nat := (pt L i).1
def py (L : List Pt) (i : Nat) : Nat := (pt L i).2
def upd (f : Nat → Nat) (i v : Nat) : Nat → Nat := fun j => if j = i then v else f j
theorem upd_same (f : Nat → Nat) (i v : Nat) : upd f i v i = v := by unfold upd; rw [if_pos rfl]
theorem upd_other {f : Nat → Nat} {i v j : Nat} (h : j ≠ i) : upd f i v j = f j := by unfold upd; rw [if_neg h]
theorem pt_mem {L : List Pt} {i : Nat} (h : i < L.length) : pt L i ∈ L := by
  unfold pt; rw [List.getD_eq_getElem?_getD, List.getElem?_eq_getElem h]; exact List.getElem_mem h
def c3 (x y : Nat) : Int := if ltK .f64 x y then -1 else if ltK .f64 y x then 1 else 0
end Go.Proofs.YtdeooadeohojcaaGreat
