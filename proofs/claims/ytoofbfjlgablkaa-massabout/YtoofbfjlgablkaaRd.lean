/-
  What each function of package poly answers, and what the reference of its chapter answers: one contract a function, for every float: the answer stands in the relation of its formula to what was given; of the memory that was there nothing has turned.
-/
import Derived.Test.YtoofbfjlgablkaaVec
import Derived.Test.YtoofbfjlgablkaaRc
import Derived.Below
import Derived.OwnWalk
import Derived.WalkKit
import Derived.WalkLawsBesides
import Derived.WalkSpells
import Derived.ProofKit
import Derived.OpenShut
import Derived.Deep.RegionHeld3
namespace Go.Proofs.Ytoofbfjlgablkaa
open Go.ChangeShapes Go.WideShapes Go.ChangeAt Go.RowKit
set_option linter.unusedVariables false
set_option linter.unusedSimpArgs false


theorem fan_chk {xs ys : Nat → Nat} {n : Nat} (h : chkE xs ys n = 0) : fanE xs ys n = if ltK .f64 0 (sA xs ys (n - 3)) then 0 else 61 := by unfold fanE; rw [if_pos h]
theorem area_zero {xs ys : Nat → Nat} {n : Nat} (h : ¬ fanE xs ys n = 0) : areaE xs ys n = 0 := by unfold areaE fanA; rw [if_neg h]; decide +kernel
theorem lst_succ (xs ys : Nat → Nat) (n : Nat) : lst xs ys (n + 1) = lst xs ys n ++ [(xs n, ys n)] := by unfold lst; rw [List.range_succ, List.map_append]; rfl
theorem run_add_nv (P : Program) (t : TypeId) (x y : Nat) (w : World) (hx : finK .f64 x = true) (hy : nanK .f64 y = false) : (binOp .add t (.float .f64 x) (.float .f64 y)).run P w = .ok (.float .f64 (Dv .add x y)) w := by
  obtain ⟨v, hv⟩ := Option.isSome_iff_exists.1 (some_add_num hx hy)
  rw [run_add, show fd .add .f64 x y = 0 by unfold fd; rw [hv]; rfl]
  unfold fv Dv
  rw [hv]; rfl

end Go.Proofs.Ytoofbfjlgablkaa
