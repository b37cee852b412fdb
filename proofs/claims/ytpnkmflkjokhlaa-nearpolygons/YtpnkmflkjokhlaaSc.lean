/-
  What each function of package poly answers, and what the reference of its chapter answers: one contract a function, for every float: the answer stands in the relation of its formula to what was given; of the memory that was there nothing has turned.
-/
import Derived.Test.YtpnkmflkjokhlaaVec
import Derived.Test.YtpnkmflkjokhlaaSb
import Derived.Below
import Derived.WalkKit
import Derived.WalkLawsBesides
import Derived.WalkSpells
import Derived.ProofKit
import Derived.OpenShut
import Derived.Deep.RegionHeld3
namespace Go.Proofs.Ytpnkmflkjokhlaa
open Go.ChangeShapes Go.WideShapes Go.ChangeAt Go.RowKit
set_option linter.unusedVariables false
set_option linter.unusedSimpArgs false


/-- what shapes answer -/
def hasS (k : Int) (r : Nat) (xs ys : Nat → Nat) (n p q : Nat) : Bool := if k = 1 then hcB (xs 0) (ys 0) r p q else if k = 2 then hcB (nxX xs ys p q) (nxY xs ys p q) r p q else hasV xs ys n p q
def hasA (k : Int) (r : Nat) (xs ys : Nat → Nat) (n p q : Nat) : Bool := if aE k r xs ys n p q = 0 then hasS k r xs ys n p q else false
theorem aE_no {k : Int} {r n p q : Nat} {xs ys : Nat → Nat} {v : Int} (h : shE k r xs ys n = v) (hv : ¬ v = 0) : aE k r xs ys n p q = v := by unfold aE; rw [h, if_neg hv]
theorem aE_out {k : Int} {r n p q : Nat} {xs ys : Nat → Nat} (h : shE k r xs ys n = 0) (g : (withinK .f64 p 4787326403894837248 && withinK .f64 q 4787326403894837248) = false) : aE k r xs ys n p q = 5 := by unfold aE inB; rw [if_pos h, g]; rfl
theorem aE_in {k : Int} {r n p q : Nat} {xs ys : Nat → Nat} (h : shE k r xs ys n = 0) (g : (withinK .f64 p 4787326403894837248 && withinK .f64 q 4787326403894837248) = true) : aE k r xs ys n p q = 0 := by unfold aE inB; rw [if_pos h, g]; rfl
theorem with_in {n p q : Nat} {xs ys : Nat → Nat} (h : chkE xs ys n = 0) (g : (withinK .f64 p 4787326403894837248 && withinK .f64 q 4787326403894837248) = true) : withE xs ys n p q = 0 := by unfold withE; rw [if_pos h, if_pos g]

theorem farX_no {k : Int} {r n p q : Nat} {xs ys : Nat → Nat} {v : Int} (h : aE k r xs ys n p q = v) (hv : ¬ v = 0) : farX k r xs ys n p q = 0 ∧ farY k r xs ys n p q = 0 := by unfold farX farY; rw [h, if_neg hv, if_neg hv]; exact ⟨rfl, rfl⟩

end Go.Proofs.Ytpnkmflkjokhlaa
