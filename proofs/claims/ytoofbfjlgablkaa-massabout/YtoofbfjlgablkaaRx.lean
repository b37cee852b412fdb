/-
  What each function of package poly answers, and what the reference of its chapter answers: one contract a function, for every float: the answer stands in the relation of its formula to what was given; of the memory that was there nothing has turned.
-/
import Derived.Test.YtoofbfjlgablkaaVec
import Derived.Test.YtoofbfjlgablkaaRd
import Derived.Test.YtoofbfjlgablkaaPu
import Derived.Below
import Derived.WalkKit
import Derived.WalkLawsBesides
import Derived.WalkSpells
import Derived.ProofKit
import Derived.OpenShut
import Derived.Deep.RegionHeld3
namespace Go.Proofs.Ytoofbfjlgablkaa
open Go.ChangeShapes Go.WideShapes Go.ChangeAt Go.RowKit
set_option linter.unusedVariables false
set_option linter.unusedSimpArgs false


theorem fan_zero (xs ys : Nat → Nat) : fanE xs ys 0 = 60 := by unfold fanE; rw [chk_zero]; rfl
theorem with_zero (xs ys : Nat → Nat) (p q : Nat) : withE xs ys 0 p q = 60 := by unfold withE; rw [chk_zero]; rfl

theorem chk_all (V : Value) (n : Nat) (xs ys : Nat → Nat) (w : World) (h : AnyS w V n xs ys) : Calls Try.prog 63 #[V] w fun e w' => e = .returned (.int .i64 (chkE xs ys n)) ∧ Bel w w' := by
  obtain ⟨a, cap, rfl, a2, a3, a4, a5, a6⟩ := h
  rcases a6 with rfl | ⟨a0, b, off, rfl, sa⟩
  · rw [chk_zero]
    exact chk_none a cap xs ys w
  · exact chk_some b off n cap xs ys w sa a5 a0 a3 a2

theorem area_all (V : Value) (n : Nat) (xs ys : Nat → Nat) (w : World) (h : AnyS w V n xs ys) : Calls Try.prog 53 #[V] w fun e w' => e = .returned (.tuple #[.float .f64 (areaE xs ys n), .int .i64 (fanE xs ys n)]) ∧ Bel w w' := by
  obtain ⟨a, cap, rfl, a2, a3, a4, a5, a6⟩ := h
  rcases a6 with rfl | ⟨a0, b, off, rfl, sa⟩
  · have h60 : ¬ fanE xs ys 0 = 0 := by rw [fan_zero]; decide
    rw [area_zero h60, fan_zero]
    exact area_none a cap xs ys w
  · exact area_d b off n cap xs ys w sa a5 a0 a3 a2

theorem centre_all (V : Value) (n : Nat) (xs ys : Nat → Nat) (w : World) (h : AnyS w V n xs ys) : Calls Try.prog 54 #[V] w fun e w' => e = .returned (.tuple #[.agg #[.float .f64 (cenX xs ys n), .float .f64 (cenY xs ys n)], .int .i64 (fanE xs ys n)]) ∧ Bel w w' := by
  obtain ⟨a, cap, rfl, a2, a3, a4, a5, a6⟩ := h
  rcases a6 with rfl | ⟨a0, b, off, rfl, sa⟩
  · have h60 : ¬ fanE xs ys 0 = 0 := by rw [fan_zero]; decide
    have e1 : cenX xs ys 0 = 0 := by unfold cenX; rw [if_neg h60]
    have e2 : cenY xs ys 0 = 0 := by unfold cenY; rw [if_neg h60]
    rw [e1, e2, fan_zero]
    exact centre_none a cap w
  · exact centre_d b off n cap xs ys w sa a5 a0 a3 a2


end Go.Proofs.Ytoofbfjlgablkaa
