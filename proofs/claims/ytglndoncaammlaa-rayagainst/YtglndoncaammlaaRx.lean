/-
  What each function of package poly answers, and what the reference of its chapter answers: one contract a function, for every float: the answer stands in the relation of its formula to what was given; of the memory that was there nothing has turned.
-/
import Derived.Test.YtglndoncaammlaaVec
import Derived.Test.YtglndoncaammlaaRc
import Derived.Test.YtglndoncaammlaaPu
import Derived.Below
import Derived.WalkKit
import Derived.WalkLawsBesides
import Derived.WalkSpells
import Derived.ProofKit
import Derived.OpenShut
import Derived.Deep.RegionHeld3
namespace Go.Proofs.Ytglndoncaammlaa
open Go.ChangeShapes Go.WideShapes Go.ChangeAt Go.RowKit
set_option linter.unusedVariables false
set_option linter.unusedSimpArgs false


theorem with_zero (xs ys : Nat → Nat) (p q : Nat) : withE xs ys 0 p q = 60 := by unfold withE; rw [chk_zero]; rfl

theorem chk_all (V : Value) (n : Nat) (xs ys : Nat → Nat) (w : World) (h : AnyS w V n xs ys) : Calls Try.prog 20 #[V] w fun e w' => e = .returned (.int .i64 (chkE xs ys n)) ∧ Bel w w' := by
  obtain ⟨a, cap, rfl, a2, a3, a4, a5, a6⟩ := h
  rcases a6 with rfl | ⟨a0, b, off, rfl, sa⟩
  · rw [chk_zero]
    exact chk_none a cap xs ys w
  · exact chk_some b off n cap xs ys w sa a5 a0 a3 a2

theorem has_all (V : Value) (n : Nat) (xs ys : Nat → Nat) (w : World) (h : AnyS w V n xs ys) (p q : Nat) (op : okK .f64 p) (oq : okK .f64 q) : Calls Try.prog 21 #[V, .agg #[.float .f64 p, .float .f64 q]] w fun e w' => e = .returned (.tuple #[.bool (hasV xs ys n p q), .int .i64 (withE xs ys n p q)]) ∧ Bel w w' := by
  obtain ⟨a, cap, rfl, a2, a3, a4, a5, a6⟩ := h
  rcases a6 with rfl | ⟨a0, b, off, rfl, sa⟩
  · have e1 : hasV xs ys 0 p q = false := by unfold hasV; rw [with_zero]; rfl
    rw [e1, with_zero]
    exact has_none a cap p q w
  · exact has_d b off n cap xs ys w sa a5 a0 a3 a2 p q op oq

end Go.Proofs.Ytglndoncaammlaa
