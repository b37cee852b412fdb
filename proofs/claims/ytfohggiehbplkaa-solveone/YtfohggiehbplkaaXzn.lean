/-
  What each function of package poly answers, and what the reference of its chapter answers: one contract a function, for every float: the answer stands in the relation of its formula to what was given; of the memory that was there nothing has turned.
-/
import Derived.Test.YtfohggiehbplkaaVec
import Derived.Test.YtfohggiehbplkaaXzk
import Derived.Test.YtfohggiehbplkaaWnu
import Derived.Below
import Derived.OwnWalk
import Derived.Laws.AppendOwn
import Derived.Lib.SliceRun
import Derived.Laws.MakeOwn
import Derived.WalkKit
import Derived.WalkLawsBesides
import Derived.WalkSpells
import Derived.ProofKit
import Derived.OpenShut
import Derived.Deep.RegionHeld3
namespace Go.Proofs.Ytfohggiehbplkaa
open Go.ChangeShapes Go.WideShapes Go.ChangeAt Go.RowKit
set_option linter.unusedVariables false
set_option linter.unusedSimpArgs false

theorem still_none {T : RD} {a b : SD} (h1 : stB a = true) (h2 : stB b = true) (h : (mvB a || mvB b) = false) : slB T a b = false := by
 simp only [Bool.or_eq_false_iff] at h
 unfold mvB at h
 simp only [Bool.or_eq_false_iff] at h
 unfold slB okB
 rw [wt_none h1 h2 h.1.1 h.1.2 h.2.1 h.2.2]
 rfl
/-- of what can't be moved the turn changes nothing, asked or not -/
theorem on_all {T : RD} {a b : SD} (h1 : stB a = true) (h2 : stB b = true) : onR T a b = onQ T a b ∧ onA T a b = onX T a b ∧ onB T a b = onY T a b := by
 unfold onR onA onB
 cases h : mvB a || mvB b
 ·have e := still_none (T := T) h1 h2 h
  unfold onQ onX onY
  rw [e]
  exact ⟨rfl, rfl, rfl⟩
 ·exact ⟨rfl, rfl, rfl⟩
end Go.Proofs.Ytfohggiehbplkaa
