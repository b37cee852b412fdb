/-
  What each function of package poly answers, and what the reference of its chapter answers: one contract a function, for every float: the answer stands in the relation of its formula to what was given; of the memory that was there nothing has turned.
-/
import Derived.Test.YtglndoncaammlaaVec
import Derived.Test.YtglndoncaammlaaPa
import Derived.Test.YtglndoncaammlaaMulti
import Derived.Below
import Derived.WalkKit
import Derived.WalkLawsBesides
import Derived.WalkSpells
import Derived.ProofKit
import Derived.OpenShut
import Derived.Deep.RegionHeld3
namespace Go.Proofs.Ytglndoncaammlaa
open Go.ChangeShapes Go.WideShapes Go.ChangeAt Go.RowKit
set_option linter.unusedVariables false
set_option linter.unusedSimpArgs false


def areaE (xs ys : Nat → Nat) (n : Nat) : Nat := Dv .mul (fanA xs ys n) 4602678819172646912
theorem fan_bd {xs ys : Nat → Nat} {n : Nat} (o : Oks xs ys n) : Bd 300 (fanA xs ys n) ∧ Bd 300 (fanX xs ys n) ∧ Bd 300 (fanY xs ys n) := by
  by_cases h : fanE xs ys n = 0
  · have hc : chkE xs ys n = 0 := by
      unfold fanE at h
      split at h
      · assumption
      · exact h
    obtain ⟨g, h3, h64, _⟩ := chk_ok o hc
    obtain ⟨a, b, c⟩ := s_bd g (n - 3) (by omega) (by omega)
    unfold fanA fanX fanY
    rw [if_pos h, if_pos h, if_pos h]
    exact ⟨bd_mono a (by omega), bd_mono b (by omega), bd_mono c (by omega)⟩
  · unfold fanA fanX fanY
    rw [if_neg h, if_neg h, if_neg h]
    exact ⟨bd0 _, bd0 _, bd0 _⟩

end Go.Proofs.Ytglndoncaammlaa
