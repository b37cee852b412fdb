/-
  What each function of package poly answers, and what the reference of its chapter answers: one contract a function, for every float: the answer stands in the relation of its formula to what was given; of the memory that was there nothing has turned.
-/
import Derived.Test.YtchfgaooogfkdaaVec
import Derived.Test.YtchfgaooogfkdaaXz
import Derived.Below
import Derived.OwnWalk
import Derived.Laws.AppendOwn
import Derived.Lib.SliceRun
import Derived.Laws.MakeOwn
import Derived.WalkKit
import Derived.WalkLawsBesides
import Derived.WalkSpells
import Derived.ProofKit
import Derived.OpenShut
import Derived.Deep.RegionHeld3
namespace Go.Proofs.Ytchfgaooogfkdaa
open Go.ChangeShapes Go.WideShapes Go.ChangeAt Go.RowKit
set_option linter.unusedVariables false
set_option linter.unusedSimpArgs false


theorem pick_p {p : Nat → Bool} : ∀ {k i : Nat}, i ∈ pickN p k → p i = true
  | 0, i, h => by cases h
  | k + 1, i, h => by
    unfold pickN at h
    cases hp : p k
    · rw [hp] at h; exact pick_p h
    · rw [hp] at h
      simp only [cond_true, List.mem_append, List.mem_singleton] at h
      rcases h with h | h
      · exact pick_p h
      · subst h; exact hp
theorem pick_yes {p : Nat → Bool} {k : Nat} (h : p k = true) : pickN p (k + 1) = pickN p k ++ [k] := by unfold pickN; rw [h]; cases k <;> rfl
theorem pick_no {p : Nat → Bool} {k : Nat} (h : p k = false) : pickN p (k + 1) = pickN p k := by
  show (bif p k then _ else _) = _
  rw [h]; rfl
theorem pick_pre (p : Nat → Bool) (k : Nat) : ∀ d, ∃ l, pickN p (k + d) = pickN p k ++ l
  | 0 => ⟨[], by simp⟩
  | d + 1 => by
    obtain ⟨l, h⟩ := pick_pre p k d
    show ∃ l, pickN p ((k + d) + 1) = _
    cases hp : p (k + d)
    · exact ⟨l, by rw [pick_no hp, h]⟩
    · exact ⟨l ++ [k + d], by rw [pick_yes hp, h, List.append_assoc]⟩
theorem pick_at {p : Nat → Bool} {k n : Nat} (hk : k < n) (h : p k = true) : (pickN p k).length < (pickN p n).length ∧ LN (pickN p n) (pickN p k).length = k := by
  obtain ⟨l, e⟩ := pick_pre p (k + 1) (n - (k + 1))
  rw [show k + 1 + (n - (k + 1)) = n by omega, pick_yes h, List.append_assoc] at e
  rw [e]
  refine ⟨by simp, ?_⟩
  unfold LN
  simp
theorem pick_is {p : Nat → Bool} {n j : Nat} (h : j < (pickN p n).length) : p (LN (pickN p n) j) = true ∧ LN (pickN p n) j < n := by
  rw [LN_get h]
  exact ⟨pick_p (List.getElem_mem h), pick_mem (List.getElem_mem h)⟩
section
variable {Q : Nat → RD} {p : Nat → Bool} {rn : Nat} {M : Nat → SD}
/-- the picks' rows, Of told anew -/
abbrev QO (Q : Nat → RD) (p : Nat → Bool) (rn : Nat) : Nat → RD := onlyR Q (pickN p rn)
end

end Go.Proofs.Ytchfgaooogfkdaa
