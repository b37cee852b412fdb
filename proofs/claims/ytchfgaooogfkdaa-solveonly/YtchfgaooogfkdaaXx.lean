/-
  What each function of package poly answers, and what the reference of its chapter answers: one contract a function, for every float: the answer stands in the relation of its formula to what was given; of the memory that was there nothing has turned.
-/
import Derived.Test.YtchfgaooogfkdaaVec
import Derived.Test.YtchfgaooogfkdaaXw
import Derived.Below
import Derived.OwnWalk
import Derived.Laws.AppendOwn
import Derived.Lib.SliceRun
import Derived.Laws.MakeOwn
import Derived.WalkKit
import Derived.WalkLawsBesides
import Derived.WalkSpells
import Derived.ProofKit
import Derived.OpenShut
import Derived.Deep.RegionHeld3
namespace Go.Proofs.Ytchfgaooogfkdaa
open Go.ChangeShapes Go.WideShapes Go.ChangeAt Go.RowKit
set_option linter.unusedVariables false
set_option linter.unusedSimpArgs false


theorem anyN_iff {p : Nat → Bool} {n : Nat} : anyN p n = true ↔ ∃ i, i < n ∧ p i = true := by
  constructor
  · intro h
    apply Classical.byContradiction
    intro hn
    have : anyN p n = false := anyN_of (fun i hi => by
      cases hp : p i with
      | false => rfl
      | true => exact absurd ⟨i, hi, hp⟩ hn)
    rw [this] at h
    cases h
  · rintro ⟨i, hi, hp⟩
    exact anyN_at hp hi
theorem tch_iff {Q : Nat → RD} {n i : Nat} : tchB Q n i = true ↔ ∃ k, k < n ∧ ((Q k).ra.toNat = i ∨ (Q k).rb.toNat = i) := by
  unfold tchB
  rw [anyN_iff]
  constructor
  · rintro ⟨k, hk, hp⟩
    exact ⟨k, hk, by simpa using hp⟩
  · rintro ⟨k, hk, hp⟩
    exact ⟨k, hk, by simpa using hp⟩
/-- Apart says what it should -/
theorem ap_iff {Q P : Nat → RD} {n m : Nat} {S : Nat → SD} : apB Q n P m S = true ↔ ∀ i, mvB (S i) = true → tchB P m i = true → tchB Q n i = false := by
  unfold apB
  rw [Bool.not_eq_true']
  constructor
  · intro h i hm ht
    obtain ⟨k, hk, hp⟩ := tch_iff.1 ht
    have h1 := anyN_no h k hk
    rw [Bool.or_eq_false_iff, Bool.and_eq_false_iff, Bool.and_eq_false_iff] at h1
    rcases hp with rfl | rfl
    · rcases h1.1 with h2 | h2
      · exact h2
      · rw [hm] at h2; cases h2
    · rcases h1.2 with h2 | h2
      · exact h2
      · rw [hm] at h2; cases h2
  · intro h
    refine anyN_of (fun k hk => ?_)
    have ht := tch_at (Q := P) hk
    rw [Bool.or_eq_false_iff, Bool.and_eq_false_iff, Bool.and_eq_false_iff]
    constructor
    · cases hm : mvB (S (P k).ra.toNat)
      · exact .inr rfl
      · exact .inl (h _ hm ht.1)
    · cases hm : mvB (S (P k).rb.toNat)
      · exact .inr rfl
      · exact .inl (h _ hm ht.2)
end Go.Proofs.Ytchfgaooogfkdaa
