/-
  What each function of package poly answers, and what the reference of its chapter answers: one contract a function, for every float: the answer stands in the relation of its formula to what was given; of the memory that was there nothing has turned.
-/
import Derived.Test.YtchfgaooogfkdaaVec
import Derived.Test.YtchfgaooogfkdaaXv
import Derived.Below
import Derived.OwnWalk
import Derived.Laws.AppendOwn
import Derived.Lib.SliceRun
import Derived.Laws.MakeOwn
import Derived.WalkKit
import Derived.WalkLawsBesides
import Derived.WalkSpells
import Derived.ProofKit
import Derived.OpenShut
import Derived.Deep.RegionHeld3
namespace Go.Proofs.Ytchfgaooogfkdaa
open Go.ChangeShapes Go.WideShapes Go.ChangeAt Go.RowKit
set_option linter.unusedVariables false
set_option linter.unusedSimpArgs false


theorem rnd_ids (Q : Nat → RD) (M : Nat → SD) : ∀ k i, ((rndM Q M k).1 i).ra = (Q i).ra ∧ ((rndM Q M k).1 i).rb = (Q i).rb ∧ ((rndM Q M k).1 i).ro = (Q i).ro
  | 0, _ => ⟨rfl, rfl, rfl⟩
  | k + 1, i => by
    have h := rnd_ids Q M k
    show RD.ra (setF _ _ _ i) = _ ∧ RD.rb (setF _ _ _ i) = _ ∧ RD.ro (setF _ _ _ i) = _
    unfold setF
    split
    · subst i
      obtain ⟨a1, a2, a3⟩ := on_ids (toR (rndM Q M k).1 k) ((rndM Q M k).2 ((rndM Q M k).1 k).ra.toNat) ((rndM Q M k).2 ((rndM Q M k).1 k).rb.toNat)
      obtain ⟨b1, b2, b3⟩ := to_ids (rndM Q M k).1 k
      obtain ⟨c1, c2, c3⟩ := h k
      exact ⟨a1.trans (b1.trans c1), a2.trans (b2.trans c2), a3.trans (b3.trans c3)⟩
    · exact h i
/-- rows of the same bodies -/
def ids (Q1 Q : Nat → RD) : Prop := ∀ i, (Q1 i).ra = (Q i).ra ∧ (Q1 i).rb = (Q i).rb ∧ (Q1 i).ro = (Q i).ro
theorem ids.rnd {Q1 Q : Nat → RD} (h : ids Q1 Q) (F : Nat → SD) (k : Nat) : ids (rndM Q1 F k).1 Q := fun i => by
  obtain ⟨a1, a2, a3⟩ := rnd_ids Q1 F k i
  obtain ⟨b1, b2, b3⟩ := h i
  exact ⟨a1.trans b1, a2.trans b2, a3.trans b3⟩
theorem rnd_al {Q Q1 : Nat → RD} {n : Nat} {M F : Nat → SD} (c : ∀ i, cS (M i)) (hi : ids Q1 Q) (h0 : Al Q n M F) : ∀ k, k ≤ n → Al Q n M (rndM Q1 F k).2
  | 0, _ => h0
  | k + 1, hk => by
    have h := rnd_al c hi h0 k (by omega)
    obtain ⟨a1, a2, _⟩ := hi.rnd F k k
    obtain ⟨Q2, F2, eP⟩ : ∃ Q2 F2, rndM Q1 F k = (Q2, F2) := ⟨_, _, rfl⟩
    rw [eP] at h a1 a2
    rw [rnd_succ eP]
    dsimp only at h a1 a2 ⊢
    rw [a1, a2]
    have hm := on_mass (toR Q2 k) (F2 (Q k).ra.toNat) (F2 (Q k).rb.toNat)
    refine h.step (by omega) (fun e => ?_) (fun e => ?_) ⟨hm.1.1.trans (h.ms _).1, hm.1.2.trans (h.ms _).2⟩ ⟨hm.2.1.trans (h.ms _).1, hm.2.2.trans (h.ms _).2⟩
    · rw [h.st _ (.inl e)]; exact no_one e (c _)
    · rw [h.st _ (.inl e)]; exact no_oneB e (c _)
end Go.Proofs.Ytchfgaooogfkdaa
