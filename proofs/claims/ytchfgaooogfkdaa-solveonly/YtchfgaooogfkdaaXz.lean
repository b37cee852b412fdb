/-
  What each function of package poly answers, and what the reference of its chapter answers: one contract a function, for every float: the answer stands in the relation of its formula to what was given; of the memory that was there nothing has turned.
-/
import Derived.Test.YtchfgaooogfkdaaVec
import Derived.Test.YtchfgaooogfkdaaXy
import Derived.Below
import Derived.OwnWalk
import Derived.Laws.AppendOwn
import Derived.Lib.SliceRun
import Derived.Laws.MakeOwn
import Derived.WalkKit
import Derived.WalkLawsBesides
import Derived.WalkSpells
import Derived.ProofKit
import Derived.OpenShut
import Derived.Deep.RegionHeld3
namespace Go.Proofs.Ytchfgaooogfkdaa
open Go.ChangeShapes Go.WideShapes Go.ChangeAt Go.RowKit
set_option linter.unusedVariables false
set_option linter.unusedSimpArgs false


theorem own_rows {base : Nat} {w : World} {v : Value} {n : Nat} {Q : Nat → RD} (h : OwnR 14 base w v n (rowsL Q n)) : ∃ g c sl, v = .slice sl n c ∧ (n = 0 ∨ sl = some ⟨g, 0, none⟩) ∧ n ≤ c ∧ c ≤ maxLen ∧ Rws w g 0 n Q := by
  rcases h.2 with ⟨rfl, rfl⟩ | ⟨g, c, rfl, h1, h2, h3, h4, _⟩
  · exact ⟨0, 0, none, rfl, .inl rfl, Nat.le_refl _, Nat.zero_le _, fun i hi => by omega⟩
  · exact ⟨g, c, some ⟨g, 0, none⟩, rfl, .inr rfl, h2, h3, rowsL_at (N := []) (by rwa [List.append_nil])⟩
end Go.Proofs.Ytchfgaooogfkdaa
