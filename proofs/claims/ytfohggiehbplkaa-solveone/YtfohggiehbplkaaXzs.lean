/-
  What each function of package poly answers, and what the reference of its chapter answers: one contract a function, for every float: the answer stands in the relation of its formula to what was given; of the memory that was there nothing has turned.
-/
import Derived.Test.YtfohggiehbplkaaVec
import Derived.Test.YtfohggiehbplkaaXzk
import Derived.Below
import Derived.OwnWalk
import Derived.Laws.AppendOwn
import Derived.Lib.SliceRun
import Derived.Laws.MakeOwn
import Derived.WalkKit
import Derived.WalkLawsBesides
import Derived.WalkSpells
import Derived.ProofKit
import Derived.OpenShut
import Derived.Deep.RegionHeld3
namespace Go.Proofs.Ytfohggiehbplkaa
open Go.ChangeShapes Go.WideShapes Go.ChangeAt Go.RowKit
set_option linter.unusedVariables false
set_option linter.unusedSimpArgs false

/-- rows of one's own -/
def Owcr (w w' : World) (v : Value) (n : Nat) (Q : Nat → RD) : Prop := ∃ g cap sl, v = .slice sl n cap ∧ ((n = 0 ∧ cap = 0) ∨ (0 < n ∧ sl = some ⟨g, 0, none⟩)) ∧ n ≤ cap ∧ cap ≤ maxLen ∧ w.heap.size ≤ g ∧ Rws w' g 0 n Q ∧ w'.there g 0 (cap * 14)
/-- rows of one's own -/
def Owcs (w w' : World) (v : Value) (n : Nat) (Q : Nat → SD) : Prop := ∃ g cap sl, v = .slice sl n cap ∧ ((n = 0 ∧ cap = 0) ∨ (0 < n ∧ sl = some ⟨g, 0, none⟩)) ∧ n ≤ cap ∧ cap ≤ maxLen ∧ w.heap.size ≤ g ∧ Sts w' g 0 n Q ∧ w'.there g 0 (cap * 5)
theorem Owcr.base {w W W' : World} {v : Value} {n : Nat} {Q : Nat → RD} (h : Owcr W W' v n Q) (g : w.heap.size ≤ W.heap.size) : Owcr w W' v n Q := by
 obtain ⟨a, b, c, h1, h2, h3, h4, h5, h6⟩ := h
 exact ⟨a, b, c, h1, h2, h3, h4, Nat.le_trans g h5, h6⟩
theorem Owcr.bel {w W W' : World} {v : Value} {n : Nat} {Q : Nat → RD} (h : Owcr w W v n Q) (g : Bel W W') : Owcr w W' v n Q := by
 obtain ⟨a, b, c, h1, h2, h3, h4, h5, h6, h7⟩ := h
 exact ⟨a, b, c, h1, h2, h3, h4, h5, h6.bel g, bel_there h7 g⟩
theorem Owcr.sets {w W : World} {v : Value} {n q : Nat} {Q : Nat → RD} {cs : List Value} (h : Owcr w W v n Q) (hq : q < w.heap.size) : Owcr w (W.setCells q 0 cs) v n Q := by
 obtain ⟨a, b, c, h1, h2, h3, h4, h5, h6, h7⟩ := h
 refine ⟨a, b, c, h1, h2, h3, h4, h5, fun i hi => ?_, World.there_setCells h7 _ _ _⟩
 exact World.rangeAt_setCells_apart (h6 i hi) _ _ _ (.inl (by omega))

theorem Owcs.base {w W W' : World} {v : Value} {n : Nat} {Q : Nat → SD} (h : Owcs W W' v n Q) (g : w.heap.size ≤ W.heap.size) : Owcs w W' v n Q := by
 obtain ⟨a, b, c, h1, h2, h3, h4, h5, h6⟩ := h
 exact ⟨a, b, c, h1, h2, h3, h4, Nat.le_trans g h5, h6⟩
theorem Owcs.bel {w W W' : World} {v : Value} {n : Nat} {Q : Nat → SD} (h : Owcs w W v n Q) (g : Bel W W') : Owcs w W' v n Q := by
 obtain ⟨a, b, c, h1, h2, h3, h4, h5, h6, h7⟩ := h
 exact ⟨a, b, c, h1, h2, h3, h4, h5, h6.bel g, bel_there h7 g⟩
theorem Owcs.sets {w W : World} {v : Value} {n q : Nat} {Q : Nat → SD} {cs : List Value} (h : Owcs w W v n Q) (hq : q < w.heap.size) : Owcs w (W.setCells q 0 cs) v n Q := by
 obtain ⟨a, b, c, h1, h2, h3, h4, h5, h6, h7⟩ := h
 refine ⟨a, b, c, h1, h2, h3, h4, h5, fun i hi => ?_, World.there_setCells h7 _ _ _⟩
 exact World.rangeAt_setCells_apart (h6 i hi) _ _ _ (.inl (by omega))

end Go.Proofs.Ytfohggiehbplkaa
