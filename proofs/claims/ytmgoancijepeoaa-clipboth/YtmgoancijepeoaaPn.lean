/-
  What each function of package poly answers, and what the reference of its chapter answers: one contract a function, for every float: the answer stands in the relation of its formula to what was given; of the memory that was there nothing has turned.
-/
import Derived.Test.YtmgoancijepeoaaVec
import Derived.Test.YtmgoancijepeoaaPm
import Derived.Below
import Derived.OwnWalk
import Derived.Laws.MakeOwn
import Derived.WalkKit
import Derived.WalkLawsBesides
import Derived.WalkSpells
import Derived.ProofKit
import Derived.OpenShut
import Derived.Deep.RegionHeld3
namespace Go.Proofs.Ytmgoancijepeoaa
open Go.ChangeShapes Go.WideShapes Go.ChangeAt Go.RowKit
set_option linter.unusedVariables false
set_option linter.unusedSimpArgs false


theorem Own.mono {a b : Nat} {w : World} {v : Value} {L : List Pt} (h : Own b w v L) (hab : a ≤ b) : Own a w v L := by
  rcases h with h | ⟨g, c, h1, h2, h3⟩
  · exact .inl h
  · exact .inr ⟨g, c, h1, Nat.le_trans hab h2, h3⟩
theorem make_z (n : Nat) (z : Int) (hz : z = (n : Int)) (hn : n ≤ 1000) (W : World) : (Instr.makeSlice 31 (.int .i64 z) (.int .i64 z)).run Try.prog W = .ok (.slice (some ⟨W.heap.size, 0, none⟩) n n) (W.alloc (.cells (madeCells #[.float .f64 0, .float .f64 0] (n * 2)) 24)) := by
  subst hz; exact make_vec n hn W
theorem gdl_of {L : List Pt} (g : Gd (px L) (py L) L.length) : GdL L := fun p hp => by
  obtain ⟨i, hi, e⟩ := List.getElem_of_mem hp
  have h := g i hi
  unfold px py pt at h
  rw [List.getD_eq_getElem?_getD, List.getElem?_eq_getElem hi, e] at h
  exact h
theorem nums_of {L : List Pt} (g : GdL L) : Nums L := fun p hp => ⟨fin_num (g p hp).1.2.1, fin_num (g p hp).2.2.1⟩

end Go.Proofs.Ytmgoancijepeoaa
