/-
  What each function of package poly answers, and what the reference of its chapter answers: one contract a function, for every float: the answer stands in the relation of its formula to what was given; of the memory that was there nothing has turned.
-/
import Derived.Test.YtglndoncaammlaaVec
import Derived.Test.YtglndoncaammlaaPm
import Derived.Below
import Derived.OwnWalk
import Derived.Laws.AppendOwn
import Derived.WalkKit
import Derived.WalkLawsBesides
import Derived.WalkSpells
import Derived.ProofKit
import Derived.OpenShut
import Derived.Deep.RegionHeld3
namespace Go.Proofs.Ytglndoncaammlaa
open Go.ChangeShapes Go.WideShapes Go.ChangeAt Go.RowKit
set_option linter.unusedVariables false
set_option linter.unusedSimpArgs false


/-- a row of points: none, or n of them in cells -/
def AnyS (w : World) (V : Value) (n : Nat) (xs ys : Nat → Nat) : Prop := ∃ a cap, V = .slice a n cap ∧ n ≤ cap ∧ n ≤ maxLen ∧ n * 16 ≤ 140737488351232 ∧ Oks xs ys n ∧ (n = 0 ∨ (0 < n ∧ ∃ b off, a = some ⟨b, off, none⟩ ∧ Sl w b off n xs ys))
theorem AnyS.bel {w w' : World} {V : Value} {n : Nat} {xs ys : Nat → Nat} (h : AnyS w V n xs ys) (g : Bel w w') : AnyS w' V n xs ys := by
  obtain ⟨a, cap, h1, h2, h3, h4, h5, h6⟩ := h
  refine ⟨a, cap, h1, h2, h3, h4, h5, ?_⟩
  rcases h6 with h | ⟨h0, b, off, h, hs⟩
  · exact .inl h
  · exact .inr ⟨h0, b, off, h, hs.bel g⟩
/-- points that were lent: in memory of their own, with marks behind -/
def Lent (w : World) (g c n : Nat) (xs ys : Nat → Nat) : Prop := n + 2 ≤ c ∧ c ≤ maxLen ∧ Sl w g 0 n xs ys ∧ w.cell? ⟨g, n * 2, none⟩ = some (.float .f64 4635118810238550016) ∧ w.cell? ⟨g, (n + 1) * 2, none⟩ = some (.float .f64 4635189178982727680)
theorem Lent.bel {w w' : World} {g c n : Nat} {xs ys : Nat → Nat} (h : Lent w g c n xs ys) (b : Bel w w') : Lent w' g c n xs ys := ⟨h.1, h.2.1, h.2.2.1.bel b, keep b h.2.2.2.1, keep b h.2.2.2.2⟩
end Go.Proofs.Ytglndoncaammlaa
