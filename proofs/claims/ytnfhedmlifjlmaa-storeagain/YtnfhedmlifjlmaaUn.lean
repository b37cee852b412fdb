/-
  What each function of package store answers, and what its memory holds afterwards: one contract a function; of the memory that was there only the store's own blocks have turned.
-/
import Derived.Test.YtnfhedmlifjlmaaChecked
import Derived.Test.YtnfhedmlifjlmaaSa
import Derived.Below
import Derived.BigQuiet
import Derived.OwnWalk
import Derived.Laws.AppendOwn
import Derived.Laws.AppendOwnNone
import Derived.WalkKit
import Derived.WalkLawsBesides
import Derived.WalkSpells
import Derived.ProofKit
import Derived.OpenShut
import Derived.Deep.RegionHeld3
import Derived.Deep.LoopGhost
import Derived.Laws.StructEq
import Derived.Lib.Builder
import Derived.Deep.DeepCutAuto
import Derived.Lib.SliceRun
import Derived.Laws.MakeOwn
namespace Go.Proofs.Ytnfhedmlifjlmaa
open Go.ChangeShapes Go.WideShapes Go.ChangeAt Go.RowKit Go.Lib
set_option linter.unusedVariables false
set_option linter.unusedSimpArgs false
set_option maxRecDepth 100000
set_option maxHeartbeats 4000000


theorem NextIs.uniq {s : Ss} {a b : Nat} (h : NextIs s a) (k : NextIs s b) : a = b := by
  rcases Nat.lt_trichotomy a b with h1 | h1 | h1
  · exact absurd (k.fl a h1) (h.no (Nat.lt_of_lt_of_le h1 k.le))
  · exact h1
  · exact absurd (h.fl b h1) (k.no (Nat.lt_of_lt_of_le h1 h.le))
instance (s : Ss) (i : Nat) : Decidable (full s i) := inferInstanceAs (Decidable (_ ∨ _))
instance (s : Ss) (a b : Nat) : Decidable (Named s a b) := inferInstanceAs (Decidable (_ ∧ _))
def nextB (s : Ss) (k : Nat) : Bool := decide (k ≤ s.U.length) && (List.range k).all (fun i => decide (full s i)) && (decide (¬ k < s.U.length) || decide (¬ full s k))
theorem next_of {s : Ss} {k : Nat} (h : nextB s k = true) : NextIs s k := by
  unfold nextB at h
  simp only [Bool.and_eq_true, decide_eq_true_eq, List.all_eq_true, List.mem_range, Bool.or_eq_true] at h
  exact ⟨h.1.1, h.1.2, fun hk => by rcases h.2 with h2 | h2; exact absurd hk h2; exact h2⟩
theorem fr_new {w W : World} (h : Bel w W) {p : Nat} (hp : w.heap.size ≤ p) : Fr [] (Sm.F ⟨p, none, 0, none, 0, none, 0⟩) w W := ⟨h.1.os, h.1.tape, h.1.output, h.1.size, fun k hk _ => h.1.block k hk, fun k hk => .inr (by simp [Sm.F, ob] at hk; omega)⟩
theorem Okk.nx {s : Ss} (h : Okk s) {k : Nat} (hk : NextIs s k) : Okk { s with nx := k } := ⟨h.m1, h.m2, h.um, h.ll, h.tl, h.uo, hk.le, hk.fl, h.lc⟩

end Go.Proofs.Ytnfhedmlifjlmaa
