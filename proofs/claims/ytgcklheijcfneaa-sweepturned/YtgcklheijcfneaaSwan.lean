/-
  What each function of package sweep answers, and what the reference of its chapter answers: one contract a function, for every list of boxes; of the memory that was there nothing has turned.
-/
import Derived.Test.YtgcklheijcfneaaSwam
import Derived.Below
import Derived.BigQuiet
import Derived.OwnWalk
import Derived.Laws.AppendOwn
import Derived.Laws.AppendOwnNone
import Derived.WalkKit
import Derived.WalkLawsBesides
import Derived.WalkSpells
import Derived.ProofKit
import Derived.OpenShut
import Derived.Deep.RegionHeld3
import Derived.Deep.LoopGhost
namespace Go.Proofs.Ytgcklheijcfneaa
open Go.ChangeShapes Go.WideShapes Go.ChangeAt Go.RowKit Go.Shelf Go.Lib Go.Sort
set_option linter.unusedVariables false
set_option linter.unusedSimpArgs false


theorem mem_refP {B : Nat → Bo} {n : Nat} (x : Nat × Nat) : x ∈ refP B n ↔ x.1 < x.2 ∧ x.2 < n ∧ meO (B x.1) (B x.2) = true := by
  unfold refP
  rw [mem_allB]
  simp only [decide_eq_true_eq]
  constructor
  · rintro ⟨h1, h2, h3, h4⟩; exact ⟨h3, h2, h4⟩
  · rintro ⟨h1, h2, h3⟩; exact ⟨by omega, h2, h1, h3⟩
/-- the row the other way round has as many pairs -/
theorem refP_back (B : Nat → Bo) (n : Nat) : (refP (fun i => B (n - 1 - i)) n).length = (refP B n).length := by
  have h := lex_len (l := (refP B n).map fun x => (n - 1 - x.2, n - 1 - x.1)) (r := refP (fun i => B (n - 1 - i)) n) ?_ lex_allB ?_
  · rw [List.length_map] at h; exact h.symm
  · rw [List.Nodup, List.pairwise_map]
    refine List.Pairwise.imp_of_mem (fun {a b} ha hb h e => ?_) (lex_allB (B := B) (C := B) (p := fun i k => decide (i < k)) (m := n) (n := n))
    have ma := (mem_refP (B := B) (n := n) a).1 ha
    have mb := (mem_refP (B := B) (n := n) b).1 hb
    injection e with e1 e2
    unfold lexO at h
    omega
  · rintro ⟨x, y⟩
    rw [List.mem_map, mem_refP]
    constructor
    · rintro ⟨⟨u, v⟩, hu, e⟩
      rw [mem_refP] at hu
      obtain ⟨h1, h2, h3⟩ := hu
      simp only at h1 h2 h3
      injection e with e1 e2
      simp only at e1 e2
      subst e1 e2
      refine ⟨by show n - 1 - v < n - 1 - u; omega, by show n - 1 - u < n; omega, ?_⟩
      show meO (B (n - 1 - (n - 1 - v))) (B (n - 1 - (n - 1 - u))) = true
      rw [show n - 1 - (n - 1 - v) = v by omega, show n - 1 - (n - 1 - u) = u by omega, me_sym]
      exact h3
    · rintro ⟨h1, h2, h3⟩
      simp only at h1 h2 h3
      refine ⟨(n - 1 - y, n - 1 - x), (mem_refP _).2 ⟨by show n - 1 - y < n - 1 - x; omega, by show n - 1 - x < n; omega, ?_⟩, ?_⟩
      · rw [me_sym]; exact h3
      · show (n - 1 - (n - 1 - x), n - 1 - (n - 1 - y)) = (x, y)
        rw [show n - 1 - (n - 1 - x) = x by omega, show n - 1 - (n - 1 - y) = y by omega]

end Go.Proofs.Ytgcklheijcfneaa
