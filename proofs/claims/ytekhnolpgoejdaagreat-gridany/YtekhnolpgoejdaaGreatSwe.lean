/-
  What each function of package sweep answers, and what the reference of its chapter answers: one contract a function, for every list of boxes; of the memory that was there nothing has turned.
-/
import Derived.Test.YtekhnolpgoejdaaGreatSwd
import Derived.Shelf.SlSortCmp.NoneTotal
import Derived.Below
import Derived.BigQuiet
import Derived.OwnWalk
import Derived.Laws.AppendOwn
import Derived.Laws.AppendOwnNone
import Derived.WalkKit
import Derived.WalkLawsBesides
import Derived.WalkSpells
import Derived.ProofKit
import Derived.OpenShut
import Derived.Deep.RegionHeld3
import Derived.Deep.LoopGhost
namespace Go.Proofs.YtekhnolpgoejdaaGreat
open Go.ChangeShapes Go.WideShapes Go.ChangeAt Go.RowKit Go.Shelf Go.Lib Go.Sort
set_option linter.unusedVariables false
set_option linter.unusedSimpArgs false


theorem cmpLaysP (blk off size : Nat) (w : World) : CmpLays Tryz.prog 77 #[] encP 2 cP blk off size w := fun m os dk hs x y => rising1_s x y _
set_option maxRecDepth 100000 in
set_option maxHeartbeats 4000000 in
theorem rise_s (base : Nat) (v : Value) (L : List (Nat × Nat)) (w : World) (hO : OwnR 2 base w v L.length (pRow L)) (hl : L.length < 4611686018427387904) :
    Calls Tryz.prog 47 #[v] w fun e w' => e = .returned v ∧ ∃ L', L'.Perm L ∧ (L'.Pairwise fun a b => ¬ lexO b a) ∧ OwnR 2 base w' v L'.length (pRow L') ∧ Below base w w' := by
  have key : Calls Tryz.prog 28 #[v, .func (.func 77) #[] #[]] w fun e w' => e = .returned (.tuple #[]) ∧ ∃ L', L'.Perm L ∧ (L'.Pairwise fun a b => ¬ lexO b a) ∧ OwnR 2 base w' v L'.length (pRow L') ∧ Below base w w' := by
    rcases own_split hO (by decide) with ⟨h0, sa, cp, rfl⟩ | ⟨h0, g, cp, rfl, hg, hgs, hcp⟩
    · have q := AnyF.slices_SortFunc_none sortL sa cp (.func (.func 77) #[] #[]) w
      refine q.mono ?_
      rintro e w' ⟨rfl, rfl⟩
      have e0 : L = [] := List.eq_nil_of_length_eq_zero h0
      subst e0
      exact ⟨rfl, [], List.Perm.refl _, List.Pairwise.nil, hO, Below.refl _ _⟩
    · have hO1 : OwnR 2 base w (.slice (some ⟨g, 0, none⟩) L.length cp) L.length ((flatK encP 2 L.toArray).toList.map id) := by rw [flat_map, List.toList_toArray]; exact hO
      have hH : HoldsK encP 2 w g 0 L.toArray := own_holds hO1
      have q := AnyQ.slices_SortFunc sortL 2 Tryz.isAgg32 Tryz.sizeOf32 encP (fun _ => rfl) (fun x v hv => by simp [encP] at hv; rcases hv with rfl | rfl <;> rfl) cP swoP 77 #[] g 0 cp L.toArray w (enters_of Tryz.func77 (by kernel_rfl) rfl) (cmpLaysP g 0 _ w) hH hgs (by rw [List.size_toArray]; exact hl)
      rw [List.size_toArray] at q
      refine q.mono ?_
      rintro e w' ⟨rfl, d', m, os, hp, hs, rfl⟩
      have hds : d'.size = L.toArray.size := hp.1
      have hO2 := sort_own (enc := id) (m := m) (os := os) hO1 (d := flatK encP 2 d') (by rw [List.length_map, Array.length_toList, size_flatK, size_flatK, hds]) hgs hH (by rw [size_flatK, size_flatK, hds])
      rw [flat_map] at hO2
      have hl' : d'.toList.length = L.length := by rw [Array.length_toList, hds, List.size_toArray]
      refine ⟨rfl, d'.toList, ?_, ?_, by rw [hl']; exact hO2, sort_below hg hgs⟩
      · have := permIn_list (by rw [List.size_toArray]) hp
        rwa [List.toList_toArray] at this
      · refine (sorted_list (by rw [hds, List.size_toArray]) hs).imp ?_
        intro a b hab
        rw [ltP] at hab
        unfold lexO
        simpa using hab
  clear hO
  go_enter Tryz.func47, Tryz.ntmps47
  go_wp2_with (first | (go_at_call 28; (with_reducible refine key.mono ?_); rintro e w1 ⟨rfl, L', h1, h2, h3, h4⟩))
  go_ret
  exact ⟨rfl, L', h1, h2, h3, h4⟩

end Go.Proofs.YtekhnolpgoejdaaGreat
