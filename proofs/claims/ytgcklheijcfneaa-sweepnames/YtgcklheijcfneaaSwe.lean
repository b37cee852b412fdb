/-
  What each function of package sweep answers, and what the reference of its chapter answers: one contract a function, for every list of boxes; of the memory that was there nothing has turned.
-/
import Derived.Test.YtgcklheijcfneaaSwd
import Derived.Shelf.SlSortCmp.NoneTotal
import Derived.Below
import Derived.BigQuiet
import Derived.OwnWalk
import Derived.Laws.AppendOwn
import Derived.Laws.AppendOwnNone
import Derived.WalkKit
import Derived.WalkLawsBesides
import Derived.WalkSpells
import Derived.ProofKit
import Derived.OpenShut
import Derived.Deep.RegionHeld3
import Derived.Deep.LoopGhost
namespace Go.Proofs.Ytgcklheijcfneaa
open Go.ChangeShapes Go.WideShapes Go.ChangeAt Go.RowKit Go.Shelf Go.Lib Go.Sort
set_option linter.unusedVariables false
set_option linter.unusedSimpArgs false


def encP (p : Nat × Nat) : List Value := [.int .i64 (p.1 : Int), .int .i64 (p.2 : Int)]
theorem ltP (x y : Nat × Nat) : ltOf cP x y = decide (x.1 < y.1 ∨ (x.1 = y.1 ∧ x.2 < y.2)) := by
  unfold ltOf cP cI
  by_cases h1 : x.1 < y.1
  · simp [h1]
  · by_cases h2 : y.1 < x.1
    · simp [h1, h2]; omega
    · have e : x.1 = y.1 := by omega
      by_cases h3 : x.2 < y.2
      · simp [e, h3]
      · by_cases h4 : y.2 < x.2 <;> simp [e, h3, h4]
theorem swoP : SWO (ltOf cP) where
  irrefl x := by rw [ltP]; simp
  trans x y z h1 h2 := by rw [ltP] at *; simp at *; omega
  ntrans x y z h1 h2 := by rw [ltP] at *; simp at *; omega
theorem cmpLaysP (blk off size : Nat) (w : World) : CmpLays Try.prog 62 #[] encP 2 cP blk off size w := fun m os dk hs x y => rising1_s x y _
theorem pRow_get : ∀ (l : List (Nat × Nat)) (k : Nat), k < l.length * 2 → (pRow l)[k]? = some (encP l[k / 2]!)[k % 2]!
  | [], k, h => by simp at h
  | a :: l, 0, h => rfl
  | a :: l, 1, h => rfl
  | a :: l, k + 2, h => by
    have e : pRow (a :: l) = .int .i64 (a.1 : Int) :: .int .i64 (a.2 : Int) :: pRow l := rfl
    rw [e, List.getElem?_cons_succ, List.getElem?_cons_succ, pRow_get l k (by simp only [List.length_cons] at h; omega), show (k + 2) / 2 = k / 2 + 1 by omega, show (k + 2) % 2 = k % 2 by omega]
    rfl
theorem flat_map (d : Array (Nat × Nat)) : (flatK encP 2 d).toList.map id = pRow d.toList := by
  rw [List.map_id]
  apply List.ext_getElem?
  intro k
  rcases Nat.lt_or_ge k (d.size * 2) with h | h
  · rw [pRow_get _ _ (by rw [Array.length_toList]; exact h), Array.getElem?_toList, Array.getElem?_eq_getElem (by rw [size_flatK]; exact h)]
    have := get_flatK encP 2 d k h
    rw [getElem!_pos _ k (by rw [size_flatK]; exact h)] at this
    rw [this]
    have hk : k / 2 < d.size := by omega
    rw [getElem!_pos d _ hk, getElem!_pos d.toList _ (by simpa using hk)]
    simp
  · rw [List.getElem?_eq_none (by rw [Array.length_toList, size_flatK]; exact h), List.getElem?_eq_none (by rw [pRow_length, Array.length_toList]; exact h)]
set_option maxRecDepth 100000 in
set_option maxHeartbeats 4000000 in
theorem rise_s (base : Nat) (v : Value) (L : List (Nat × Nat)) (w : World) (hO : OwnR 2 base w v L.length (pRow L)) (hl : L.length < 4611686018427387904) :
    Calls Try.prog 28 #[v] w fun e w' => e = .returned v ∧ ∃ L', L'.Perm L ∧ (L'.Pairwise fun a b => ¬ lexO b a) ∧ OwnR 2 base w' v L'.length (pRow L') ∧ Below base w w' := by
  have key : Calls Try.prog 45 #[v, .func (.func 62) #[] #[]] w fun e w' => e = .returned (.tuple #[]) ∧ ∃ L', L'.Perm L ∧ (L'.Pairwise fun a b => ¬ lexO b a) ∧ OwnR 2 base w' v L'.length (pRow L') ∧ Below base w w' := by
    rcases own_split hO (by decide) with ⟨h0, sa, cp, rfl⟩ | ⟨h0, g, cp, rfl, hg, hgs, hcp⟩
    · have q := AnyF.slices_SortFunc_none sortL sa cp (.func (.func 62) #[] #[]) w
      refine q.mono ?_
      rintro e w' ⟨rfl, rfl⟩
      have e0 : L = [] := List.eq_nil_of_length_eq_zero h0
      subst e0
      exact ⟨rfl, [], List.Perm.refl _, List.Pairwise.nil, hO, Below.refl _ _⟩
    · have hO1 : OwnR 2 base w (.slice (some ⟨g, 0, none⟩) L.length cp) L.length ((flatK encP 2 L.toArray).toList.map id) := by rw [flat_map, List.toList_toArray]; exact hO
      have hH : HoldsK encP 2 w g 0 L.toArray := own_holds hO1
      have q := AnyQ.slices_SortFunc sortL 2 Try.isAgg39 Try.sizeOf39 encP (fun _ => rfl) (fun x v hv => by simp [encP] at hv; rcases hv with rfl | rfl <;> rfl) cP swoP 62 #[] g 0 cp L.toArray w (enters_of Try.func62 (by kernel_rfl) rfl) (cmpLaysP g 0 _ w) hH hgs (by rw [List.size_toArray]; exact hl)
      rw [List.size_toArray] at q
      refine q.mono ?_
      rintro e w' ⟨rfl, d', m, os, hp, hs, rfl⟩
      have hds : d'.size = L.toArray.size := hp.1
      have hO2 := sort_own (enc := id) (m := m) (os := os) hO1 (d := flatK encP 2 d') (by rw [List.length_map, Array.length_toList, size_flatK, size_flatK, hds]) hgs hH (by rw [size_flatK, size_flatK, hds])
      rw [flat_map] at hO2
      have hl' : d'.toList.length = L.length := by rw [Array.length_toList, hds, List.size_toArray]
      refine ⟨rfl, d'.toList, ?_, ?_, by rw [hl']; exact hO2, sort_below hg hgs⟩
      · have := permIn_list (by rw [List.size_toArray]) hp
        rwa [List.toList_toArray] at this
      · refine (sorted_list (by rw [hds, List.size_toArray]) hs).imp ?_
        intro a b hab
        rw [ltP] at hab
        unfold lexO
        simpa using hab
  clear hO
  go_enter Try.func28, Try.ntmps28
  go_wp2_with (first | (go_at_call 45; (with_reducible refine key.mono ?_); rintro e w1 ⟨rfl, L', h1, h2, h3, h4⟩))
  go_ret
  exact ⟨rfl, L', h1, h2, h3, h4⟩

end Go.Proofs.Ytgcklheijcfneaa
