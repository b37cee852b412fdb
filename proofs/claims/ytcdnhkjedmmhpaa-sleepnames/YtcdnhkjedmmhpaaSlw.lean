/-
  What each function of package poly answers, and what the reference of its chapter answers: one contract a function, for every float: the answer stands in the relation of its formula to what was given; of the memory that was there nothing has turned.
-/
import Derived.Test.YtcdnhkjedmmhpaaVec
import Derived.Test.YtcdnhkjedmmhpaaSlu
import Derived.Below
import Derived.WalkKit
import Derived.WalkLawsBesides
import Derived.WalkSpells
import Derived.ProofKit
import Derived.OpenShut
import Derived.Deep.RegionHeld3
namespace Go.Proofs.Ytcdnhkjedmmhpaa
open Go.ChangeShapes Go.WideShapes Go.ChangeAt Go.RowKit
set_option linter.unusedVariables false
set_option linter.unusedSimpArgs false


def wC : Nat → SL := fun i => if i = 0 then ⟨1, true, 3, false, 9007199254740992⟩ else wS 2 i
set_option maxRecDepth 100000 in
set_option maxHeartbeats 4000000 in
theorem nm_bad (g cap : Nat) (w2 : World) (hgc : 3 ≤ cap) (hcm : cap ≤ maxLen) (hSg : Sls w2 g 0 3 wC) : Calls Try.prog 24 #[.agg #[.float .f64 0, .float .f64 0, .float .f64 0, .int .i64 0, .float .f64 0, .float .f64 0, .float .f64 0, .float .f64 4607182418800017408, .float .f64 4607182418800017408, .int .i64 9007199254740993, .slice (some ⟨g, 0, none⟩) 3 cap, .slice none 0 0, .slice none 0 0, .int .i64 0], .slice (some ⟨w2.heap.size + 1, 0, none⟩) 1 1] (((w2).alloc (.cells #[.int .i64 0] 3)).alloc (.cells #[.slice (some ⟨(w2).heap.size, 0, none⟩) 1 1] 63)) fun e w' => e = .returned (.tuple #[.agg #[.float .f64 0, .float .f64 0, .float .f64 0, .int .i64 0, .float .f64 0, .float .f64 0, .float .f64 0, .float .f64 0, .float .f64 0, .int .i64 0, .slice none 0 0, .slice none 0 0, .slice none 0 0, .int .i64 0], .slice none 0 0, .int .i64 230]) ∧ Bel (((w2).alloc (.cells #[.int .i64 0] 3)).alloc (.cells #[.slice (some ⟨(w2).heap.size, 0, none⟩) 1 1] 63)) w' := by
  have hz : (((w2).alloc (.cells #[.int .i64 0] 3)).alloc (.cells #[.slice (some ⟨(w2).heap.size, 0, none⟩) 1 1] 63)).heap.size = w2.heap.size + 2 := by simp only [World.size_alloc]
  have hb : Bel w2 (((w2).alloc (.cells #[.int .i64 0] 3)).alloc (.cells #[.slice (some ⟨(w2).heap.size, 0, none⟩) 1 1] 63)) := bl_alloc (bl_alloc (bl_refl _) _ _) _ _
  have hi : (((w2).alloc (.cells #[.int .i64 0] 3)).alloc (.cells #[.slice (some ⟨(w2).heap.size, 0, none⟩) 1 1] 63)).rangeAt w2.heap.size 0 [.int .i64 0] := by have h := rng_new w2 [.int .i64 0] 3; exact World.rangeAt_alloc h _
  have hj : (((w2).alloc (.cells #[.int .i64 0] 3)).alloc (.cells #[.slice (some ⟨(w2).heap.size, 0, none⟩) 1 1] 63)).rangeAt (w2.heap.size + 1) 0 [.slice (some ⟨w2.heap.size, 0, none⟩) 1 1] := by have h := rng_new (w2.alloc (.cells #[.int .i64 0] 3)) [.slice (some ⟨w2.heap.size, 0, none⟩) 1 1] 63; rw [World.size_alloc] at h; exact h
  refine (rest_bad 9007199254740993 g 0 3 cap (some ⟨g, 0, none⟩) wC w2.heap.size 0 1 1 (some ⟨w2.heap.size, 0, none⟩) (w2.heap.size + 1) 0 1 _ (.inr rfl) hgc hcm (hSg.bel hb) (.inr rfl) (by decide) (by unfold maxLen; decide) (fun i h => ?_) (by have h := hj 0 _ rfl; rwa [Nat.zero_add] at h) (by decide) (by decide) (by decide) (by decide) (fun i _ => ?_) (fun i h => ?_) (by decide)).mono ?_
  · obtain rfl : i = 0 := by omega
    exact hi 0 _ rfl
  · unfold wC wS; split <;> rfl
  · obtain rfl : i = 0 := by omega
    rfl
  · rintro e w' ⟨h8, h9⟩
    exact ⟨h8, h9⟩
set_option maxRecDepth 100000 in
set_option maxHeartbeats 4000000 in
theorem nm_rest (g cap : Nat) (w2 : World) (hgc : 3 ≤ cap) (hcm : cap ≤ maxLen) (hSg : Sls w2 g 0 3 wC) : Calls Try.prog 24 #[.agg #[.float .f64 0, .float .f64 0, .float .f64 0, .int .i64 0, .float .f64 0, .float .f64 0, .float .f64 0, .float .f64 4607182418800017408, .float .f64 4607182418800017408, .int .i64 9007199254740992, .slice (some ⟨g, 0, none⟩) 3 cap, .slice none 0 0, .slice none 0 0, .int .i64 0], .slice (some ⟨w2.heap.size + 1, 0, none⟩) 1 1] (((w2).alloc (.cells #[.int .i64 0] 3)).alloc (.cells #[.slice (some ⟨(w2).heap.size, 0, none⟩) 1 1] 63)) fun e w' => ∃ g' cap' v, 3 ≤ cap' ∧ cap' ≤ maxLen ∧ w2.heap.size + 2 ≤ g' ∧ Sls w' g' 0 3 (lulS (cntS wC 1) 1) ∧ w'.there g' 0 (3 * 18) ∧ OwnR 5 (w2.heap.size + 2) w' v 1 (evL 3 1) ∧ e = .returned (.tuple #[.agg #[.float .f64 0, .float .f64 0, .float .f64 0, .int .i64 0, .float .f64 0, .float .f64 0, .float .f64 0, .float .f64 4607182418800017408, .float .f64 4607182418800017408, .int .i64 9007199254740992, .slice (some ⟨g', 0, none⟩) 3 cap', .slice none 0 0, .slice none 0 0, .int .i64 0], v, .int .i64 0]) ∧ Bel (((w2).alloc (.cells #[.int .i64 0] 3)).alloc (.cells #[.slice (some ⟨(w2).heap.size, 0, none⟩) 1 1] 63)) w' := by
  have hz : (((w2).alloc (.cells #[.int .i64 0] 3)).alloc (.cells #[.slice (some ⟨(w2).heap.size, 0, none⟩) 1 1] 63)).heap.size = w2.heap.size + 2 := by simp only [World.size_alloc]
  have hb : Bel w2 (((w2).alloc (.cells #[.int .i64 0] 3)).alloc (.cells #[.slice (some ⟨(w2).heap.size, 0, none⟩) 1 1] 63)) := bl_alloc (bl_alloc (bl_refl _) _ _) _ _
  have hi : (((w2).alloc (.cells #[.int .i64 0] 3)).alloc (.cells #[.slice (some ⟨(w2).heap.size, 0, none⟩) 1 1] 63)).rangeAt w2.heap.size 0 [.int .i64 0] := by have h := rng_new w2 [.int .i64 0] 3; exact World.rangeAt_alloc h _
  have hj : (((w2).alloc (.cells #[.int .i64 0] 3)).alloc (.cells #[.slice (some ⟨(w2).heap.size, 0, none⟩) 1 1] 63)).rangeAt (w2.heap.size + 1) 0 [.slice (some ⟨w2.heap.size, 0, none⟩) 1 1] := by have h := rng_new (w2.alloc (.cells #[.int .i64 0] 3)) [.slice (some ⟨w2.heap.size, 0, none⟩) 1 1] 63; rw [World.size_alloc] at h; exact h
  refine (rest_lull 9007199254740992 g 0 3 cap (some ⟨g, 0, none⟩) wC w2.heap.size 0 1 1 (some ⟨w2.heap.size, 0, none⟩) (w2.heap.size + 1) 0 1 _ (.inr rfl) hgc hcm (hSg.bel hb) (.inr rfl) (by decide) (by unfold maxLen; decide) (fun i h => ?_) (by have h := hj 0 _ rfl; rwa [Nat.zero_add] at h) (by decide) (by decide) (by decide) (by decide) (fun i _ => ?_) (fun i h => ?_) (by decide) (by decide) (fun i h => ?_) (by decide) (fun i h => ?_)).mono ?_
  · obtain rfl : i = 0 := by omega
    exact hi 0 _ rfl
  · unfold wC wS; split <;> rfl
  · obtain rfl : i = 0 := by omega
    rfl
  · obtain rfl : i = 0 := by omega
    decide
  · obtain rfl : i = 0 := by omega
    rfl
  · rintro e w' ⟨g', cap', v, h2, h3, h4, h5, h6, h7, h8, h9⟩
    rw [hz] at h4 h7
    exact ⟨g', cap', v, h2, h3, h4, h5, h6, h7, h8, h9⟩
theorem nm_slot : (lulS (cntS wC 1) 1) 0 = ⟨1, true, 3, true, 9007199254740992⟩ := by rfl

end Go.Proofs.Ytcdnhkjedmmhpaa
