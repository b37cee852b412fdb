/-
  What each function of package poly answers, and what the reference of its chapter answers: one contract a function, for every float: the answer stands in the relation of its formula to what was given; of the memory that was there nothing has turned.
-/
import Derived.Test.YtcdnhkjedmmhpaaVec
import Derived.Test.YtcdnhkjedmmhpaaSlt
import Derived.Below
import Derived.WalkKit
import Derived.WalkLawsBesides
import Derived.WalkSpells
import Derived.ProofKit
import Derived.OpenShut
import Derived.Deep.RegionHeld3
namespace Go.Proofs.Ytcdnhkjedmmhpaa
open Go.ChangeShapes Go.WideShapes Go.ChangeAt Go.RowKit
set_option linter.unusedVariables false
set_option linter.unusedSimpArgs false


theorem world2_w (w : World) : Calls Try.prog 22 #[.int .i64 2] w fun e w' => ∃ g cap, 3 ≤ cap ∧ cap ≤ maxLen ∧ w.heap.size ≤ g ∧ Sls w' g 0 3 (wS 2) ∧ w'.there g 0 (3 * 18) ∧ e = .returned (.agg #[.float .f64 0, .float .f64 0, .float .f64 0, .int .i64 0, .float .f64 0, .float .f64 0, .float .f64 0, .float .f64 4607182418800017408, .float .f64 4607182418800017408, .int .i64 2, .slice (some ⟨g, 0, none⟩) 3 cap, .slice none 0 0, .slice none 0 0, .int .i64 0]) ∧ Bel w w' := world_w 2 w (by decide)
def wA : Nat → SL := fun i => if i = 0 then ⟨1, true, 3, true, 0⟩ else wS 2 i
theorem wok_wA : wokS wA = wS 2 := by
  funext i
  unfold wokS
  by_cases h : i = 0
  · rw [if_pos h]; subst h; rfl
  · rw [if_neg h]; unfold wA; rw [if_neg h]
set_option maxRecDepth 100000 in
set_option maxHeartbeats 4000000 in
theorem al_wake (g cap : Nat) (w2 : World) (hgc : 3 ≤ cap) (hcm : cap ≤ maxLen) (hSg : Sls w2 g 0 3 (wS 2)) : Calls Try.prog 23 #[.agg #[.float .f64 0, .float .f64 0, .float .f64 0, .int .i64 0, .float .f64 0, .float .f64 0, .float .f64 0, .float .f64 4607182418800017408, .float .f64 4607182418800017408, .int .i64 2, .slice (some ⟨g, 0, none⟩) 3 cap, .slice none 0 0, .slice none 0 0, .int .i64 0], .slice (some ⟨w2.heap.size + 1, 0, none⟩) 1 1] (((w2.setCell ⟨g, 15, none⟩ (.bool true)).alloc (.cells #[.int .i64 0, .int .i64 1] 3)).alloc (.cells #[.slice (some ⟨w2.heap.size, 0, none⟩) 2 2] 63)) fun e w' => ∃ g' cap' v, 3 ≤ cap' ∧ cap' ≤ maxLen ∧ w2.heap.size + 2 ≤ g' ∧ Sls w' g' 0 3 (wS 2) ∧ w'.there g' 0 (3 * 18) ∧ OwnR 5 (w2.heap.size + 2) w' v 1 (evc 4 0) ∧ e = .returned (.tuple #[.agg #[.float .f64 0, .float .f64 0, .float .f64 0, .int .i64 0, .float .f64 0, .float .f64 0, .float .f64 0, .float .f64 4607182418800017408, .float .f64 4607182418800017408, .int .i64 2, .slice (some ⟨g', 0, none⟩) 3 cap', .slice none 0 0, .slice none 0 0, .int .i64 0], v, .int .i64 0]) ∧ Bel (((w2.setCell ⟨g, 15, none⟩ (.bool true)).alloc (.cells #[.int .i64 0, .int .i64 1] 3)).alloc (.cells #[.slice (some ⟨w2.heap.size, 0, none⟩) 2 2] 63)) w' := by
  have h1 := sls_upd (S' := wA) (x := .bool true) hSg (show 0 < 3 by decide) (fun i hn => by unfold wA; rw [if_neg hn]) (by rfl) (show 15 = 0 * 18 + 15 by decide) (by decide)
  have hb : Bel (w2.setCell ⟨g, 15, none⟩ (.bool true)) (((w2.setCell ⟨g, 15, none⟩ (.bool true)).alloc (.cells #[.int .i64 0, .int .i64 1] 3)).alloc (.cells #[.slice (some ⟨w2.heap.size, 0, none⟩) 2 2] 63)) := bl_alloc (bl_alloc (bl_refl _) _ _) _ _
  have hz : (((w2.setCell ⟨g, 15, none⟩ (.bool true)).alloc (.cells #[.int .i64 0, .int .i64 1] 3)).alloc (.cells #[.slice (some ⟨w2.heap.size, 0, none⟩) 2 2] 63)).heap.size = w2.heap.size + 2 := by simp only [World.size_alloc, size_set]
  have hi : (((w2.setCell ⟨g, 15, none⟩ (.bool true)).alloc (.cells #[.int .i64 0, .int .i64 1] 3)).alloc (.cells #[.slice (some ⟨w2.heap.size, 0, none⟩) 2 2] 63)).rangeAt w2.heap.size 0 [.int .i64 0, .int .i64 1] := by have h := rng_new (w2.setCell ⟨g, 15, none⟩ (.bool true)) [.int .i64 0, .int .i64 1] 3; rw [size_set] at h; exact World.rangeAt_alloc h _
  have hj : (((w2.setCell ⟨g, 15, none⟩ (.bool true)).alloc (.cells #[.int .i64 0, .int .i64 1] 3)).alloc (.cells #[.slice (some ⟨w2.heap.size, 0, none⟩) 2 2] 63)).rangeAt (w2.heap.size + 1) 0 [.slice (some ⟨w2.heap.size, 0, none⟩) 2 2] := by have h := rng_new ((w2.setCell ⟨g, 15, none⟩ (.bool true)).alloc (.cells #[.int .i64 0, .int .i64 1] 3)) [.slice (some ⟨w2.heap.size, 0, none⟩) 2 2] 63; rw [World.size_alloc, size_set] at h; exact h
  refine (wake_one 2 g 0 3 cap (some ⟨g, 0, none⟩) wA w2.heap.size 0 2 2 (some ⟨w2.heap.size, 0, none⟩) (w2.heap.size + 1) 0 1 _ (.inr rfl) hgc hcm (h1.bel hb) (.inr rfl) (by decide) (by unfold maxLen; decide) (fun i h => ?_) (by have h := hj 0 _ rfl; rwa [Nat.zero_add] at h) (by decide) (by decide) (by decide) (by decide) (fun i _ => ?_) (fun i h => ?_) (by decide) (by decide) (fun i h2 h3 => ?_)).mono ?_
  · rcases (show i = 0 ∨ i = 1 by omega) with rfl | rfl
    · exact hi 0 _ rfl
    · exact hi 1 _ rfl
  · unfold wA wS; split <;> rfl
  · rcases (show i = 0 ∨ i = 1 by omega) with rfl | rfl <;> rfl
  · obtain rfl : i = 1 := by omega
    rfl
  · rintro e w' ⟨g', cap', v, h2, h3, h4, h5, h6, h7, h8, h9⟩
    rw [wok_wA] at h5
    rw [hz] at h4 h7
    exact ⟨g', cap', v, h2, h3, h4, h5, h6, h7, h8, h9⟩
def wB : Nat → SL := fun i => if i = 0 then ⟨1, true, 3, false, 1⟩ else if i = 1 then ⟨1, true, 3, false, 5⟩ else wS 2 i
set_option maxRecDepth 100000 in
set_option maxHeartbeats 4000000 in
theorem al_rest (g cap : Nat) (w2 : World) (hgc : 3 ≤ cap) (hcm : cap ≤ maxLen) (hSg : Sls w2 g 0 3 (wS 2)) : Calls Try.prog 24 #[.agg #[.float .f64 0, .float .f64 0, .float .f64 0, .int .i64 0, .float .f64 0, .float .f64 0, .float .f64 0, .float .f64 4607182418800017408, .float .f64 4607182418800017408, .int .i64 2, .slice (some ⟨g, 0, none⟩) 3 cap, .slice none 0 0, .slice none 0 0, .int .i64 0], .slice (some ⟨w2.heap.size + 1, 0, none⟩) 1 1] ((((w2.setCell ⟨g, 16, none⟩ (.int .i64 1)).setCell ⟨g, 34, none⟩ (.int .i64 5)).alloc (.cells #[.int .i64 0, .int .i64 1] 3)).alloc (.cells #[.slice (some ⟨w2.heap.size, 0, none⟩) 2 2] 63)) fun e w' => ∃ g' cap' v, 3 ≤ cap' ∧ cap' ≤ maxLen ∧ w2.heap.size + 2 ≤ g' ∧ Sls w' g' 0 3 (lulS (cntS wB 2) 2) ∧ w'.there g' 0 (3 * 18) ∧ OwnR 5 (w2.heap.size + 2) w' v 2 (evL 3 2) ∧ e = .returned (.tuple #[.agg #[.float .f64 0, .float .f64 0, .float .f64 0, .int .i64 0, .float .f64 0, .float .f64 0, .float .f64 0, .float .f64 4607182418800017408, .float .f64 4607182418800017408, .int .i64 2, .slice (some ⟨g', 0, none⟩) 3 cap', .slice none 0 0, .slice none 0 0, .int .i64 0], v, .int .i64 0]) ∧ Bel ((((w2.setCell ⟨g, 16, none⟩ (.int .i64 1)).setCell ⟨g, 34, none⟩ (.int .i64 5)).alloc (.cells #[.int .i64 0, .int .i64 1] 3)).alloc (.cells #[.slice (some ⟨w2.heap.size, 0, none⟩) 2 2] 63)) w' := by
  have h0 := sls_upd (S' := fun i => if i = 0 then ⟨1, true, 3, false, 1⟩ else wS 2 i) (x := .int .i64 1) hSg (show 0 < 3 by decide) (fun i hn => by rw [if_neg hn]) (by rfl) (show 16 = 0 * 18 + 16 by decide) (by decide)
  have h1 := sls_upd (S' := wB) (x := .int .i64 5) h0 (show 1 < 3 by decide) (fun i hn => by unfold wB; rw [if_neg hn]) (by rfl) (show 34 = 1 * 18 + 16 by decide) (by decide)
  have hb : Bel ((w2.setCell ⟨g, 16, none⟩ (.int .i64 1)).setCell ⟨g, 34, none⟩ (.int .i64 5)) ((((w2.setCell ⟨g, 16, none⟩ (.int .i64 1)).setCell ⟨g, 34, none⟩ (.int .i64 5)).alloc (.cells #[.int .i64 0, .int .i64 1] 3)).alloc (.cells #[.slice (some ⟨w2.heap.size, 0, none⟩) 2 2] 63)) := bl_alloc (bl_alloc (bl_refl _) _ _) _ _
  have hz : ((((w2.setCell ⟨g, 16, none⟩ (.int .i64 1)).setCell ⟨g, 34, none⟩ (.int .i64 5)).alloc (.cells #[.int .i64 0, .int .i64 1] 3)).alloc (.cells #[.slice (some ⟨w2.heap.size, 0, none⟩) 2 2] 63)).heap.size = w2.heap.size + 2 := by simp only [World.size_alloc, size_set]
  have hi : ((((w2.setCell ⟨g, 16, none⟩ (.int .i64 1)).setCell ⟨g, 34, none⟩ (.int .i64 5)).alloc (.cells #[.int .i64 0, .int .i64 1] 3)).alloc (.cells #[.slice (some ⟨w2.heap.size, 0, none⟩) 2 2] 63)).rangeAt w2.heap.size 0 [.int .i64 0, .int .i64 1] := by have h := rng_new ((w2.setCell ⟨g, 16, none⟩ (.int .i64 1)).setCell ⟨g, 34, none⟩ (.int .i64 5)) [.int .i64 0, .int .i64 1] 3; rw [size_set, size_set] at h; exact World.rangeAt_alloc h _
  have hj : ((((w2.setCell ⟨g, 16, none⟩ (.int .i64 1)).setCell ⟨g, 34, none⟩ (.int .i64 5)).alloc (.cells #[.int .i64 0, .int .i64 1] 3)).alloc (.cells #[.slice (some ⟨w2.heap.size, 0, none⟩) 2 2] 63)).rangeAt (w2.heap.size + 1) 0 [.slice (some ⟨w2.heap.size, 0, none⟩) 2 2] := by have h := rng_new (((w2.setCell ⟨g, 16, none⟩ (.int .i64 1)).setCell ⟨g, 34, none⟩ (.int .i64 5)).alloc (.cells #[.int .i64 0, .int .i64 1] 3)) [.slice (some ⟨w2.heap.size, 0, none⟩) 2 2] 63; rw [World.size_alloc, size_set, size_set] at h; exact h
  refine (rest_lull 2 g 0 3 cap (some ⟨g, 0, none⟩) wB w2.heap.size 0 2 2 (some ⟨w2.heap.size, 0, none⟩) (w2.heap.size + 1) 0 1 _ (.inr rfl) hgc hcm (h1.bel hb) (.inr rfl) (by decide) (by unfold maxLen; decide) (fun i h => ?_) (by have h := hj 0 _ rfl; rwa [Nat.zero_add] at h) (by decide) (by decide) (by decide) (by decide) (fun i _ => ?_) (fun i h => ?_) (by decide) (by decide) (fun i h => ?_) (by decide) (fun i h => ?_)).mono ?_
  · rcases (show i = 0 ∨ i = 1 by omega) with rfl | rfl
    · exact hi 0 _ rfl
    · exact hi 1 _ rfl
  · unfold wB wS; split; rfl; split <;> rfl
  · rcases (show i = 0 ∨ i = 1 by omega) with rfl | rfl <;> rfl
  · rcases (show i = 0 ∨ i = 1 by omega) with rfl | rfl <;> decide
  · rcases (show i = 0 ∨ i = 1 by omega) with rfl | rfl <;> rfl
  · rintro e w' ⟨g', cap', v, h2, h3, h4, h5, h6, h7, h8, h9⟩
    rw [hz] at h4 h7
    exact ⟨g', cap', v, h2, h3, h4, h5, h6, h7, h8, h9⟩

end Go.Proofs.Ytcdnhkjedmmhpaa
