/-
  What each function of package poly answers, and what the reference of its chapter answers: one contract a function, for every float: the answer stands in the relation of its formula to what was given; of the memory that was there nothing has turned.
-/
import Derived.Test.YtmgoancijepeoaaVec
import Derived.Test.YtmgoancijepeoaaDa
import Derived.Below
import Derived.WalkKit
import Derived.WalkLawsBesides
import Derived.WalkSpells
import Derived.ProofKit
import Derived.OpenShut
import Derived.Deep.RegionHeld3
namespace Go.Proofs.Ytmgoancijepeoaa
open Go.ChangeShapes Go.WideShapes Go.ChangeAt Go.RowKit
set_option linter.unusedVariables false
set_option linter.unusedSimpArgs false


set_option maxRecDepth 100000 in
set_option maxHeartbeats 1000000 in
theorem rseg_err (nx ny fd ax ay bx b_y : Nat) (w : World) (o1 : okK .f64 nx) (o2 : okK .f64 ny) (o3 : okK .f64 fd) (oa : okK .f64 ax) (ob : okK .f64 ay) (oc : okK .f64 bx) (od : okK .f64 b_y) (h0 : ¬ farE (nx, ny, fd) [(ax, ay), (bx, b_y)] = 0) : Calls Try.prog 13 #[.agg #[.float .f64 nx, .float .f64 ny, .float .f64 fd], .agg #[.float .f64 ax, .float .f64 ay], .agg #[.float .f64 bx, .float .f64 b_y]] w fun e w' => e = .returned (.tuple #[.slice none 0 0, .slice none 0 0, .int .i64 (farE (nx, ny, fd) [(ax, ay), (bx, b_y)])]) ∧ Bel w w' := by
  have z0_0 : (w.alloc (.cells #[.float .f64 nx, .float .f64 ny, .float .f64 fd] 26)).cell? ⟨w.heap.size, 0, none⟩ = some (.float .f64 nx) := by rw [World.cell?_alloc_new]; rfl
  replace z0_0 := up_alloc (o := .cells #[.float .f64 ax, .float .f64 ay] 24) z0_0
  replace z0_0 := up_alloc (o := .cells #[.float .f64 bx, .float .f64 b_y] 24) z0_0
  have z0_1 : (w.alloc (.cells #[.float .f64 nx, .float .f64 ny, .float .f64 fd] 26)).cell? ⟨w.heap.size, 1, none⟩ = some (.float .f64 ny) := by rw [World.cell?_alloc_new]; rfl
  replace z0_1 := up_alloc (o := .cells #[.float .f64 ax, .float .f64 ay] 24) z0_1
  replace z0_1 := up_alloc (o := .cells #[.float .f64 bx, .float .f64 b_y] 24) z0_1
  have z0_2 : (w.alloc (.cells #[.float .f64 nx, .float .f64 ny, .float .f64 fd] 26)).cell? ⟨w.heap.size, 2, none⟩ = some (.float .f64 fd) := by rw [World.cell?_alloc_new]; rfl
  replace z0_2 := up_alloc (o := .cells #[.float .f64 ax, .float .f64 ay] 24) z0_2
  replace z0_2 := up_alloc (o := .cells #[.float .f64 bx, .float .f64 b_y] 24) z0_2
  have z1_0 : ((w.alloc (.cells #[.float .f64 nx, .float .f64 ny, .float .f64 fd] 26)).alloc (.cells #[.float .f64 ax, .float .f64 ay] 24)).cell? ⟨w.heap.size + 1, 0, none⟩ = some (.float .f64 ax) := by rw [← (show (w.alloc (.cells #[.float .f64 nx, .float .f64 ny, .float .f64 fd] 26)).heap.size = w.heap.size + 1 by simp only [World.size_alloc]), World.cell?_alloc_new]; rfl
  replace z1_0 := up_alloc (o := .cells #[.float .f64 bx, .float .f64 b_y] 24) z1_0
  have z1_1 : ((w.alloc (.cells #[.float .f64 nx, .float .f64 ny, .float .f64 fd] 26)).alloc (.cells #[.float .f64 ax, .float .f64 ay] 24)).cell? ⟨w.heap.size + 1, 1, none⟩ = some (.float .f64 ay) := by rw [← (show (w.alloc (.cells #[.float .f64 nx, .float .f64 ny, .float .f64 fd] 26)).heap.size = w.heap.size + 1 by simp only [World.size_alloc]), World.cell?_alloc_new]; rfl
  replace z1_1 := up_alloc (o := .cells #[.float .f64 bx, .float .f64 b_y] 24) z1_1
  have z2_0 : (((w.alloc (.cells #[.float .f64 nx, .float .f64 ny, .float .f64 fd] 26)).alloc (.cells #[.float .f64 ax, .float .f64 ay] 24)).alloc (.cells #[.float .f64 bx, .float .f64 b_y] 24)).cell? ⟨w.heap.size + 1 + 1, 0, none⟩ = some (.float .f64 bx) := by rw [← (show ((w.alloc (.cells #[.float .f64 nx, .float .f64 ny, .float .f64 fd] 26)).alloc (.cells #[.float .f64 ax, .float .f64 ay] 24)).heap.size = w.heap.size + 1 + 1 by simp only [World.size_alloc]), World.cell?_alloc_new]; rfl
  have z2_1 : (((w.alloc (.cells #[.float .f64 nx, .float .f64 ny, .float .f64 fd] 26)).alloc (.cells #[.float .f64 ax, .float .f64 ay] 24)).alloc (.cells #[.float .f64 bx, .float .f64 b_y] 24)).cell? ⟨w.heap.size + 1 + 1, 1, none⟩ = some (.float .f64 b_y) := by rw [← (show ((w.alloc (.cells #[.float .f64 nx, .float .f64 ny, .float .f64 fd] 26)).alloc (.cells #[.float .f64 ax, .float .f64 ay] 24)).heap.size = w.heap.size + 1 + 1 by simp only [World.size_alloc]), World.cell?_alloc_new]; rfl
  have B0 : Bel w (((w.alloc (.cells #[.float .f64 nx, .float .f64 ny, .float .f64 fd] 26)).alloc (.cells #[.float .f64 ax, .float .f64 ay] 24)).alloc (.cells #[.float .f64 bx, .float .f64 b_y] 24)) := bl_alloc (bl_alloc (bl_alloc (bl_refl w) _ _) _ _) _ _
  have h0' : ¬ (farE (nx, ny, fd) [(ax, ay), (bx, b_y)] == 0) = true := by simpa using h0
  go_enter Try.func13, Try.ntmps13
  go_wp2
  refine wp_region_mono 9 rfl (fun i W v => match i with | 0 => v = .agg #[.float .f64 nx, .float .f64 ny, .float .f64 fd] | 1 => v = .int .i64 (pE (nx, ny, fd)) | 2 => v = .agg #[.float .f64 ax, .float .f64 ay] | 3 => v = .int .i64 (rlE ax ay) | 4 => v = .agg #[.float .f64 bx, .float .f64 b_y] | 5 => v = .int .i64 (rlE bx b_y) | 6 => ∃ g, v = .slice (some ⟨g, 0, none⟩) 3 3 ∧ W.cell? ⟨g, 0, none⟩ = some (.int .i64 (pE (nx, ny, fd))) ∧ W.cell? ⟨g, 1, none⟩ = some (.int .i64 (rlE ax ay)) ∧ W.cell? ⟨g, 2, none⟩ = some (.int .i64 (rlE bx b_y)) | 7 => v = .int .i64 (farE (nx, ny, fd) [(ax, ay), (bx, b_y)]) | 8 => v = .int .i64 (farE (nx, ny, fd) [(ax, ay), (bx, b_y)]) | _ => False) ?A_wm (by kernel_rfl) (by kernel_rfl) ?hA_wm ?hmo_wm ?hq_wm ?ht_wm
  case hA_wm =>
    intro s
    simp only [putL, dstO, Act.put, List.getElem?_toArray, List.getElem?_cons_zero, List.getElem?_cons_succ, Option.bind_some, List.setIfInBounds_toArray, List.set_cons_zero, List.set_cons_succ, if_true]
    all_goals exact rfl
  case hmo_wm =>
    intro i W W' v hi hb h
    rcases (show i = 0 ∨ i = 1 ∨ i = 2 ∨ i = 3 ∨ i = 4 ∨ i = 5 ∨ i = 6 ∨ i = 7 ∨ i = 8 by omega) with rfl | rfl | rfl | rfl | rfl | rfl | rfl | rfl | rfl
    all_goals first | exact h | (obtain ⟨g, e4, hg0, hg1, hg2⟩ := h; exact ⟨g, e4, keep hb hg0, keep hb hg1, keep hb hg2⟩)
  case hq_wm =>
    intro i o hi ho s W hs hb K hK
    have uz0_0 := keep hb z0_0; have uz0_1 := keep hb z0_1; have uz0_2 := keep hb z0_2; have uz1_0 := keep hb z1_0; have uz1_1 := keep hb z1_1; have uz2_0 := keep hb z2_0; have uz2_1 := keep hb z2_1
    rcases (show i = 0 ∨ i = 1 ∨ i = 2 ∨ i = 3 ∨ i = 4 ∨ i = 5 ∨ i = 6 ∨ i = 7 ∨ i = 8 by omega) with rfl | rfl | rfl | rfl | rfl | rfl | rfl | rfl | rfl
    · cases ho
      simp only [Act.put, List.setIfInBounds_toArray, List.set_cons_zero, List.set_cons_succ] at hK
      clear hs
      go_simp
      all_goals (try go_wp2_with (first | (go_at_call 17; refine (rcchk_any _ _ _ _ o1 o2 o3).mono ?_; rintro e w' ⟨rfl, hb1⟩) | (go_at_call 44; (first | with_reducible refine (real_d _ _ _ oa ob).mono ?_ | with_reducible refine (real_d _ _ _ oc od).mono ?_); rintro e w' ⟨rfl, hb1⟩) | (go_at_call 43; refine (first3 _ _ _ _ _ hg0 hg1 hg2).mono ?_; rintro e w' ⟨rfl, rfl⟩; rw [seg_first])))
      all_goals first | exact hK.out _ _ ⟨_, rfl, by rw [World.cell?_alloc_new]; rfl, by rw [World.cell?_alloc_new]; rfl, by rw [World.cell?_alloc_new]; rfl⟩ (bl_alloc (bl_refl _) _ _) | exact hK.out _ _ rfl (bl_refl _) | exact hK.out _ _ rfl (by assumption) | exact hK.out _ _ (by assumption) (by assumption)
    · cases ho
      have e0 : s 0 = _ := hs 0 (by decide) (by kernel_rfl)
      simp only [e0] at hK ⊢
      simp only [Act.put, List.setIfInBounds_toArray, List.set_cons_zero, List.set_cons_succ] at hK
      clear hs
      go_simp
      all_goals (try go_wp2_with (first | (go_at_call 17; refine (rcchk_any _ _ _ _ o1 o2 o3).mono ?_; rintro e w' ⟨rfl, hb1⟩) | (go_at_call 44; (first | with_reducible refine (real_d _ _ _ oa ob).mono ?_ | with_reducible refine (real_d _ _ _ oc od).mono ?_); rintro e w' ⟨rfl, hb1⟩) | (go_at_call 43; refine (first3 _ _ _ _ _ hg0 hg1 hg2).mono ?_; rintro e w' ⟨rfl, rfl⟩; rw [seg_first])))
      all_goals first | exact hK.out _ _ ⟨_, rfl, by rw [World.cell?_alloc_new]; rfl, by rw [World.cell?_alloc_new]; rfl, by rw [World.cell?_alloc_new]; rfl⟩ (bl_alloc (bl_refl _) _ _) | exact hK.out _ _ rfl (bl_refl _) | exact hK.out _ _ rfl (by assumption) | exact hK.out _ _ (by assumption) (by assumption)
    · cases ho
      simp only [Act.put, List.setIfInBounds_toArray, List.set_cons_zero, List.set_cons_succ] at hK
      clear hs
      go_simp
      all_goals (try go_wp2_with (first | (go_at_call 17; refine (rcchk_any _ _ _ _ o1 o2 o3).mono ?_; rintro e w' ⟨rfl, hb1⟩) | (go_at_call 44; (first | with_reducible refine (real_d _ _ _ oa ob).mono ?_ | with_reducible refine (real_d _ _ _ oc od).mono ?_); rintro e w' ⟨rfl, hb1⟩) | (go_at_call 43; refine (first3 _ _ _ _ _ hg0 hg1 hg2).mono ?_; rintro e w' ⟨rfl, rfl⟩; rw [seg_first])))
      all_goals first | exact hK.out _ _ ⟨_, rfl, by rw [World.cell?_alloc_new]; rfl, by rw [World.cell?_alloc_new]; rfl, by rw [World.cell?_alloc_new]; rfl⟩ (bl_alloc (bl_refl _) _ _) | exact hK.out _ _ rfl (bl_refl _) | exact hK.out _ _ rfl (by assumption) | exact hK.out _ _ (by assumption) (by assumption)
    · cases ho
      have e2 : s 2 = _ := hs 2 (by decide) (by kernel_rfl)
      simp only [e2] at hK ⊢
      simp only [Act.put, List.setIfInBounds_toArray, List.set_cons_zero, List.set_cons_succ] at hK
      clear hs
      go_simp
      all_goals (try go_wp2_with (first | (go_at_call 17; refine (rcchk_any _ _ _ _ o1 o2 o3).mono ?_; rintro e w' ⟨rfl, hb1⟩) | (go_at_call 44; (first | with_reducible refine (real_d _ _ _ oa ob).mono ?_ | with_reducible refine (real_d _ _ _ oc od).mono ?_); rintro e w' ⟨rfl, hb1⟩) | (go_at_call 43; refine (first3 _ _ _ _ _ hg0 hg1 hg2).mono ?_; rintro e w' ⟨rfl, rfl⟩; rw [seg_first])))
      all_goals first | exact hK.out _ _ ⟨_, rfl, by rw [World.cell?_alloc_new]; rfl, by rw [World.cell?_alloc_new]; rfl, by rw [World.cell?_alloc_new]; rfl⟩ (bl_alloc (bl_refl _) _ _) | exact hK.out _ _ rfl (bl_refl _) | exact hK.out _ _ rfl (by assumption) | exact hK.out _ _ (by assumption) (by assumption)
    · cases ho
      simp only [Act.put, List.setIfInBounds_toArray, List.set_cons_zero, List.set_cons_succ] at hK
      clear hs
      go_simp
      all_goals (try go_wp2_with (first | (go_at_call 17; refine (rcchk_any _ _ _ _ o1 o2 o3).mono ?_; rintro e w' ⟨rfl, hb1⟩) | (go_at_call 44; (first | with_reducible refine (real_d _ _ _ oa ob).mono ?_ | with_reducible refine (real_d _ _ _ oc od).mono ?_); rintro e w' ⟨rfl, hb1⟩) | (go_at_call 43; refine (first3 _ _ _ _ _ hg0 hg1 hg2).mono ?_; rintro e w' ⟨rfl, rfl⟩; rw [seg_first])))
      all_goals first | exact hK.out _ _ ⟨_, rfl, by rw [World.cell?_alloc_new]; rfl, by rw [World.cell?_alloc_new]; rfl, by rw [World.cell?_alloc_new]; rfl⟩ (bl_alloc (bl_refl _) _ _) | exact hK.out _ _ rfl (bl_refl _) | exact hK.out _ _ rfl (by assumption) | exact hK.out _ _ (by assumption) (by assumption)
    · cases ho
      have e4 : s 4 = _ := hs 4 (by decide) (by kernel_rfl)
      simp only [e4] at hK ⊢
      simp only [Act.put, List.setIfInBounds_toArray, List.set_cons_zero, List.set_cons_succ] at hK
      clear hs
      go_simp
      all_goals (try go_wp2_with (first | (go_at_call 17; refine (rcchk_any _ _ _ _ o1 o2 o3).mono ?_; rintro e w' ⟨rfl, hb1⟩) | (go_at_call 44; (first | with_reducible refine (real_d _ _ _ oa ob).mono ?_ | with_reducible refine (real_d _ _ _ oc od).mono ?_); rintro e w' ⟨rfl, hb1⟩) | (go_at_call 43; refine (first3 _ _ _ _ _ hg0 hg1 hg2).mono ?_; rintro e w' ⟨rfl, rfl⟩; rw [seg_first])))
      all_goals first | exact hK.out _ _ ⟨_, rfl, by rw [World.cell?_alloc_new]; rfl, by rw [World.cell?_alloc_new]; rfl, by rw [World.cell?_alloc_new]; rfl⟩ (bl_alloc (bl_refl _) _ _) | exact hK.out _ _ rfl (bl_refl _) | exact hK.out _ _ rfl (by assumption) | exact hK.out _ _ (by assumption) (by assumption)
    · cases ho
      have e1 : s 1 = _ := hs 1 (by decide) (by kernel_rfl)
      have e3 : s 3 = _ := hs 3 (by decide) (by kernel_rfl)
      have e5 : s 5 = _ := hs 5 (by decide) (by kernel_rfl)
      simp only [e1, e3, e5] at hK ⊢
      simp only [Act.put, List.setIfInBounds_toArray, List.set_cons_zero, List.set_cons_succ] at hK
      clear hs
      go_simp
      all_goals (try go_wp2_with (first | (go_at_call 17; refine (rcchk_any _ _ _ _ o1 o2 o3).mono ?_; rintro e w' ⟨rfl, hb1⟩) | (go_at_call 44; (first | with_reducible refine (real_d _ _ _ oa ob).mono ?_ | with_reducible refine (real_d _ _ _ oc od).mono ?_); rintro e w' ⟨rfl, hb1⟩) | (go_at_call 43; refine (first3 _ _ _ _ _ hg0 hg1 hg2).mono ?_; rintro e w' ⟨rfl, rfl⟩; rw [seg_first])))
      all_goals first | exact hK.out _ _ ⟨_, rfl, by rw [World.cell?_alloc_new]; rfl, by rw [World.cell?_alloc_new]; rfl, by rw [World.cell?_alloc_new]; rfl⟩ (bl_alloc (bl_refl _) _ _) | exact hK.out _ _ rfl (bl_refl _) | exact hK.out _ _ rfl (by assumption) | exact hK.out _ _ (by assumption) (by assumption)
    · cases ho
      obtain ⟨g, e6, hg0, hg1, hg2⟩ := hs 6 (by decide) (by kernel_rfl)
      simp only [e6] at hK ⊢
      simp only [Act.put, List.setIfInBounds_toArray, List.set_cons_zero, List.set_cons_succ] at hK
      clear hs
      go_simp
      all_goals (try go_wp2_with (first | (go_at_call 17; refine (rcchk_any _ _ _ _ o1 o2 o3).mono ?_; rintro e w' ⟨rfl, hb1⟩) | (go_at_call 44; (first | with_reducible refine (real_d _ _ _ oa ob).mono ?_ | with_reducible refine (real_d _ _ _ oc od).mono ?_); rintro e w' ⟨rfl, hb1⟩) | (go_at_call 43; refine (first3 _ _ _ _ _ hg0 hg1 hg2).mono ?_; rintro e w' ⟨rfl, rfl⟩; rw [seg_first])))
      all_goals first | exact hK.out _ _ ⟨_, rfl, by rw [World.cell?_alloc_new]; rfl, by rw [World.cell?_alloc_new]; rfl, by rw [World.cell?_alloc_new]; rfl⟩ (bl_alloc (bl_refl _) _ _) | exact hK.out _ _ rfl (bl_refl _) | exact hK.out _ _ rfl (by assumption) | exact hK.out _ _ (by assumption) (by assumption)
    · cases ho
      have e7 : s 7 = _ := hs 7 (by decide) (by kernel_rfl)
      simp only [e7] at hK ⊢
      simp only [Act.put, List.setIfInBounds_toArray, List.set_cons_zero, List.set_cons_succ] at hK
      clear hs
      go_simp
      all_goals (try go_wp2_with (first | (go_at_call 17; refine (rcchk_any _ _ _ _ o1 o2 o3).mono ?_; rintro e w' ⟨rfl, hb1⟩) | (go_at_call 44; (first | with_reducible refine (real_d _ _ _ oa ob).mono ?_ | with_reducible refine (real_d _ _ _ oc od).mono ?_); rintro e w' ⟨rfl, hb1⟩) | (go_at_call 43; refine (first3 _ _ _ _ _ hg0 hg1 hg2).mono ?_; rintro e w' ⟨rfl, rfl⟩; rw [seg_first])))
      all_goals first | exact hK.out _ _ ⟨_, rfl, by rw [World.cell?_alloc_new]; rfl, by rw [World.cell?_alloc_new]; rfl, by rw [World.cell?_alloc_new]; rfl⟩ (bl_alloc (bl_refl _) _ _) | exact hK.out _ _ rfl (bl_refl _) | exact hK.out _ _ rfl (by assumption) | exact hK.out _ _ (by assumption) (by assumption)
  case ht_wm =>
    intro s W1 hs hb1
    have e0 : s 0 = _ := hs 0 (by decide)
    have e1 : s 1 = _ := hs 1 (by decide)
    have e2 : s 2 = _ := hs 2 (by decide)
    have e3 : s 3 = _ := hs 3 (by decide)
    have e4 : s 4 = _ := hs 4 (by decide)
    have e5 : s 5 = _ := hs 5 (by decide)
    obtain ⟨g, e6, hg0, hg1, hg2⟩ := hs 6 (by decide)
    have e7 : s 7 = _ := hs 7 (by decide)
    have e8 : s 8 = _ := hs 8 (by decide)
    simp only [e0, e1, e2, e3, e4, e5, e6, e7, e8]
    clear hs e0 e1 e2 e3 e4 e5 e6 e7 e8
    go_wp2
    refine bodyPost_ret (v := .tuple #[.slice none 0 0, .slice none 0 0, .int .i64 (farE (nx, ny, fd) [(ax, ay), (bx, b_y)])]) (by simp [results, Try.results13, go_sem] <;> (first | exact ⟨⟨rfl, rfl⟩, rfl⟩ | exact ⟨rfl, rfl, rfl, rfl⟩ | exact ⟨rfl, rfl, rfl⟩ | exact ⟨rfl, rfl⟩ | rfl)) rfl ⟨rfl, bl_trans B0 hb1⟩

set_option maxRecDepth 100000 in
set_option maxHeartbeats 2000000 in
theorem rseg_00 (nx ny fd ax ay bx b_y : Nat) (w : World) (o1 : okK .f64 nx) (o2 : okK .f64 ny) (o3 : okK .f64 fd) (oa : okK .f64 ax) (ob : okK .f64 ay) (oc : okK .f64 bx) (od : okK .f64 b_y) (h0 : farE (nx, ny, fd) [(ax, ay), (bx, b_y)] = 0) (h1 : leK .f64 (frK (nx, ny, fd) (ax, ay)) 0 = false) (h2 : leK .f64 (frK (nx, ny, fd) (bx, b_y)) 0 = false) : Calls Try.prog 13 #[.agg #[.float .f64 nx, .float .f64 ny, .float .f64 fd], .agg #[.float .f64 ax, .float .f64 ay], .agg #[.float .f64 bx, .float .f64 b_y]] w fun e w' => e = .returned (.tuple #[.slice none 0 0, .slice none 0 0, .int .i64 0]) ∧ Bel w w' := by
  obtain ⟨hp, hl⟩ := farE_bd h0 o1 o2 o3 (by intro q hq; simp at hq; rcases hq with rfl | rfl <;> constructor <;> assumption)
  have ha := hl (ax, ay) (by simp)
  have hb_ := hl (bx, b_y) (by simp)
  have h1 : wiB (nx, ny, fd) (ax, ay) = false := h1
  have h2 : wiB (nx, ny, fd) (bx, b_y) = false := h2
  skip
  have z0_0 : (w.alloc (.cells #[.float .f64 nx, .float .f64 ny, .float .f64 fd] 26)).cell? ⟨w.heap.size, 0, none⟩ = some (.float .f64 nx) := by rw [World.cell?_alloc_new]; rfl
  replace z0_0 := up_alloc (o := .cells #[.float .f64 ax, .float .f64 ay] 24) z0_0
  replace z0_0 := up_alloc (o := .cells #[.float .f64 bx, .float .f64 b_y] 24) z0_0
  have z0_1 : (w.alloc (.cells #[.float .f64 nx, .float .f64 ny, .float .f64 fd] 26)).cell? ⟨w.heap.size, 1, none⟩ = some (.float .f64 ny) := by rw [World.cell?_alloc_new]; rfl
  replace z0_1 := up_alloc (o := .cells #[.float .f64 ax, .float .f64 ay] 24) z0_1
  replace z0_1 := up_alloc (o := .cells #[.float .f64 bx, .float .f64 b_y] 24) z0_1
  have z0_2 : (w.alloc (.cells #[.float .f64 nx, .float .f64 ny, .float .f64 fd] 26)).cell? ⟨w.heap.size, 2, none⟩ = some (.float .f64 fd) := by rw [World.cell?_alloc_new]; rfl
  replace z0_2 := up_alloc (o := .cells #[.float .f64 ax, .float .f64 ay] 24) z0_2
  replace z0_2 := up_alloc (o := .cells #[.float .f64 bx, .float .f64 b_y] 24) z0_2
  have z1_0 : ((w.alloc (.cells #[.float .f64 nx, .float .f64 ny, .float .f64 fd] 26)).alloc (.cells #[.float .f64 ax, .float .f64 ay] 24)).cell? ⟨w.heap.size + 1, 0, none⟩ = some (.float .f64 ax) := by rw [← (show (w.alloc (.cells #[.float .f64 nx, .float .f64 ny, .float .f64 fd] 26)).heap.size = w.heap.size + 1 by simp only [World.size_alloc]), World.cell?_alloc_new]; rfl
  replace z1_0 := up_alloc (o := .cells #[.float .f64 bx, .float .f64 b_y] 24) z1_0
  have z1_1 : ((w.alloc (.cells #[.float .f64 nx, .float .f64 ny, .float .f64 fd] 26)).alloc (.cells #[.float .f64 ax, .float .f64 ay] 24)).cell? ⟨w.heap.size + 1, 1, none⟩ = some (.float .f64 ay) := by rw [← (show (w.alloc (.cells #[.float .f64 nx, .float .f64 ny, .float .f64 fd] 26)).heap.size = w.heap.size + 1 by simp only [World.size_alloc]), World.cell?_alloc_new]; rfl
  replace z1_1 := up_alloc (o := .cells #[.float .f64 bx, .float .f64 b_y] 24) z1_1
  have z2_0 : (((w.alloc (.cells #[.float .f64 nx, .float .f64 ny, .float .f64 fd] 26)).alloc (.cells #[.float .f64 ax, .float .f64 ay] 24)).alloc (.cells #[.float .f64 bx, .float .f64 b_y] 24)).cell? ⟨w.heap.size + 1 + 1, 0, none⟩ = some (.float .f64 bx) := by rw [← (show ((w.alloc (.cells #[.float .f64 nx, .float .f64 ny, .float .f64 fd] 26)).alloc (.cells #[.float .f64 ax, .float .f64 ay] 24)).heap.size = w.heap.size + 1 + 1 by simp only [World.size_alloc]), World.cell?_alloc_new]; rfl
  have z2_1 : (((w.alloc (.cells #[.float .f64 nx, .float .f64 ny, .float .f64 fd] 26)).alloc (.cells #[.float .f64 ax, .float .f64 ay] 24)).alloc (.cells #[.float .f64 bx, .float .f64 b_y] 24)).cell? ⟨w.heap.size + 1 + 1, 1, none⟩ = some (.float .f64 b_y) := by rw [← (show ((w.alloc (.cells #[.float .f64 nx, .float .f64 ny, .float .f64 fd] 26)).alloc (.cells #[.float .f64 ax, .float .f64 ay] 24)).heap.size = w.heap.size + 1 + 1 by simp only [World.size_alloc]), World.cell?_alloc_new]; rfl
  have B0 : Bel w (((w.alloc (.cells #[.float .f64 nx, .float .f64 ny, .float .f64 fd] 26)).alloc (.cells #[.float .f64 ax, .float .f64 ay] 24)).alloc (.cells #[.float .f64 bx, .float .f64 b_y] 24)) := bl_alloc (bl_alloc (bl_alloc (bl_refl w) _ _) _ _) _ _
  go_enter Try.func13, Try.ntmps13
  go_wp2
  refine wp_region_mono 9 rfl (fun i W v => match i with | 0 => v = .agg #[.float .f64 nx, .float .f64 ny, .float .f64 fd] | 1 => v = .int .i64 (pE (nx, ny, fd)) | 2 => v = .agg #[.float .f64 ax, .float .f64 ay] | 3 => v = .int .i64 (rlE ax ay) | 4 => v = .agg #[.float .f64 bx, .float .f64 b_y] | 5 => v = .int .i64 (rlE bx b_y) | 6 => ∃ g, v = .slice (some ⟨g, 0, none⟩) 3 3 ∧ W.cell? ⟨g, 0, none⟩ = some (.int .i64 (pE (nx, ny, fd))) ∧ W.cell? ⟨g, 1, none⟩ = some (.int .i64 (rlE ax ay)) ∧ W.cell? ⟨g, 2, none⟩ = some (.int .i64 (rlE bx b_y)) | 7 => v = .int .i64 (0) | 8 => v = .int .i64 (0) | _ => False) ?A_wm (by kernel_rfl) (by kernel_rfl) ?hA_wm ?hmo_wm ?hq_wm ?ht_wm
  case hA_wm =>
    intro s
    simp only [putL, dstO, Act.put, List.getElem?_toArray, List.getElem?_cons_zero, List.getElem?_cons_succ, Option.bind_some, List.setIfInBounds_toArray, List.set_cons_zero, List.set_cons_succ, if_true]
    all_goals exact rfl
  case hmo_wm =>
    intro i W W' v hi hb h
    rcases (show i = 0 ∨ i = 1 ∨ i = 2 ∨ i = 3 ∨ i = 4 ∨ i = 5 ∨ i = 6 ∨ i = 7 ∨ i = 8 by omega) with rfl | rfl | rfl | rfl | rfl | rfl | rfl | rfl | rfl
    all_goals first | exact h | (obtain ⟨g, e4, hg0, hg1, hg2⟩ := h; exact ⟨g, e4, keep hb hg0, keep hb hg1, keep hb hg2⟩)
  case hq_wm =>
    intro i o hi ho s W hs hb K hK
    have uz0_0 := keep hb z0_0; have uz0_1 := keep hb z0_1; have uz0_2 := keep hb z0_2; have uz1_0 := keep hb z1_0; have uz1_1 := keep hb z1_1; have uz2_0 := keep hb z2_0; have uz2_1 := keep hb z2_1
    rcases (show i = 0 ∨ i = 1 ∨ i = 2 ∨ i = 3 ∨ i = 4 ∨ i = 5 ∨ i = 6 ∨ i = 7 ∨ i = 8 by omega) with rfl | rfl | rfl | rfl | rfl | rfl | rfl | rfl | rfl
    · cases ho
      simp only [Act.put, List.setIfInBounds_toArray, List.set_cons_zero, List.set_cons_succ] at hK
      clear hs
      go_simp
      all_goals (try go_wp2_with (first | (go_at_call 17; refine (rcchk_any _ _ _ _ o1 o2 o3).mono ?_; rintro e w' ⟨rfl, hb1⟩) | (go_at_call 44; (first | with_reducible refine (real_d _ _ _ oa ob).mono ?_ | with_reducible refine (real_d _ _ _ oc od).mono ?_); rintro e w' ⟨rfl, hb1⟩) | (go_at_call 43; refine (first3 _ _ _ _ _ hg0 hg1 hg2).mono ?_; rintro e w' ⟨rfl, rfl⟩; rw [seg_first, h0])))
      all_goals first | exact hK.out _ _ ⟨_, rfl, by rw [World.cell?_alloc_new]; rfl, by rw [World.cell?_alloc_new]; rfl, by rw [World.cell?_alloc_new]; rfl⟩ (bl_alloc (bl_refl _) _ _) | exact hK.out _ _ rfl (bl_refl _) | exact hK.out _ _ rfl (by assumption) | exact hK.out _ _ (by assumption) (by assumption)
    · cases ho
      have e0 : s 0 = _ := hs 0 (by decide) (by kernel_rfl)
      simp only [e0] at hK ⊢
      simp only [Act.put, List.setIfInBounds_toArray, List.set_cons_zero, List.set_cons_succ] at hK
      clear hs
      go_simp
      all_goals (try go_wp2_with (first | (go_at_call 17; refine (rcchk_any _ _ _ _ o1 o2 o3).mono ?_; rintro e w' ⟨rfl, hb1⟩) | (go_at_call 44; (first | with_reducible refine (real_d _ _ _ oa ob).mono ?_ | with_reducible refine (real_d _ _ _ oc od).mono ?_); rintro e w' ⟨rfl, hb1⟩) | (go_at_call 43; refine (first3 _ _ _ _ _ hg0 hg1 hg2).mono ?_; rintro e w' ⟨rfl, rfl⟩; rw [seg_first, h0])))
      all_goals first | exact hK.out _ _ ⟨_, rfl, by rw [World.cell?_alloc_new]; rfl, by rw [World.cell?_alloc_new]; rfl, by rw [World.cell?_alloc_new]; rfl⟩ (bl_alloc (bl_refl _) _ _) | exact hK.out _ _ rfl (bl_refl _) | exact hK.out _ _ rfl (by assumption) | exact hK.out _ _ (by assumption) (by assumption)
    · cases ho
      simp only [Act.put, List.setIfInBounds_toArray, List.set_cons_zero, List.set_cons_succ] at hK
      clear hs
      go_simp
      all_goals (try go_wp2_with (first | (go_at_call 17; refine (rcchk_any _ _ _ _ o1 o2 o3).mono ?_; rintro e w' ⟨rfl, hb1⟩) | (go_at_call 44; (first | with_reducible refine (real_d _ _ _ oa ob).mono ?_ | with_reducible refine (real_d _ _ _ oc od).mono ?_); rintro e w' ⟨rfl, hb1⟩) | (go_at_call 43; refine (first3 _ _ _ _ _ hg0 hg1 hg2).mono ?_; rintro e w' ⟨rfl, rfl⟩; rw [seg_first, h0])))
      all_goals first | exact hK.out _ _ ⟨_, rfl, by rw [World.cell?_alloc_new]; rfl, by rw [World.cell?_alloc_new]; rfl, by rw [World.cell?_alloc_new]; rfl⟩ (bl_alloc (bl_refl _) _ _) | exact hK.out _ _ rfl (bl_refl _) | exact hK.out _ _ rfl (by assumption) | exact hK.out _ _ (by assumption) (by assumption)
    · cases ho
      have e2 : s 2 = _ := hs 2 (by decide) (by kernel_rfl)
      simp only [e2] at hK ⊢
      simp only [Act.put, List.setIfInBounds_toArray, List.set_cons_zero, List.set_cons_succ] at hK
      clear hs
      go_simp
      all_goals (try go_wp2_with (first | (go_at_call 17; refine (rcchk_any _ _ _ _ o1 o2 o3).mono ?_; rintro e w' ⟨rfl, hb1⟩) | (go_at_call 44; (first | with_reducible refine (real_d _ _ _ oa ob).mono ?_ | with_reducible refine (real_d _ _ _ oc od).mono ?_); rintro e w' ⟨rfl, hb1⟩) | (go_at_call 43; refine (first3 _ _ _ _ _ hg0 hg1 hg2).mono ?_; rintro e w' ⟨rfl, rfl⟩; rw [seg_first, h0])))
      all_goals first | exact hK.out _ _ ⟨_, rfl, by rw [World.cell?_alloc_new]; rfl, by rw [World.cell?_alloc_new]; rfl, by rw [World.cell?_alloc_new]; rfl⟩ (bl_alloc (bl_refl _) _ _) | exact hK.out _ _ rfl (bl_refl _) | exact hK.out _ _ rfl (by assumption) | exact hK.out _ _ (by assumption) (by assumption)
    · cases ho
      simp only [Act.put, List.setIfInBounds_toArray, List.set_cons_zero, List.set_cons_succ] at hK
      clear hs
      go_simp
      all_goals (try go_wp2_with (first | (go_at_call 17; refine (rcchk_any _ _ _ _ o1 o2 o3).mono ?_; rintro e w' ⟨rfl, hb1⟩) | (go_at_call 44; (first | with_reducible refine (real_d _ _ _ oa ob).mono ?_ | with_reducible refine (real_d _ _ _ oc od).mono ?_); rintro e w' ⟨rfl, hb1⟩) | (go_at_call 43; refine (first3 _ _ _ _ _ hg0 hg1 hg2).mono ?_; rintro e w' ⟨rfl, rfl⟩; rw [seg_first, h0])))
      all_goals first | exact hK.out _ _ ⟨_, rfl, by rw [World.cell?_alloc_new]; rfl, by rw [World.cell?_alloc_new]; rfl, by rw [World.cell?_alloc_new]; rfl⟩ (bl_alloc (bl_refl _) _ _) | exact hK.out _ _ rfl (bl_refl _) | exact hK.out _ _ rfl (by assumption) | exact hK.out _ _ (by assumption) (by assumption)
    · cases ho
      have e4 : s 4 = _ := hs 4 (by decide) (by kernel_rfl)
      simp only [e4] at hK ⊢
      simp only [Act.put, List.setIfInBounds_toArray, List.set_cons_zero, List.set_cons_succ] at hK
      clear hs
      go_simp
      all_goals (try go_wp2_with (first | (go_at_call 17; refine (rcchk_any _ _ _ _ o1 o2 o3).mono ?_; rintro e w' ⟨rfl, hb1⟩) | (go_at_call 44; (first | with_reducible refine (real_d _ _ _ oa ob).mono ?_ | with_reducible refine (real_d _ _ _ oc od).mono ?_); rintro e w' ⟨rfl, hb1⟩) | (go_at_call 43; refine (first3 _ _ _ _ _ hg0 hg1 hg2).mono ?_; rintro e w' ⟨rfl, rfl⟩; rw [seg_first, h0])))
      all_goals first | exact hK.out _ _ ⟨_, rfl, by rw [World.cell?_alloc_new]; rfl, by rw [World.cell?_alloc_new]; rfl, by rw [World.cell?_alloc_new]; rfl⟩ (bl_alloc (bl_refl _) _ _) | exact hK.out _ _ rfl (bl_refl _) | exact hK.out _ _ rfl (by assumption) | exact hK.out _ _ (by assumption) (by assumption)
    · cases ho
      have e1 : s 1 = _ := hs 1 (by decide) (by kernel_rfl)
      have e3 : s 3 = _ := hs 3 (by decide) (by kernel_rfl)
      have e5 : s 5 = _ := hs 5 (by decide) (by kernel_rfl)
      simp only [e1, e3, e5] at hK ⊢
      simp only [Act.put, List.setIfInBounds_toArray, List.set_cons_zero, List.set_cons_succ] at hK
      clear hs
      go_simp
      all_goals (try go_wp2_with (first | (go_at_call 17; refine (rcchk_any _ _ _ _ o1 o2 o3).mono ?_; rintro e w' ⟨rfl, hb1⟩) | (go_at_call 44; (first | with_reducible refine (real_d _ _ _ oa ob).mono ?_ | with_reducible refine (real_d _ _ _ oc od).mono ?_); rintro e w' ⟨rfl, hb1⟩) | (go_at_call 43; refine (first3 _ _ _ _ _ hg0 hg1 hg2).mono ?_; rintro e w' ⟨rfl, rfl⟩; rw [seg_first, h0])))
      all_goals first | exact hK.out _ _ ⟨_, rfl, by rw [World.cell?_alloc_new]; rfl, by rw [World.cell?_alloc_new]; rfl, by rw [World.cell?_alloc_new]; rfl⟩ (bl_alloc (bl_refl _) _ _) | exact hK.out _ _ rfl (bl_refl _) | exact hK.out _ _ rfl (by assumption) | exact hK.out _ _ (by assumption) (by assumption)
    · cases ho
      obtain ⟨g, e6, hg0, hg1, hg2⟩ := hs 6 (by decide) (by kernel_rfl)
      simp only [e6] at hK ⊢
      simp only [Act.put, List.setIfInBounds_toArray, List.set_cons_zero, List.set_cons_succ] at hK
      clear hs
      go_simp
      all_goals (try go_wp2_with (first | (go_at_call 17; refine (rcchk_any _ _ _ _ o1 o2 o3).mono ?_; rintro e w' ⟨rfl, hb1⟩) | (go_at_call 44; (first | with_reducible refine (real_d _ _ _ oa ob).mono ?_ | with_reducible refine (real_d _ _ _ oc od).mono ?_); rintro e w' ⟨rfl, hb1⟩) | (go_at_call 43; refine (first3 _ _ _ _ _ hg0 hg1 hg2).mono ?_; rintro e w' ⟨rfl, rfl⟩; rw [seg_first, h0])))
      all_goals first | exact hK.out _ _ ⟨_, rfl, by rw [World.cell?_alloc_new]; rfl, by rw [World.cell?_alloc_new]; rfl, by rw [World.cell?_alloc_new]; rfl⟩ (bl_alloc (bl_refl _) _ _) | exact hK.out _ _ rfl (bl_refl _) | exact hK.out _ _ rfl (by assumption) | exact hK.out _ _ (by assumption) (by assumption)
    · cases ho
      have e7 : s 7 = _ := hs 7 (by decide) (by kernel_rfl)
      simp only [e7] at hK ⊢
      simp only [Act.put, List.setIfInBounds_toArray, List.set_cons_zero, List.set_cons_succ] at hK
      clear hs
      go_simp
      all_goals (try go_wp2_with (first | (go_at_call 17; refine (rcchk_any _ _ _ _ o1 o2 o3).mono ?_; rintro e w' ⟨rfl, hb1⟩) | (go_at_call 44; (first | with_reducible refine (real_d _ _ _ oa ob).mono ?_ | with_reducible refine (real_d _ _ _ oc od).mono ?_); rintro e w' ⟨rfl, hb1⟩) | (go_at_call 43; refine (first3 _ _ _ _ _ hg0 hg1 hg2).mono ?_; rintro e w' ⟨rfl, rfl⟩; rw [seg_first, h0])))
      all_goals first | exact hK.out _ _ ⟨_, rfl, by rw [World.cell?_alloc_new]; rfl, by rw [World.cell?_alloc_new]; rfl, by rw [World.cell?_alloc_new]; rfl⟩ (bl_alloc (bl_refl _) _ _) | exact hK.out _ _ rfl (bl_refl _) | exact hK.out _ _ rfl (by assumption) | exact hK.out _ _ (by assumption) (by assumption)
  case ht_wm =>
    intro s W1 hs hb1
    have e0 : s 0 = _ := hs 0 (by decide)
    have e1 : s 1 = _ := hs 1 (by decide)
    have e2 : s 2 = _ := hs 2 (by decide)
    have e3 : s 3 = _ := hs 3 (by decide)
    have e4 : s 4 = _ := hs 4 (by decide)
    have e5 : s 5 = _ := hs 5 (by decide)
    obtain ⟨g, e6, hg0, hg1, hg2⟩ := hs 6 (by decide)
    have e7 : s 7 = _ := hs 7 (by decide)
    have e8 : s 8 = _ := hs 8 (by decide)
    simp only [e0, e1, e2, e3, e4, e5, e6, e7, e8]
    clear hs e0 e1 e2 e3 e4 e5 e6 e7 e8
    have B1 := bl_trans B0 hb1
    replace z0_0 := keep hb1 z0_0
    replace z0_1 := keep hb1 z0_1
    replace z0_2 := keep hb1 z0_2
    replace z1_0 := keep hb1 z1_0
    replace z1_1 := keep hb1 z1_1
    replace z2_0 := keep hb1 z2_0
    replace z2_1 := keep hb1 z2_1
    clear hb1
    go_wp2_with (first | (go_at_call 48; (first | with_reducible refine (rwithin_d _ hp ha (by decide)).mono ?_ | with_reducible refine (rwithin_d _ hp hb_ (by decide)).mono ?_); rintro e w' ⟨rfl, hb⟩; (first | rw [h1] | rw [h2]); replace z0_0 := keep hb z0_0; replace z0_1 := keep hb z0_1; replace z0_2 := keep hb z0_2; replace z1_0 := keep hb z1_0; replace z1_1 := keep hb z1_1; replace z2_0 := keep hb z2_0; replace z2_1 := keep hb z2_1; have B1 := bl_trans B1 hb; clear hb))
    refine bodyPost_ret (v := .tuple #[.slice none 0 0, .slice none 0 0, .int .i64 0]) (by simp [results, Try.results13, go_sem] <;> (first | exact ⟨⟨rfl, rfl⟩, rfl⟩ | exact ⟨rfl, rfl, rfl, rfl⟩ | exact ⟨rfl, rfl, rfl⟩ | exact ⟨rfl, rfl⟩ | rfl)) rfl ⟨rfl, B1⟩

set_option maxRecDepth 100000 in
set_option maxHeartbeats 2000000 in
theorem rseg_11 (nx ny fd ax ay bx b_y : Nat) (w : World) (o1 : okK .f64 nx) (o2 : okK .f64 ny) (o3 : okK .f64 fd) (oa : okK .f64 ax) (ob : okK .f64 ay) (oc : okK .f64 bx) (od : okK .f64 b_y) (h0 : farE (nx, ny, fd) [(ax, ay), (bx, b_y)] = 0) (h1 : leK .f64 (frK (nx, ny, fd) (ax, ay)) 0 = true) (h2 : leK .f64 (frK (nx, ny, fd) (bx, b_y)) 0 = true) : Calls Try.prog 13 #[.agg #[.float .f64 nx, .float .f64 ny, .float .f64 fd], .agg #[.float .f64 ax, .float .f64 ay], .agg #[.float .f64 bx, .float .f64 b_y]] w fun e w' => ∃ g q, e = .returned (.tuple #[.slice (some ⟨g, 0, none⟩) 2 2, .slice (some ⟨q, 0, none⟩) 2 2, .int .i64 0]) ∧ w.heap.size ≤ g ∧ Sl w' g 0 2 (px [(ax, ay), (bx, b_y)]) (py [(ax, ay), (bx, b_y)]) ∧ w'.cell? ⟨q, 0, none⟩ = some (.int .i64 0) ∧ w'.cell? ⟨q, 1, none⟩ = some (.int .i64 1) ∧ Bel w w' := by
  obtain ⟨hp, hl⟩ := farE_bd h0 o1 o2 o3 (by intro q hq; simp at hq; rcases hq with rfl | rfl <;> constructor <;> assumption)
  have ha := hl (ax, ay) (by simp)
  have hb_ := hl (bx, b_y) (by simp)
  have h1 : wiB (nx, ny, fd) (ax, ay) = true := h1
  have h2 : wiB (nx, ny, fd) (bx, b_y) = true := h2
  skip
  have z0_0 : (w.alloc (.cells #[.float .f64 nx, .float .f64 ny, .float .f64 fd] 26)).cell? ⟨w.heap.size, 0, none⟩ = some (.float .f64 nx) := by rw [World.cell?_alloc_new]; rfl
  replace z0_0 := up_alloc (o := .cells #[.float .f64 ax, .float .f64 ay] 24) z0_0
  replace z0_0 := up_alloc (o := .cells #[.float .f64 bx, .float .f64 b_y] 24) z0_0
  have z0_1 : (w.alloc (.cells #[.float .f64 nx, .float .f64 ny, .float .f64 fd] 26)).cell? ⟨w.heap.size, 1, none⟩ = some (.float .f64 ny) := by rw [World.cell?_alloc_new]; rfl
  replace z0_1 := up_alloc (o := .cells #[.float .f64 ax, .float .f64 ay] 24) z0_1
  replace z0_1 := up_alloc (o := .cells #[.float .f64 bx, .float .f64 b_y] 24) z0_1
  have z0_2 : (w.alloc (.cells #[.float .f64 nx, .float .f64 ny, .float .f64 fd] 26)).cell? ⟨w.heap.size, 2, none⟩ = some (.float .f64 fd) := by rw [World.cell?_alloc_new]; rfl
  replace z0_2 := up_alloc (o := .cells #[.float .f64 ax, .float .f64 ay] 24) z0_2
  replace z0_2 := up_alloc (o := .cells #[.float .f64 bx, .float .f64 b_y] 24) z0_2
  have z1_0 : ((w.alloc (.cells #[.float .f64 nx, .float .f64 ny, .float .f64 fd] 26)).alloc (.cells #[.float .f64 ax, .float .f64 ay] 24)).cell? ⟨w.heap.size + 1, 0, none⟩ = some (.float .f64 ax) := by rw [← (show (w.alloc (.cells #[.float .f64 nx, .float .f64 ny, .float .f64 fd] 26)).heap.size = w.heap.size + 1 by simp only [World.size_alloc]), World.cell?_alloc_new]; rfl
  replace z1_0 := up_alloc (o := .cells #[.float .f64 bx, .float .f64 b_y] 24) z1_0
  have z1_1 : ((w.alloc (.cells #[.float .f64 nx, .float .f64 ny, .float .f64 fd] 26)).alloc (.cells #[.float .f64 ax, .float .f64 ay] 24)).cell? ⟨w.heap.size + 1, 1, none⟩ = some (.float .f64 ay) := by rw [← (show (w.alloc (.cells #[.float .f64 nx, .float .f64 ny, .float .f64 fd] 26)).heap.size = w.heap.size + 1 by simp only [World.size_alloc]), World.cell?_alloc_new]; rfl
  replace z1_1 := up_alloc (o := .cells #[.float .f64 bx, .float .f64 b_y] 24) z1_1
  have z2_0 : (((w.alloc (.cells #[.float .f64 nx, .float .f64 ny, .float .f64 fd] 26)).alloc (.cells #[.float .f64 ax, .float .f64 ay] 24)).alloc (.cells #[.float .f64 bx, .float .f64 b_y] 24)).cell? ⟨w.heap.size + 1 + 1, 0, none⟩ = some (.float .f64 bx) := by rw [← (show ((w.alloc (.cells #[.float .f64 nx, .float .f64 ny, .float .f64 fd] 26)).alloc (.cells #[.float .f64 ax, .float .f64 ay] 24)).heap.size = w.heap.size + 1 + 1 by simp only [World.size_alloc]), World.cell?_alloc_new]; rfl
  have z2_1 : (((w.alloc (.cells #[.float .f64 nx, .float .f64 ny, .float .f64 fd] 26)).alloc (.cells #[.float .f64 ax, .float .f64 ay] 24)).alloc (.cells #[.float .f64 bx, .float .f64 b_y] 24)).cell? ⟨w.heap.size + 1 + 1, 1, none⟩ = some (.float .f64 b_y) := by rw [← (show ((w.alloc (.cells #[.float .f64 nx, .float .f64 ny, .float .f64 fd] 26)).alloc (.cells #[.float .f64 ax, .float .f64 ay] 24)).heap.size = w.heap.size + 1 + 1 by simp only [World.size_alloc]), World.cell?_alloc_new]; rfl
  have B0 : Bel w (((w.alloc (.cells #[.float .f64 nx, .float .f64 ny, .float .f64 fd] 26)).alloc (.cells #[.float .f64 ax, .float .f64 ay] 24)).alloc (.cells #[.float .f64 bx, .float .f64 b_y] 24)) := bl_alloc (bl_alloc (bl_alloc (bl_refl w) _ _) _ _) _ _
  go_enter Try.func13, Try.ntmps13
  go_wp2
  refine wp_region_mono 9 rfl (fun i W v => match i with | 0 => v = .agg #[.float .f64 nx, .float .f64 ny, .float .f64 fd] | 1 => v = .int .i64 (pE (nx, ny, fd)) | 2 => v = .agg #[.float .f64 ax, .float .f64 ay] | 3 => v = .int .i64 (rlE ax ay) | 4 => v = .agg #[.float .f64 bx, .float .f64 b_y] | 5 => v = .int .i64 (rlE bx b_y) | 6 => ∃ g, v = .slice (some ⟨g, 0, none⟩) 3 3 ∧ W.cell? ⟨g, 0, none⟩ = some (.int .i64 (pE (nx, ny, fd))) ∧ W.cell? ⟨g, 1, none⟩ = some (.int .i64 (rlE ax ay)) ∧ W.cell? ⟨g, 2, none⟩ = some (.int .i64 (rlE bx b_y)) | 7 => v = .int .i64 (0) | 8 => v = .int .i64 (0) | _ => False) ?A_wm (by kernel_rfl) (by kernel_rfl) ?hA_wm ?hmo_wm ?hq_wm ?ht_wm
  case hA_wm =>
    intro s
    simp only [putL, dstO, Act.put, List.getElem?_toArray, List.getElem?_cons_zero, List.getElem?_cons_succ, Option.bind_some, List.setIfInBounds_toArray, List.set_cons_zero, List.set_cons_succ, if_true]
    all_goals exact rfl
  case hmo_wm =>
    intro i W W' v hi hb h
    rcases (show i = 0 ∨ i = 1 ∨ i = 2 ∨ i = 3 ∨ i = 4 ∨ i = 5 ∨ i = 6 ∨ i = 7 ∨ i = 8 by omega) with rfl | rfl | rfl | rfl | rfl | rfl | rfl | rfl | rfl
    all_goals first | exact h | (obtain ⟨g, e4, hg0, hg1, hg2⟩ := h; exact ⟨g, e4, keep hb hg0, keep hb hg1, keep hb hg2⟩)
  case hq_wm =>
    intro i o hi ho s W hs hb K hK
    have uz0_0 := keep hb z0_0; have uz0_1 := keep hb z0_1; have uz0_2 := keep hb z0_2; have uz1_0 := keep hb z1_0; have uz1_1 := keep hb z1_1; have uz2_0 := keep hb z2_0; have uz2_1 := keep hb z2_1
    rcases (show i = 0 ∨ i = 1 ∨ i = 2 ∨ i = 3 ∨ i = 4 ∨ i = 5 ∨ i = 6 ∨ i = 7 ∨ i = 8 by omega) with rfl | rfl | rfl | rfl | rfl | rfl | rfl | rfl | rfl
    · cases ho
      simp only [Act.put, List.setIfInBounds_toArray, List.set_cons_zero, List.set_cons_succ] at hK
      clear hs
      go_simp
      all_goals (try go_wp2_with (first | (go_at_call 17; refine (rcchk_any _ _ _ _ o1 o2 o3).mono ?_; rintro e w' ⟨rfl, hb1⟩) | (go_at_call 44; (first | with_reducible refine (real_d _ _ _ oa ob).mono ?_ | with_reducible refine (real_d _ _ _ oc od).mono ?_); rintro e w' ⟨rfl, hb1⟩) | (go_at_call 43; refine (first3 _ _ _ _ _ hg0 hg1 hg2).mono ?_; rintro e w' ⟨rfl, rfl⟩; rw [seg_first, h0])))
      all_goals first | exact hK.out _ _ ⟨_, rfl, by rw [World.cell?_alloc_new]; rfl, by rw [World.cell?_alloc_new]; rfl, by rw [World.cell?_alloc_new]; rfl⟩ (bl_alloc (bl_refl _) _ _) | exact hK.out _ _ rfl (bl_refl _) | exact hK.out _ _ rfl (by assumption) | exact hK.out _ _ (by assumption) (by assumption)
    · cases ho
      have e0 : s 0 = _ := hs 0 (by decide) (by kernel_rfl)
      simp only [e0] at hK ⊢
      simp only [Act.put, List.setIfInBounds_toArray, List.set_cons_zero, List.set_cons_succ] at hK
      clear hs
      go_simp
      all_goals (try go_wp2_with (first | (go_at_call 17; refine (rcchk_any _ _ _ _ o1 o2 o3).mono ?_; rintro e w' ⟨rfl, hb1⟩) | (go_at_call 44; (first | with_reducible refine (real_d _ _ _ oa ob).mono ?_ | with_reducible refine (real_d _ _ _ oc od).mono ?_); rintro e w' ⟨rfl, hb1⟩) | (go_at_call 43; refine (first3 _ _ _ _ _ hg0 hg1 hg2).mono ?_; rintro e w' ⟨rfl, rfl⟩; rw [seg_first, h0])))
      all_goals first | exact hK.out _ _ ⟨_, rfl, by rw [World.cell?_alloc_new]; rfl, by rw [World.cell?_alloc_new]; rfl, by rw [World.cell?_alloc_new]; rfl⟩ (bl_alloc (bl_refl _) _ _) | exact hK.out _ _ rfl (bl_refl _) | exact hK.out _ _ rfl (by assumption) | exact hK.out _ _ (by assumption) (by assumption)
    · cases ho
      simp only [Act.put, List.setIfInBounds_toArray, List.set_cons_zero, List.set_cons_succ] at hK
      clear hs
      go_simp
      all_goals (try go_wp2_with (first | (go_at_call 17; refine (rcchk_any _ _ _ _ o1 o2 o3).mono ?_; rintro e w' ⟨rfl, hb1⟩) | (go_at_call 44; (first | with_reducible refine (real_d _ _ _ oa ob).mono ?_ | with_reducible refine (real_d _ _ _ oc od).mono ?_); rintro e w' ⟨rfl, hb1⟩) | (go_at_call 43; refine (first3 _ _ _ _ _ hg0 hg1 hg2).mono ?_; rintro e w' ⟨rfl, rfl⟩; rw [seg_first, h0])))
      all_goals first | exact hK.out _ _ ⟨_, rfl, by rw [World.cell?_alloc_new]; rfl, by rw [World.cell?_alloc_new]; rfl, by rw [World.cell?_alloc_new]; rfl⟩ (bl_alloc (bl_refl _) _ _) | exact hK.out _ _ rfl (bl_refl _) | exact hK.out _ _ rfl (by assumption) | exact hK.out _ _ (by assumption) (by assumption)
    · cases ho
      have e2 : s 2 = _ := hs 2 (by decide) (by kernel_rfl)
      simp only [e2] at hK ⊢
      simp only [Act.put, List.setIfInBounds_toArray, List.set_cons_zero, List.set_cons_succ] at hK
      clear hs
      go_simp
      all_goals (try go_wp2_with (first | (go_at_call 17; refine (rcchk_any _ _ _ _ o1 o2 o3).mono ?_; rintro e w' ⟨rfl, hb1⟩) | (go_at_call 44; (first | with_reducible refine (real_d _ _ _ oa ob).mono ?_ | with_reducible refine (real_d _ _ _ oc od).mono ?_); rintro e w' ⟨rfl, hb1⟩) | (go_at_call 43; refine (first3 _ _ _ _ _ hg0 hg1 hg2).mono ?_; rintro e w' ⟨rfl, rfl⟩; rw [seg_first, h0])))
      all_goals first | exact hK.out _ _ ⟨_, rfl, by rw [World.cell?_alloc_new]; rfl, by rw [World.cell?_alloc_new]; rfl, by rw [World.cell?_alloc_new]; rfl⟩ (bl_alloc (bl_refl _) _ _) | exact hK.out _ _ rfl (bl_refl _) | exact hK.out _ _ rfl (by assumption) | exact hK.out _ _ (by assumption) (by assumption)
    · cases ho
      simp only [Act.put, List.setIfInBounds_toArray, List.set_cons_zero, List.set_cons_succ] at hK
      clear hs
      go_simp
      all_goals (try go_wp2_with (first | (go_at_call 17; refine (rcchk_any _ _ _ _ o1 o2 o3).mono ?_; rintro e w' ⟨rfl, hb1⟩) | (go_at_call 44; (first | with_reducible refine (real_d _ _ _ oa ob).mono ?_ | with_reducible refine (real_d _ _ _ oc od).mono ?_); rintro e w' ⟨rfl, hb1⟩) | (go_at_call 43; refine (first3 _ _ _ _ _ hg0 hg1 hg2).mono ?_; rintro e w' ⟨rfl, rfl⟩; rw [seg_first, h0])))
      all_goals first | exact hK.out _ _ ⟨_, rfl, by rw [World.cell?_alloc_new]; rfl, by rw [World.cell?_alloc_new]; rfl, by rw [World.cell?_alloc_new]; rfl⟩ (bl_alloc (bl_refl _) _ _) | exact hK.out _ _ rfl (bl_refl _) | exact hK.out _ _ rfl (by assumption) | exact hK.out _ _ (by assumption) (by assumption)
    · cases ho
      have e4 : s 4 = _ := hs 4 (by decide) (by kernel_rfl)
      simp only [e4] at hK ⊢
      simp only [Act.put, List.setIfInBounds_toArray, List.set_cons_zero, List.set_cons_succ] at hK
      clear hs
      go_simp
      all_goals (try go_wp2_with (first | (go_at_call 17; refine (rcchk_any _ _ _ _ o1 o2 o3).mono ?_; rintro e w' ⟨rfl, hb1⟩) | (go_at_call 44; (first | with_reducible refine (real_d _ _ _ oa ob).mono ?_ | with_reducible refine (real_d _ _ _ oc od).mono ?_); rintro e w' ⟨rfl, hb1⟩) | (go_at_call 43; refine (first3 _ _ _ _ _ hg0 hg1 hg2).mono ?_; rintro e w' ⟨rfl, rfl⟩; rw [seg_first, h0])))
      all_goals first | exact hK.out _ _ ⟨_, rfl, by rw [World.cell?_alloc_new]; rfl, by rw [World.cell?_alloc_new]; rfl, by rw [World.cell?_alloc_new]; rfl⟩ (bl_alloc (bl_refl _) _ _) | exact hK.out _ _ rfl (bl_refl _) | exact hK.out _ _ rfl (by assumption) | exact hK.out _ _ (by assumption) (by assumption)
    · cases ho
      have e1 : s 1 = _ := hs 1 (by decide) (by kernel_rfl)
      have e3 : s 3 = _ := hs 3 (by decide) (by kernel_rfl)
      have e5 : s 5 = _ := hs 5 (by decide) (by kernel_rfl)
      simp only [e1, e3, e5] at hK ⊢
      simp only [Act.put, List.setIfInBounds_toArray, List.set_cons_zero, List.set_cons_succ] at hK
      clear hs
      go_simp
      all_goals (try go_wp2_with (first | (go_at_call 17; refine (rcchk_any _ _ _ _ o1 o2 o3).mono ?_; rintro e w' ⟨rfl, hb1⟩) | (go_at_call 44; (first | with_reducible refine (real_d _ _ _ oa ob).mono ?_ | with_reducible refine (real_d _ _ _ oc od).mono ?_); rintro e w' ⟨rfl, hb1⟩) | (go_at_call 43; refine (first3 _ _ _ _ _ hg0 hg1 hg2).mono ?_; rintro e w' ⟨rfl, rfl⟩; rw [seg_first, h0])))
      all_goals first | exact hK.out _ _ ⟨_, rfl, by rw [World.cell?_alloc_new]; rfl, by rw [World.cell?_alloc_new]; rfl, by rw [World.cell?_alloc_new]; rfl⟩ (bl_alloc (bl_refl _) _ _) | exact hK.out _ _ rfl (bl_refl _) | exact hK.out _ _ rfl (by assumption) | exact hK.out _ _ (by assumption) (by assumption)
    · cases ho
      obtain ⟨g, e6, hg0, hg1, hg2⟩ := hs 6 (by decide) (by kernel_rfl)
      simp only [e6] at hK ⊢
      simp only [Act.put, List.setIfInBounds_toArray, List.set_cons_zero, List.set_cons_succ] at hK
      clear hs
      go_simp
      all_goals (try go_wp2_with (first | (go_at_call 17; refine (rcchk_any _ _ _ _ o1 o2 o3).mono ?_; rintro e w' ⟨rfl, hb1⟩) | (go_at_call 44; (first | with_reducible refine (real_d _ _ _ oa ob).mono ?_ | with_reducible refine (real_d _ _ _ oc od).mono ?_); rintro e w' ⟨rfl, hb1⟩) | (go_at_call 43; refine (first3 _ _ _ _ _ hg0 hg1 hg2).mono ?_; rintro e w' ⟨rfl, rfl⟩; rw [seg_first, h0])))
      all_goals first | exact hK.out _ _ ⟨_, rfl, by rw [World.cell?_alloc_new]; rfl, by rw [World.cell?_alloc_new]; rfl, by rw [World.cell?_alloc_new]; rfl⟩ (bl_alloc (bl_refl _) _ _) | exact hK.out _ _ rfl (bl_refl _) | exact hK.out _ _ rfl (by assumption) | exact hK.out _ _ (by assumption) (by assumption)
    · cases ho
      have e7 : s 7 = _ := hs 7 (by decide) (by kernel_rfl)
      simp only [e7] at hK ⊢
      simp only [Act.put, List.setIfInBounds_toArray, List.set_cons_zero, List.set_cons_succ] at hK
      clear hs
      go_simp
      all_goals (try go_wp2_with (first | (go_at_call 17; refine (rcchk_any _ _ _ _ o1 o2 o3).mono ?_; rintro e w' ⟨rfl, hb1⟩) | (go_at_call 44; (first | with_reducible refine (real_d _ _ _ oa ob).mono ?_ | with_reducible refine (real_d _ _ _ oc od).mono ?_); rintro e w' ⟨rfl, hb1⟩) | (go_at_call 43; refine (first3 _ _ _ _ _ hg0 hg1 hg2).mono ?_; rintro e w' ⟨rfl, rfl⟩; rw [seg_first, h0])))
      all_goals first | exact hK.out _ _ ⟨_, rfl, by rw [World.cell?_alloc_new]; rfl, by rw [World.cell?_alloc_new]; rfl, by rw [World.cell?_alloc_new]; rfl⟩ (bl_alloc (bl_refl _) _ _) | exact hK.out _ _ rfl (bl_refl _) | exact hK.out _ _ rfl (by assumption) | exact hK.out _ _ (by assumption) (by assumption)
  case ht_wm =>
    intro s W1 hs hb1
    have e0 : s 0 = _ := hs 0 (by decide)
    have e1 : s 1 = _ := hs 1 (by decide)
    have e2 : s 2 = _ := hs 2 (by decide)
    have e3 : s 3 = _ := hs 3 (by decide)
    have e4 : s 4 = _ := hs 4 (by decide)
    have e5 : s 5 = _ := hs 5 (by decide)
    obtain ⟨g, e6, hg0, hg1, hg2⟩ := hs 6 (by decide)
    have e7 : s 7 = _ := hs 7 (by decide)
    have e8 : s 8 = _ := hs 8 (by decide)
    simp only [e0, e1, e2, e3, e4, e5, e6, e7, e8]
    clear hs e0 e1 e2 e3 e4 e5 e6 e7 e8
    have B1 := bl_trans B0 hb1
    replace z0_0 := keep hb1 z0_0
    replace z0_1 := keep hb1 z0_1
    replace z0_2 := keep hb1 z0_2
    replace z1_0 := keep hb1 z1_0
    replace z1_1 := keep hb1 z1_1
    replace z2_0 := keep hb1 z2_0
    replace z2_1 := keep hb1 z2_1
    clear hb1
    go_wp2_with (first | (go_at_call 48; (first | with_reducible refine (rwithin_d _ hp ha (by decide)).mono ?_ | with_reducible refine (rwithin_d _ hp hb_ (by decide)).mono ?_); rintro e w' ⟨rfl, hb⟩; (first | rw [h1] | rw [h2]); replace z0_0 := keep hb z0_0; replace z0_1 := keep hb z0_1; replace z0_2 := keep hb z0_2; replace z1_0 := keep hb z1_0; replace z1_1 := keep hb z1_1; replace z2_0 := keep hb z2_0; replace z2_1 := keep hb z2_1; have B1 := bl_trans B1 hb; clear hb))
    have S1 : Sl (w'.alloc (.cells #[.float .f64 ax, .float .f64 ay, .float .f64 bx, .float .f64 b_y] 24)) w'.heap.size 0 2 (px [(ax, ay), (bx, b_y)]) (py [(ax, ay), (bx, b_y)]) := sl_pts (L := [(ax, ay), (bx, b_y)]) (cs := #[.float .f64 ax, .float .f64 ay, .float .f64 bx, .float .f64 b_y]) rfl (by simp [prRow, px, py, pt, List.range_succ, cuP])
    have BX : Bel (w'.alloc (.cells #[.float .f64 ax, .float .f64 ay, .float .f64 bx, .float .f64 b_y] 24)) ((w'.alloc (.cells #[.float .f64 ax, .float .f64 ay, .float .f64 bx, .float .f64 b_y] 24)).alloc (.cells #[.int .i64 0, .int .i64 1] 3)) := bl_alloc (bl_refl _) _ _
    have c0 : ((w'.alloc (.cells #[.float .f64 ax, .float .f64 ay, .float .f64 bx, .float .f64 b_y] 24)).alloc (.cells #[.int .i64 0, .int .i64 1] 3)).cell? ⟨w'.heap.size + 1, 0, none⟩ = some (.int .i64 0) := by rw [← World.size_alloc w' (.cells #[.float .f64 ax, .float .f64 ay, .float .f64 bx, .float .f64 b_y] 24), World.cell?_alloc_new]; rfl
    have c1 : ((w'.alloc (.cells #[.float .f64 ax, .float .f64 ay, .float .f64 bx, .float .f64 b_y] 24)).alloc (.cells #[.int .i64 0, .int .i64 1] 3)).cell? ⟨w'.heap.size + 1, 1, none⟩ = some (.int .i64 1) := by rw [← World.size_alloc w' (.cells #[.float .f64 ax, .float .f64 ay, .float .f64 bx, .float .f64 b_y] 24), World.cell?_alloc_new]; rfl
    refine bodyPost_ret (v := .tuple #[.slice (some ⟨w'.heap.size, 0, none⟩) 2 2, .slice (some ⟨w'.heap.size + 1, 0, none⟩) 2 2, .int .i64 0]) (by simp [results, Try.results13, go_sem] <;> (first | exact ⟨⟨rfl, rfl⟩, rfl⟩ | exact ⟨rfl, rfl, rfl, rfl⟩ | exact ⟨rfl, rfl, rfl⟩ | exact ⟨rfl, rfl⟩ | rfl)) rfl ⟨_, _, rfl, B1.size, S1.bel BX, c0, c1, bl_trans (bl_alloc B1 _ _) BX⟩

set_option maxRecDepth 100000 in
set_option maxHeartbeats 2000000 in
theorem rseg_10 (nx ny fd ax ay bx b_y : Nat) (w : World) (o1 : okK .f64 nx) (o2 : okK .f64 ny) (o3 : okK .f64 fd) (oa : okK .f64 ax) (ob : okK .f64 ay) (oc : okK .f64 bx) (od : okK .f64 b_y) (h0 : farE (nx, ny, fd) [(ax, ay), (bx, b_y)] = 0) (h1 : leK .f64 (frK (nx, ny, fd) (ax, ay)) 0 = true) (h2 : leK .f64 (frK (nx, ny, fd) (bx, b_y)) 0 = false) : Calls Try.prog 13 #[.agg #[.float .f64 nx, .float .f64 ny, .float .f64 fd], .agg #[.float .f64 ax, .float .f64 ay], .agg #[.float .f64 bx, .float .f64 b_y]] w fun e w' => ∃ g q, e = .returned (.tuple #[.slice (some ⟨g, 0, none⟩) 2 2, .slice (some ⟨q, 0, none⟩) 2 2, .int .i64 0]) ∧ w.heap.size ≤ g ∧ Sl w' g 0 2 (px [(ax, ay), (cuP (nx, ny, fd) (ax, ay) (bx, b_y))]) (py [(ax, ay), (cuP (nx, ny, fd) (ax, ay) (bx, b_y))]) ∧ w'.cell? ⟨q, 0, none⟩ = some (.int .i64 0) ∧ w'.cell? ⟨q, 1, none⟩ = some (.int .i64 2) ∧ Bel w w' := by
  obtain ⟨hp, hl⟩ := farE_bd h0 o1 o2 o3 (by intro q hq; simp at hq; rcases hq with rfl | rfl <;> constructor <;> assumption)
  have ha := hl (ax, ay) (by simp)
  have hb_ := hl (bx, b_y) (by simp)
  have h1 : wiB (nx, ny, fd) (ax, ay) = true := h1
  have h2 : wiB (nx, ny, fd) (bx, b_y) = false := h2
  have hne : wiB (nx, ny, fd) (ax, ay) ≠ wiB (nx, ny, fd) (bx, b_y) := by rw [h1, h2]; decide
  have z0_0 : (w.alloc (.cells #[.float .f64 nx, .float .f64 ny, .float .f64 fd] 26)).cell? ⟨w.heap.size, 0, none⟩ = some (.float .f64 nx) := by rw [World.cell?_alloc_new]; rfl
  replace z0_0 := up_alloc (o := .cells #[.float .f64 ax, .float .f64 ay] 24) z0_0
  replace z0_0 := up_alloc (o := .cells #[.float .f64 bx, .float .f64 b_y] 24) z0_0
  have z0_1 : (w.alloc (.cells #[.float .f64 nx, .float .f64 ny, .float .f64 fd] 26)).cell? ⟨w.heap.size, 1, none⟩ = some (.float .f64 ny) := by rw [World.cell?_alloc_new]; rfl
  replace z0_1 := up_alloc (o := .cells #[.float .f64 ax, .float .f64 ay] 24) z0_1
  replace z0_1 := up_alloc (o := .cells #[.float .f64 bx, .float .f64 b_y] 24) z0_1
  have z0_2 : (w.alloc (.cells #[.float .f64 nx, .float .f64 ny, .float .f64 fd] 26)).cell? ⟨w.heap.size, 2, none⟩ = some (.float .f64 fd) := by rw [World.cell?_alloc_new]; rfl
  replace z0_2 := up_alloc (o := .cells #[.float .f64 ax, .float .f64 ay] 24) z0_2
  replace z0_2 := up_alloc (o := .cells #[.float .f64 bx, .float .f64 b_y] 24) z0_2
  have z1_0 : ((w.alloc (.cells #[.float .f64 nx, .float .f64 ny, .float .f64 fd] 26)).alloc (.cells #[.float .f64 ax, .float .f64 ay] 24)).cell? ⟨w.heap.size + 1, 0, none⟩ = some (.float .f64 ax) := by rw [← (show (w.alloc (.cells #[.float .f64 nx, .float .f64 ny, .float .f64 fd] 26)).heap.size = w.heap.size + 1 by simp only [World.size_alloc]), World.cell?_alloc_new]; rfl
  replace z1_0 := up_alloc (o := .cells #[.float .f64 bx, .float .f64 b_y] 24) z1_0
  have z1_1 : ((w.alloc (.cells #[.float .f64 nx, .float .f64 ny, .float .f64 fd] 26)).alloc (.cells #[.float .f64 ax, .float .f64 ay] 24)).cell? ⟨w.heap.size + 1, 1, none⟩ = some (.float .f64 ay) := by rw [← (show (w.alloc (.cells #[.float .f64 nx, .float .f64 ny, .float .f64 fd] 26)).heap.size = w.heap.size + 1 by simp only [World.size_alloc]), World.cell?_alloc_new]; rfl
  replace z1_1 := up_alloc (o := .cells #[.float .f64 bx, .float .f64 b_y] 24) z1_1
  have z2_0 : (((w.alloc (.cells #[.float .f64 nx, .float .f64 ny, .float .f64 fd] 26)).alloc (.cells #[.float .f64 ax, .float .f64 ay] 24)).alloc (.cells #[.float .f64 bx, .float .f64 b_y] 24)).cell? ⟨w.heap.size + 1 + 1, 0, none⟩ = some (.float .f64 bx) := by rw [← (show ((w.alloc (.cells #[.float .f64 nx, .float .f64 ny, .float .f64 fd] 26)).alloc (.cells #[.float .f64 ax, .float .f64 ay] 24)).heap.size = w.heap.size + 1 + 1 by simp only [World.size_alloc]), World.cell?_alloc_new]; rfl
  have z2_1 : (((w.alloc (.cells #[.float .f64 nx, .float .f64 ny, .float .f64 fd] 26)).alloc (.cells #[.float .f64 ax, .float .f64 ay] 24)).alloc (.cells #[.float .f64 bx, .float .f64 b_y] 24)).cell? ⟨w.heap.size + 1 + 1, 1, none⟩ = some (.float .f64 b_y) := by rw [← (show ((w.alloc (.cells #[.float .f64 nx, .float .f64 ny, .float .f64 fd] 26)).alloc (.cells #[.float .f64 ax, .float .f64 ay] 24)).heap.size = w.heap.size + 1 + 1 by simp only [World.size_alloc]), World.cell?_alloc_new]; rfl
  have B0 : Bel w (((w.alloc (.cells #[.float .f64 nx, .float .f64 ny, .float .f64 fd] 26)).alloc (.cells #[.float .f64 ax, .float .f64 ay] 24)).alloc (.cells #[.float .f64 bx, .float .f64 b_y] 24)) := bl_alloc (bl_alloc (bl_alloc (bl_refl w) _ _) _ _) _ _
  go_enter Try.func13, Try.ntmps13
  go_wp2
  refine wp_region_mono 9 rfl (fun i W v => match i with | 0 => v = .agg #[.float .f64 nx, .float .f64 ny, .float .f64 fd] | 1 => v = .int .i64 (pE (nx, ny, fd)) | 2 => v = .agg #[.float .f64 ax, .float .f64 ay] | 3 => v = .int .i64 (rlE ax ay) | 4 => v = .agg #[.float .f64 bx, .float .f64 b_y] | 5 => v = .int .i64 (rlE bx b_y) | 6 => ∃ g, v = .slice (some ⟨g, 0, none⟩) 3 3 ∧ W.cell? ⟨g, 0, none⟩ = some (.int .i64 (pE (nx, ny, fd))) ∧ W.cell? ⟨g, 1, none⟩ = some (.int .i64 (rlE ax ay)) ∧ W.cell? ⟨g, 2, none⟩ = some (.int .i64 (rlE bx b_y)) | 7 => v = .int .i64 (0) | 8 => v = .int .i64 (0) | _ => False) ?A_wm (by kernel_rfl) (by kernel_rfl) ?hA_wm ?hmo_wm ?hq_wm ?ht_wm
  case hA_wm =>
    intro s
    simp only [putL, dstO, Act.put, List.getElem?_toArray, List.getElem?_cons_zero, List.getElem?_cons_succ, Option.bind_some, List.setIfInBounds_toArray, List.set_cons_zero, List.set_cons_succ, if_true]
    all_goals exact rfl
  case hmo_wm =>
    intro i W W' v hi hb h
    rcases (show i = 0 ∨ i = 1 ∨ i = 2 ∨ i = 3 ∨ i = 4 ∨ i = 5 ∨ i = 6 ∨ i = 7 ∨ i = 8 by omega) with rfl | rfl | rfl | rfl | rfl | rfl | rfl | rfl | rfl
    all_goals first | exact h | (obtain ⟨g, e4, hg0, hg1, hg2⟩ := h; exact ⟨g, e4, keep hb hg0, keep hb hg1, keep hb hg2⟩)
  case hq_wm =>
    intro i o hi ho s W hs hb K hK
    have uz0_0 := keep hb z0_0; have uz0_1 := keep hb z0_1; have uz0_2 := keep hb z0_2; have uz1_0 := keep hb z1_0; have uz1_1 := keep hb z1_1; have uz2_0 := keep hb z2_0; have uz2_1 := keep hb z2_1
    rcases (show i = 0 ∨ i = 1 ∨ i = 2 ∨ i = 3 ∨ i = 4 ∨ i = 5 ∨ i = 6 ∨ i = 7 ∨ i = 8 by omega) with rfl | rfl | rfl | rfl | rfl | rfl | rfl | rfl | rfl
    · cases ho
      simp only [Act.put, List.setIfInBounds_toArray, List.set_cons_zero, List.set_cons_succ] at hK
      clear hs
      go_simp
      all_goals (try go_wp2_with (first | (go_at_call 17; refine (rcchk_any _ _ _ _ o1 o2 o3).mono ?_; rintro e w' ⟨rfl, hb1⟩) | (go_at_call 44; (first | with_reducible refine (real_d _ _ _ oa ob).mono ?_ | with_reducible refine (real_d _ _ _ oc od).mono ?_); rintro e w' ⟨rfl, hb1⟩) | (go_at_call 43; refine (first3 _ _ _ _ _ hg0 hg1 hg2).mono ?_; rintro e w' ⟨rfl, rfl⟩; rw [seg_first, h0])))
      all_goals first | exact hK.out _ _ ⟨_, rfl, by rw [World.cell?_alloc_new]; rfl, by rw [World.cell?_alloc_new]; rfl, by rw [World.cell?_alloc_new]; rfl⟩ (bl_alloc (bl_refl _) _ _) | exact hK.out _ _ rfl (bl_refl _) | exact hK.out _ _ rfl (by assumption) | exact hK.out _ _ (by assumption) (by assumption)
    · cases ho
      have e0 : s 0 = _ := hs 0 (by decide) (by kernel_rfl)
      simp only [e0] at hK ⊢
      simp only [Act.put, List.setIfInBounds_toArray, List.set_cons_zero, List.set_cons_succ] at hK
      clear hs
      go_simp
      all_goals (try go_wp2_with (first | (go_at_call 17; refine (rcchk_any _ _ _ _ o1 o2 o3).mono ?_; rintro e w' ⟨rfl, hb1⟩) | (go_at_call 44; (first | with_reducible refine (real_d _ _ _ oa ob).mono ?_ | with_reducible refine (real_d _ _ _ oc od).mono ?_); rintro e w' ⟨rfl, hb1⟩) | (go_at_call 43; refine (first3 _ _ _ _ _ hg0 hg1 hg2).mono ?_; rintro e w' ⟨rfl, rfl⟩; rw [seg_first, h0])))
      all_goals first | exact hK.out _ _ ⟨_, rfl, by rw [World.cell?_alloc_new]; rfl, by rw [World.cell?_alloc_new]; rfl, by rw [World.cell?_alloc_new]; rfl⟩ (bl_alloc (bl_refl _) _ _) | exact hK.out _ _ rfl (bl_refl _) | exact hK.out _ _ rfl (by assumption) | exact hK.out _ _ (by assumption) (by assumption)
    · cases ho
      simp only [Act.put, List.setIfInBounds_toArray, List.set_cons_zero, List.set_cons_succ] at hK
      clear hs
      go_simp
      all_goals (try go_wp2_with (first | (go_at_call 17; refine (rcchk_any _ _ _ _ o1 o2 o3).mono ?_; rintro e w' ⟨rfl, hb1⟩) | (go_at_call 44; (first | with_reducible refine (real_d _ _ _ oa ob).mono ?_ | with_reducible refine (real_d _ _ _ oc od).mono ?_); rintro e w' ⟨rfl, hb1⟩) | (go_at_call 43; refine (first3 _ _ _ _ _ hg0 hg1 hg2).mono ?_; rintro e w' ⟨rfl, rfl⟩; rw [seg_first, h0])))
      all_goals first | exact hK.out _ _ ⟨_, rfl, by rw [World.cell?_alloc_new]; rfl, by rw [World.cell?_alloc_new]; rfl, by rw [World.cell?_alloc_new]; rfl⟩ (bl_alloc (bl_refl _) _ _) | exact hK.out _ _ rfl (bl_refl _) | exact hK.out _ _ rfl (by assumption) | exact hK.out _ _ (by assumption) (by assumption)
    · cases ho
      have e2 : s 2 = _ := hs 2 (by decide) (by kernel_rfl)
      simp only [e2] at hK ⊢
      simp only [Act.put, List.setIfInBounds_toArray, List.set_cons_zero, List.set_cons_succ] at hK
      clear hs
      go_simp
      all_goals (try go_wp2_with (first | (go_at_call 17; refine (rcchk_any _ _ _ _ o1 o2 o3).mono ?_; rintro e w' ⟨rfl, hb1⟩) | (go_at_call 44; (first | with_reducible refine (real_d _ _ _ oa ob).mono ?_ | with_reducible refine (real_d _ _ _ oc od).mono ?_); rintro e w' ⟨rfl, hb1⟩) | (go_at_call 43; refine (first3 _ _ _ _ _ hg0 hg1 hg2).mono ?_; rintro e w' ⟨rfl, rfl⟩; rw [seg_first, h0])))
      all_goals first | exact hK.out _ _ ⟨_, rfl, by rw [World.cell?_alloc_new]; rfl, by rw [World.cell?_alloc_new]; rfl, by rw [World.cell?_alloc_new]; rfl⟩ (bl_alloc (bl_refl _) _ _) | exact hK.out _ _ rfl (bl_refl _) | exact hK.out _ _ rfl (by assumption) | exact hK.out _ _ (by assumption) (by assumption)
    · cases ho
      simp only [Act.put, List.setIfInBounds_toArray, List.set_cons_zero, List.set_cons_succ] at hK
      clear hs
      go_simp
      all_goals (try go_wp2_with (first | (go_at_call 17; refine (rcchk_any _ _ _ _ o1 o2 o3).mono ?_; rintro e w' ⟨rfl, hb1⟩) | (go_at_call 44; (first | with_reducible refine (real_d _ _ _ oa ob).mono ?_ | with_reducible refine (real_d _ _ _ oc od).mono ?_); rintro e w' ⟨rfl, hb1⟩) | (go_at_call 43; refine (first3 _ _ _ _ _ hg0 hg1 hg2).mono ?_; rintro e w' ⟨rfl, rfl⟩; rw [seg_first, h0])))
      all_goals first | exact hK.out _ _ ⟨_, rfl, by rw [World.cell?_alloc_new]; rfl, by rw [World.cell?_alloc_new]; rfl, by rw [World.cell?_alloc_new]; rfl⟩ (bl_alloc (bl_refl _) _ _) | exact hK.out _ _ rfl (bl_refl _) | exact hK.out _ _ rfl (by assumption) | exact hK.out _ _ (by assumption) (by assumption)
    · cases ho
      have e4 : s 4 = _ := hs 4 (by decide) (by kernel_rfl)
      simp only [e4] at hK ⊢
      simp only [Act.put, List.setIfInBounds_toArray, List.set_cons_zero, List.set_cons_succ] at hK
      clear hs
      go_simp
      all_goals (try go_wp2_with (first | (go_at_call 17; refine (rcchk_any _ _ _ _ o1 o2 o3).mono ?_; rintro e w' ⟨rfl, hb1⟩) | (go_at_call 44; (first | with_reducible refine (real_d _ _ _ oa ob).mono ?_ | with_reducible refine (real_d _ _ _ oc od).mono ?_); rintro e w' ⟨rfl, hb1⟩) | (go_at_call 43; refine (first3 _ _ _ _ _ hg0 hg1 hg2).mono ?_; rintro e w' ⟨rfl, rfl⟩; rw [seg_first, h0])))
      all_goals first | exact hK.out _ _ ⟨_, rfl, by rw [World.cell?_alloc_new]; rfl, by rw [World.cell?_alloc_new]; rfl, by rw [World.cell?_alloc_new]; rfl⟩ (bl_alloc (bl_refl _) _ _) | exact hK.out _ _ rfl (bl_refl _) | exact hK.out _ _ rfl (by assumption) | exact hK.out _ _ (by assumption) (by assumption)
    · cases ho
      have e1 : s 1 = _ := hs 1 (by decide) (by kernel_rfl)
      have e3 : s 3 = _ := hs 3 (by decide) (by kernel_rfl)
      have e5 : s 5 = _ := hs 5 (by decide) (by kernel_rfl)
      simp only [e1, e3, e5] at hK ⊢
      simp only [Act.put, List.setIfInBounds_toArray, List.set_cons_zero, List.set_cons_succ] at hK
      clear hs
      go_simp
      all_goals (try go_wp2_with (first | (go_at_call 17; refine (rcchk_any _ _ _ _ o1 o2 o3).mono ?_; rintro e w' ⟨rfl, hb1⟩) | (go_at_call 44; (first | with_reducible refine (real_d _ _ _ oa ob).mono ?_ | with_reducible refine (real_d _ _ _ oc od).mono ?_); rintro e w' ⟨rfl, hb1⟩) | (go_at_call 43; refine (first3 _ _ _ _ _ hg0 hg1 hg2).mono ?_; rintro e w' ⟨rfl, rfl⟩; rw [seg_first, h0])))
      all_goals first | exact hK.out _ _ ⟨_, rfl, by rw [World.cell?_alloc_new]; rfl, by rw [World.cell?_alloc_new]; rfl, by rw [World.cell?_alloc_new]; rfl⟩ (bl_alloc (bl_refl _) _ _) | exact hK.out _ _ rfl (bl_refl _) | exact hK.out _ _ rfl (by assumption) | exact hK.out _ _ (by assumption) (by assumption)
    · cases ho
      obtain ⟨g, e6, hg0, hg1, hg2⟩ := hs 6 (by decide) (by kernel_rfl)
      simp only [e6] at hK ⊢
      simp only [Act.put, List.setIfInBounds_toArray, List.set_cons_zero, List.set_cons_succ] at hK
      clear hs
      go_simp
      all_goals (try go_wp2_with (first | (go_at_call 17; refine (rcchk_any _ _ _ _ o1 o2 o3).mono ?_; rintro e w' ⟨rfl, hb1⟩) | (go_at_call 44; (first | with_reducible refine (real_d _ _ _ oa ob).mono ?_ | with_reducible refine (real_d _ _ _ oc od).mono ?_); rintro e w' ⟨rfl, hb1⟩) | (go_at_call 43; refine (first3 _ _ _ _ _ hg0 hg1 hg2).mono ?_; rintro e w' ⟨rfl, rfl⟩; rw [seg_first, h0])))
      all_goals first | exact hK.out _ _ ⟨_, rfl, by rw [World.cell?_alloc_new]; rfl, by rw [World.cell?_alloc_new]; rfl, by rw [World.cell?_alloc_new]; rfl⟩ (bl_alloc (bl_refl _) _ _) | exact hK.out _ _ rfl (bl_refl _) | exact hK.out _ _ rfl (by assumption) | exact hK.out _ _ (by assumption) (by assumption)
    · cases ho
      have e7 : s 7 = _ := hs 7 (by decide) (by kernel_rfl)
      simp only [e7] at hK ⊢
      simp only [Act.put, List.setIfInBounds_toArray, List.set_cons_zero, List.set_cons_succ] at hK
      clear hs
      go_simp
      all_goals (try go_wp2_with (first | (go_at_call 17; refine (rcchk_any _ _ _ _ o1 o2 o3).mono ?_; rintro e w' ⟨rfl, hb1⟩) | (go_at_call 44; (first | with_reducible refine (real_d _ _ _ oa ob).mono ?_ | with_reducible refine (real_d _ _ _ oc od).mono ?_); rintro e w' ⟨rfl, hb1⟩) | (go_at_call 43; refine (first3 _ _ _ _ _ hg0 hg1 hg2).mono ?_; rintro e w' ⟨rfl, rfl⟩; rw [seg_first, h0])))
      all_goals first | exact hK.out _ _ ⟨_, rfl, by rw [World.cell?_alloc_new]; rfl, by rw [World.cell?_alloc_new]; rfl, by rw [World.cell?_alloc_new]; rfl⟩ (bl_alloc (bl_refl _) _ _) | exact hK.out _ _ rfl (bl_refl _) | exact hK.out _ _ rfl (by assumption) | exact hK.out _ _ (by assumption) (by assumption)
  case ht_wm =>
    intro s W1 hs hb1
    have e0 : s 0 = _ := hs 0 (by decide)
    have e1 : s 1 = _ := hs 1 (by decide)
    have e2 : s 2 = _ := hs 2 (by decide)
    have e3 : s 3 = _ := hs 3 (by decide)
    have e4 : s 4 = _ := hs 4 (by decide)
    have e5 : s 5 = _ := hs 5 (by decide)
    obtain ⟨g, e6, hg0, hg1, hg2⟩ := hs 6 (by decide)
    have e7 : s 7 = _ := hs 7 (by decide)
    have e8 : s 8 = _ := hs 8 (by decide)
    simp only [e0, e1, e2, e3, e4, e5, e6, e7, e8]
    clear hs e0 e1 e2 e3 e4 e5 e6 e7 e8
    have B1 := bl_trans B0 hb1
    replace z0_0 := keep hb1 z0_0
    replace z0_1 := keep hb1 z0_1
    replace z0_2 := keep hb1 z0_2
    replace z1_0 := keep hb1 z1_0
    replace z1_1 := keep hb1 z1_1
    replace z2_0 := keep hb1 z2_0
    replace z2_1 := keep hb1 z2_1
    clear hb1
    go_wp2_with (first | (go_at_call 48; (first | with_reducible refine (rwithin_d _ hp ha (by decide)).mono ?_ | with_reducible refine (rwithin_d _ hp hb_ (by decide)).mono ?_); rintro e w' ⟨rfl, hb⟩; (first | rw [h1] | rw [h2]); replace z0_0 := keep hb z0_0; replace z0_1 := keep hb z0_1; replace z0_2 := keep hb z0_2; replace z1_0 := keep hb z1_0; replace z1_1 := keep hb z1_1; replace z2_0 := keep hb z2_0; replace z2_1 := keep hb z2_1; have B1 := bl_trans B1 hb; clear hb))
    refine wp_region_mono 10 rfl (fun i W v => match i with | 0 => v = .agg #[.float .f64 ax, .float .f64 ay] | 1 => v = .agg #[.float .f64 nx, .float .f64 ny, .float .f64 fd] | 2 => v = .agg #[.float .f64 ax, .float .f64 ay] | 3 => v = .agg #[.float .f64 bx, .float .f64 b_y] | 4 => v = .agg #[.float .f64 (cuX (nx, ny, fd) (ax, ay) (bx, b_y)), .float .f64 (cuY (nx, ny, fd) (ax, ay) (bx, b_y))] | 5 => ∃ g, v = .slice (some ⟨g, 0, none⟩) 2 2 ∧ w'.heap.size ≤ g ∧ Sl W g 0 2 (px [(ax, ay), (cuP (nx, ny, fd) (ax, ay) (bx, b_y))]) (py [(ax, ay), (cuP (nx, ny, fd) (ax, ay) (bx, b_y))]) | 6 => ∃ q, v = .slice (some ⟨q, 0, none⟩) 2 2 ∧ W.cell? ⟨q, 0, none⟩ = some (.int .i64 0) ∧ W.cell? ⟨q, 1, none⟩ = some (.int .i64 2) | 7 => ∃ g, v = .slice (some ⟨g, 0, none⟩) 2 2 ∧ w'.heap.size ≤ g ∧ Sl W g 0 2 (px [(ax, ay), (cuP (nx, ny, fd) (ax, ay) (bx, b_y))]) (py [(ax, ay), (cuP (nx, ny, fd) (ax, ay) (bx, b_y))]) | 8 => ∃ q, v = .slice (some ⟨q, 0, none⟩) 2 2 ∧ W.cell? ⟨q, 0, none⟩ = some (.int .i64 0) ∧ W.cell? ⟨q, 1, none⟩ = some (.int .i64 2) | 9 => v = .int .i64 0 | _ => False) ?A_wn (by kernel_rfl) (by kernel_rfl) ?hA_wn ?hmo_wn ?hq_wn ?ht_wn
    case hA_wn =>
      intro s
      simp only [putL, dstO, Act.put, List.getElem?_toArray, List.getElem?_cons_zero, List.getElem?_cons_succ, Option.bind_some, List.setIfInBounds_toArray, List.set_cons_zero, List.set_cons_succ, if_true]
      all_goals exact rfl
    case hmo_wn =>
      intro i W W' v hi hb h
      rcases (show i = 0 ∨ i = 1 ∨ i = 2 ∨ i = 3 ∨ i = 4 ∨ i = 5 ∨ i = 6 ∨ i = 7 ∨ i = 8 ∨ i = 9 by omega) with rfl | rfl | rfl | rfl | rfl | rfl | rfl | rfl | rfl | rfl
      all_goals first | exact h | (obtain ⟨g, e4, hl, hS⟩ := h; exact ⟨g, e4, hl, hS.bel hb⟩) | (obtain ⟨g, e4, hg0, hg1⟩ := h; exact ⟨g, e4, keep hb hg0, keep hb hg1⟩)
    case hq_wn =>
      intro i o hi ho s W hs hb K hK
      have uz0_0 := keep hb z0_0; have uz0_1 := keep hb z0_1; have uz0_2 := keep hb z0_2; have uz1_0 := keep hb z1_0; have uz1_1 := keep hb z1_1; have uz2_0 := keep hb z2_0; have uz2_1 := keep hb z2_1
      rcases (show i = 0 ∨ i = 1 ∨ i = 2 ∨ i = 3 ∨ i = 4 ∨ i = 5 ∨ i = 6 ∨ i = 7 ∨ i = 8 ∨ i = 9 by omega) with rfl | rfl | rfl | rfl | rfl | rfl | rfl | rfl | rfl | rfl
      · cases ho
        simp only [Act.put, List.setIfInBounds_toArray, List.set_cons_zero, List.set_cons_succ] at hK
        clear hs
        go_simp
        all_goals (try go_wp2_with (first | (go_at_call 49; refine (rcut_d _ hp ha hb_ (by decide) hne).mono ?_; rintro e w' ⟨rfl, hb2⟩)))
        all_goals first | exact hK.out _ _ ⟨_, rfl, hb.size, sl_pts (L := [(ax, ay), (cuP (nx, ny, fd) (ax, ay) (bx, b_y))]) (cs := #[.float .f64 ax, .float .f64 ay, .float .f64 (cuX (nx, ny, fd) (ax, ay) (bx, b_y)), .float .f64 (cuY (nx, ny, fd) (ax, ay) (bx, b_y))]) rfl (by simp [prRow, px, py, pt, List.range_succ, cuP])⟩ (bl_alloc (bl_refl _) _ _) | exact hK.out _ _ ⟨_, rfl, by rw [World.cell?_alloc_new]; rfl, by rw [World.cell?_alloc_new]; rfl⟩ (bl_alloc (bl_refl _) _ _) | exact hK.out _ _ ⟨_, rfl, hgl, hS⟩ (bl_refl _) | exact hK.out _ _ ⟨_, rfl, hq0, hq1⟩ (bl_refl _) | exact hK.out _ _ rfl hb2 | exact hK.out _ _ rfl (bl_refl _) | exact hK.out _ _ rfl (by assumption) | exact hK.out _ _ (by assumption) (by assumption)
      · cases ho
        simp only [Act.put, List.setIfInBounds_toArray, List.set_cons_zero, List.set_cons_succ] at hK
        clear hs
        go_simp
        all_goals (try go_wp2_with (first | (go_at_call 49; refine (rcut_d _ hp ha hb_ (by decide) hne).mono ?_; rintro e w' ⟨rfl, hb2⟩)))
        all_goals first | exact hK.out _ _ ⟨_, rfl, hb.size, sl_pts (L := [(ax, ay), (cuP (nx, ny, fd) (ax, ay) (bx, b_y))]) (cs := #[.float .f64 ax, .float .f64 ay, .float .f64 (cuX (nx, ny, fd) (ax, ay) (bx, b_y)), .float .f64 (cuY (nx, ny, fd) (ax, ay) (bx, b_y))]) rfl (by simp [prRow, px, py, pt, List.range_succ, cuP])⟩ (bl_alloc (bl_refl _) _ _) | exact hK.out _ _ ⟨_, rfl, by rw [World.cell?_alloc_new]; rfl, by rw [World.cell?_alloc_new]; rfl⟩ (bl_alloc (bl_refl _) _ _) | exact hK.out _ _ ⟨_, rfl, hgl, hS⟩ (bl_refl _) | exact hK.out _ _ ⟨_, rfl, hq0, hq1⟩ (bl_refl _) | exact hK.out _ _ rfl hb2 | exact hK.out _ _ rfl (bl_refl _) | exact hK.out _ _ rfl (by assumption) | exact hK.out _ _ (by assumption) (by assumption)
      · cases ho
        simp only [Act.put, List.setIfInBounds_toArray, List.set_cons_zero, List.set_cons_succ] at hK
        clear hs
        go_simp
        all_goals (try go_wp2_with (first | (go_at_call 49; refine (rcut_d _ hp ha hb_ (by decide) hne).mono ?_; rintro e w' ⟨rfl, hb2⟩)))
        all_goals first | exact hK.out _ _ ⟨_, rfl, hb.size, sl_pts (L := [(ax, ay), (cuP (nx, ny, fd) (ax, ay) (bx, b_y))]) (cs := #[.float .f64 ax, .float .f64 ay, .float .f64 (cuX (nx, ny, fd) (ax, ay) (bx, b_y)), .float .f64 (cuY (nx, ny, fd) (ax, ay) (bx, b_y))]) rfl (by simp [prRow, px, py, pt, List.range_succ, cuP])⟩ (bl_alloc (bl_refl _) _ _) | exact hK.out _ _ ⟨_, rfl, by rw [World.cell?_alloc_new]; rfl, by rw [World.cell?_alloc_new]; rfl⟩ (bl_alloc (bl_refl _) _ _) | exact hK.out _ _ ⟨_, rfl, hgl, hS⟩ (bl_refl _) | exact hK.out _ _ ⟨_, rfl, hq0, hq1⟩ (bl_refl _) | exact hK.out _ _ rfl hb2 | exact hK.out _ _ rfl (bl_refl _) | exact hK.out _ _ rfl (by assumption) | exact hK.out _ _ (by assumption) (by assumption)
      · cases ho
        simp only [Act.put, List.setIfInBounds_toArray, List.set_cons_zero, List.set_cons_succ] at hK
        clear hs
        go_simp
        all_goals (try go_wp2_with (first | (go_at_call 49; refine (rcut_d _ hp ha hb_ (by decide) hne).mono ?_; rintro e w' ⟨rfl, hb2⟩)))
        all_goals first | exact hK.out _ _ ⟨_, rfl, hb.size, sl_pts (L := [(ax, ay), (cuP (nx, ny, fd) (ax, ay) (bx, b_y))]) (cs := #[.float .f64 ax, .float .f64 ay, .float .f64 (cuX (nx, ny, fd) (ax, ay) (bx, b_y)), .float .f64 (cuY (nx, ny, fd) (ax, ay) (bx, b_y))]) rfl (by simp [prRow, px, py, pt, List.range_succ, cuP])⟩ (bl_alloc (bl_refl _) _ _) | exact hK.out _ _ ⟨_, rfl, by rw [World.cell?_alloc_new]; rfl, by rw [World.cell?_alloc_new]; rfl⟩ (bl_alloc (bl_refl _) _ _) | exact hK.out _ _ ⟨_, rfl, hgl, hS⟩ (bl_refl _) | exact hK.out _ _ ⟨_, rfl, hq0, hq1⟩ (bl_refl _) | exact hK.out _ _ rfl hb2 | exact hK.out _ _ rfl (bl_refl _) | exact hK.out _ _ rfl (by assumption) | exact hK.out _ _ (by assumption) (by assumption)
      · cases ho
        have e1 : s 1 = _ := hs 1 (by decide) (by kernel_rfl)
        have e2 : s 2 = _ := hs 2 (by decide) (by kernel_rfl)
        have e3 : s 3 = _ := hs 3 (by decide) (by kernel_rfl)
        simp only [e1, e2, e3] at hK ⊢
        simp only [Act.put, List.setIfInBounds_toArray, List.set_cons_zero, List.set_cons_succ] at hK
        clear hs
        go_simp
        all_goals (try go_wp2_with (first | (go_at_call 49; refine (rcut_d _ hp ha hb_ (by decide) hne).mono ?_; rintro e w' ⟨rfl, hb2⟩)))
        all_goals first | exact hK.out _ _ ⟨_, rfl, hb.size, sl_pts (L := [(ax, ay), (cuP (nx, ny, fd) (ax, ay) (bx, b_y))]) (cs := #[.float .f64 ax, .float .f64 ay, .float .f64 (cuX (nx, ny, fd) (ax, ay) (bx, b_y)), .float .f64 (cuY (nx, ny, fd) (ax, ay) (bx, b_y))]) rfl (by simp [prRow, px, py, pt, List.range_succ, cuP])⟩ (bl_alloc (bl_refl _) _ _) | exact hK.out _ _ ⟨_, rfl, by rw [World.cell?_alloc_new]; rfl, by rw [World.cell?_alloc_new]; rfl⟩ (bl_alloc (bl_refl _) _ _) | exact hK.out _ _ ⟨_, rfl, hgl, hS⟩ (bl_refl _) | exact hK.out _ _ ⟨_, rfl, hq0, hq1⟩ (bl_refl _) | exact hK.out _ _ rfl hb2 | exact hK.out _ _ rfl (bl_refl _) | exact hK.out _ _ rfl (by assumption) | exact hK.out _ _ (by assumption) (by assumption)
      · cases ho
        have e0 : s 0 = _ := hs 0 (by decide) (by kernel_rfl)
        have e4 : s 4 = _ := hs 4 (by decide) (by kernel_rfl)
        simp only [e0, e4] at hK ⊢
        simp only [Act.put, List.setIfInBounds_toArray, List.set_cons_zero, List.set_cons_succ] at hK
        clear hs
        go_simp
        all_goals (try go_wp2_with (first | (go_at_call 49; refine (rcut_d _ hp ha hb_ (by decide) hne).mono ?_; rintro e w' ⟨rfl, hb2⟩)))
        all_goals first | exact hK.out _ _ ⟨_, rfl, hb.size, sl_pts (L := [(ax, ay), (cuP (nx, ny, fd) (ax, ay) (bx, b_y))]) (cs := #[.float .f64 ax, .float .f64 ay, .float .f64 (cuX (nx, ny, fd) (ax, ay) (bx, b_y)), .float .f64 (cuY (nx, ny, fd) (ax, ay) (bx, b_y))]) rfl (by simp [prRow, px, py, pt, List.range_succ, cuP])⟩ (bl_alloc (bl_refl _) _ _) | exact hK.out _ _ ⟨_, rfl, by rw [World.cell?_alloc_new]; rfl, by rw [World.cell?_alloc_new]; rfl⟩ (bl_alloc (bl_refl _) _ _) | exact hK.out _ _ ⟨_, rfl, hgl, hS⟩ (bl_refl _) | exact hK.out _ _ ⟨_, rfl, hq0, hq1⟩ (bl_refl _) | exact hK.out _ _ rfl hb2 | exact hK.out _ _ rfl (bl_refl _) | exact hK.out _ _ rfl (by assumption) | exact hK.out _ _ (by assumption) (by assumption)
      · cases ho
        simp only [Act.put, List.setIfInBounds_toArray, List.set_cons_zero, List.set_cons_succ] at hK
        clear hs
        go_simp
        all_goals (try go_wp2_with (first | (go_at_call 49; refine (rcut_d _ hp ha hb_ (by decide) hne).mono ?_; rintro e w' ⟨rfl, hb2⟩)))
        all_goals first | exact hK.out _ _ ⟨_, rfl, hb.size, sl_pts (L := [(ax, ay), (cuP (nx, ny, fd) (ax, ay) (bx, b_y))]) (cs := #[.float .f64 ax, .float .f64 ay, .float .f64 (cuX (nx, ny, fd) (ax, ay) (bx, b_y)), .float .f64 (cuY (nx, ny, fd) (ax, ay) (bx, b_y))]) rfl (by simp [prRow, px, py, pt, List.range_succ, cuP])⟩ (bl_alloc (bl_refl _) _ _) | exact hK.out _ _ ⟨_, rfl, by rw [World.cell?_alloc_new]; rfl, by rw [World.cell?_alloc_new]; rfl⟩ (bl_alloc (bl_refl _) _ _) | exact hK.out _ _ ⟨_, rfl, hgl, hS⟩ (bl_refl _) | exact hK.out _ _ ⟨_, rfl, hq0, hq1⟩ (bl_refl _) | exact hK.out _ _ rfl hb2 | exact hK.out _ _ rfl (bl_refl _) | exact hK.out _ _ rfl (by assumption) | exact hK.out _ _ (by assumption) (by assumption)
      · cases ho
        obtain ⟨g, e5, hgl, hS⟩ := hs 5 (by decide) (by kernel_rfl)
        simp only [e5] at hK ⊢
        simp only [Act.put, List.setIfInBounds_toArray, List.set_cons_zero, List.set_cons_succ] at hK
        clear hs
        go_simp
        all_goals (try go_wp2_with (first | (go_at_call 49; refine (rcut_d _ hp ha hb_ (by decide) hne).mono ?_; rintro e w' ⟨rfl, hb2⟩)))
        all_goals first | exact hK.out _ _ ⟨_, rfl, hb.size, sl_pts (L := [(ax, ay), (cuP (nx, ny, fd) (ax, ay) (bx, b_y))]) (cs := #[.float .f64 ax, .float .f64 ay, .float .f64 (cuX (nx, ny, fd) (ax, ay) (bx, b_y)), .float .f64 (cuY (nx, ny, fd) (ax, ay) (bx, b_y))]) rfl (by simp [prRow, px, py, pt, List.range_succ, cuP])⟩ (bl_alloc (bl_refl _) _ _) | exact hK.out _ _ ⟨_, rfl, by rw [World.cell?_alloc_new]; rfl, by rw [World.cell?_alloc_new]; rfl⟩ (bl_alloc (bl_refl _) _ _) | exact hK.out _ _ ⟨_, rfl, hgl, hS⟩ (bl_refl _) | exact hK.out _ _ ⟨_, rfl, hq0, hq1⟩ (bl_refl _) | exact hK.out _ _ rfl hb2 | exact hK.out _ _ rfl (bl_refl _) | exact hK.out _ _ rfl (by assumption) | exact hK.out _ _ (by assumption) (by assumption)
      · cases ho
        obtain ⟨q, e6, hq0, hq1⟩ := hs 6 (by decide) (by kernel_rfl)
        simp only [e6] at hK ⊢
        simp only [Act.put, List.setIfInBounds_toArray, List.set_cons_zero, List.set_cons_succ] at hK
        clear hs
        go_simp
        all_goals (try go_wp2_with (first | (go_at_call 49; refine (rcut_d _ hp ha hb_ (by decide) hne).mono ?_; rintro e w' ⟨rfl, hb2⟩)))
        all_goals first | exact hK.out _ _ ⟨_, rfl, hb.size, sl_pts (L := [(ax, ay), (cuP (nx, ny, fd) (ax, ay) (bx, b_y))]) (cs := #[.float .f64 ax, .float .f64 ay, .float .f64 (cuX (nx, ny, fd) (ax, ay) (bx, b_y)), .float .f64 (cuY (nx, ny, fd) (ax, ay) (bx, b_y))]) rfl (by simp [prRow, px, py, pt, List.range_succ, cuP])⟩ (bl_alloc (bl_refl _) _ _) | exact hK.out _ _ ⟨_, rfl, by rw [World.cell?_alloc_new]; rfl, by rw [World.cell?_alloc_new]; rfl⟩ (bl_alloc (bl_refl _) _ _) | exact hK.out _ _ ⟨_, rfl, hgl, hS⟩ (bl_refl _) | exact hK.out _ _ ⟨_, rfl, hq0, hq1⟩ (bl_refl _) | exact hK.out _ _ rfl hb2 | exact hK.out _ _ rfl (bl_refl _) | exact hK.out _ _ rfl (by assumption) | exact hK.out _ _ (by assumption) (by assumption)
      · cases ho
        simp only [Act.put, List.setIfInBounds_toArray, List.set_cons_zero, List.set_cons_succ] at hK
        clear hs
        go_simp
        all_goals (try go_wp2_with (first | (go_at_call 49; refine (rcut_d _ hp ha hb_ (by decide) hne).mono ?_; rintro e w' ⟨rfl, hb2⟩)))
        all_goals first | exact hK.out _ _ ⟨_, rfl, hb.size, sl_pts (L := [(ax, ay), (cuP (nx, ny, fd) (ax, ay) (bx, b_y))]) (cs := #[.float .f64 ax, .float .f64 ay, .float .f64 (cuX (nx, ny, fd) (ax, ay) (bx, b_y)), .float .f64 (cuY (nx, ny, fd) (ax, ay) (bx, b_y))]) rfl (by simp [prRow, px, py, pt, List.range_succ, cuP])⟩ (bl_alloc (bl_refl _) _ _) | exact hK.out _ _ ⟨_, rfl, by rw [World.cell?_alloc_new]; rfl, by rw [World.cell?_alloc_new]; rfl⟩ (bl_alloc (bl_refl _) _ _) | exact hK.out _ _ ⟨_, rfl, hgl, hS⟩ (bl_refl _) | exact hK.out _ _ ⟨_, rfl, hq0, hq1⟩ (bl_refl _) | exact hK.out _ _ rfl hb2 | exact hK.out _ _ rfl (bl_refl _) | exact hK.out _ _ rfl (by assumption) | exact hK.out _ _ (by assumption) (by assumption)
    case ht_wn =>
      intro s W2 hs hb3
      have e0 : s 0 = _ := hs 0 (by decide)
      have e1 : s 1 = _ := hs 1 (by decide)
      have e2 : s 2 = _ := hs 2 (by decide)
      have e3 : s 3 = _ := hs 3 (by decide)
      have e4 : s 4 = _ := hs 4 (by decide)
      obtain ⟨_, e5, _, _⟩ := hs 5 (by decide)
      obtain ⟨_, e6, _, _⟩ := hs 6 (by decide)
      obtain ⟨g7, e7, hgl7, hS7⟩ := hs 7 (by decide)
      obtain ⟨q8, e8, hq8, hq9⟩ := hs 8 (by decide)
      have e9 : s 9 = _ := hs 9 (by decide)
      simp only [e0, e1, e2, e3, e4, e5, e6, e7, e8, e9]
      clear hs e0 e1 e2 e3 e4 e5 e6 e7 e8 e9
      go_wp2
      refine bodyPost_ret (v := .tuple #[.slice (some ⟨g7, 0, none⟩) 2 2, .slice (some ⟨q8, 0, none⟩) 2 2, .int .i64 0]) (by simp [results, Try.results13, go_sem] <;> (first | exact ⟨⟨rfl, rfl⟩, rfl⟩ | exact ⟨rfl, rfl, rfl, rfl⟩ | exact ⟨rfl, rfl, rfl⟩ | exact ⟨rfl, rfl⟩ | rfl)) rfl ⟨_, _, rfl, Nat.le_trans B1.size hgl7, hS7, hq8, hq9, bl_trans B1 hb3⟩

set_option maxRecDepth 100000 in
set_option maxHeartbeats 2000000 in
theorem rseg_01 (nx ny fd ax ay bx b_y : Nat) (w : World) (o1 : okK .f64 nx) (o2 : okK .f64 ny) (o3 : okK .f64 fd) (oa : okK .f64 ax) (ob : okK .f64 ay) (oc : okK .f64 bx) (od : okK .f64 b_y) (h0 : farE (nx, ny, fd) [(ax, ay), (bx, b_y)] = 0) (h1 : leK .f64 (frK (nx, ny, fd) (ax, ay)) 0 = false) (h2 : leK .f64 (frK (nx, ny, fd) (bx, b_y)) 0 = true) : Calls Try.prog 13 #[.agg #[.float .f64 nx, .float .f64 ny, .float .f64 fd], .agg #[.float .f64 ax, .float .f64 ay], .agg #[.float .f64 bx, .float .f64 b_y]] w fun e w' => ∃ g q, e = .returned (.tuple #[.slice (some ⟨g, 0, none⟩) 2 2, .slice (some ⟨q, 0, none⟩) 2 2, .int .i64 0]) ∧ w.heap.size ≤ g ∧ Sl w' g 0 2 (px [(cuP (nx, ny, fd) (ax, ay) (bx, b_y)), (bx, b_y)]) (py [(cuP (nx, ny, fd) (ax, ay) (bx, b_y)), (bx, b_y)]) ∧ w'.cell? ⟨q, 0, none⟩ = some (.int .i64 2) ∧ w'.cell? ⟨q, 1, none⟩ = some (.int .i64 1) ∧ Bel w w' := by
  obtain ⟨hp, hl⟩ := farE_bd h0 o1 o2 o3 (by intro q hq; simp at hq; rcases hq with rfl | rfl <;> constructor <;> assumption)
  have ha := hl (ax, ay) (by simp)
  have hb_ := hl (bx, b_y) (by simp)
  have h1 : wiB (nx, ny, fd) (ax, ay) = false := h1
  have h2 : wiB (nx, ny, fd) (bx, b_y) = true := h2
  have hne : wiB (nx, ny, fd) (ax, ay) ≠ wiB (nx, ny, fd) (bx, b_y) := by rw [h1, h2]; decide
  have z0_0 : (w.alloc (.cells #[.float .f64 nx, .float .f64 ny, .float .f64 fd] 26)).cell? ⟨w.heap.size, 0, none⟩ = some (.float .f64 nx) := by rw [World.cell?_alloc_new]; rfl
  replace z0_0 := up_alloc (o := .cells #[.float .f64 ax, .float .f64 ay] 24) z0_0
  replace z0_0 := up_alloc (o := .cells #[.float .f64 bx, .float .f64 b_y] 24) z0_0
  have z0_1 : (w.alloc (.cells #[.float .f64 nx, .float .f64 ny, .float .f64 fd] 26)).cell? ⟨w.heap.size, 1, none⟩ = some (.float .f64 ny) := by rw [World.cell?_alloc_new]; rfl
  replace z0_1 := up_alloc (o := .cells #[.float .f64 ax, .float .f64 ay] 24) z0_1
  replace z0_1 := up_alloc (o := .cells #[.float .f64 bx, .float .f64 b_y] 24) z0_1
  have z0_2 : (w.alloc (.cells #[.float .f64 nx, .float .f64 ny, .float .f64 fd] 26)).cell? ⟨w.heap.size, 2, none⟩ = some (.float .f64 fd) := by rw [World.cell?_alloc_new]; rfl
  replace z0_2 := up_alloc (o := .cells #[.float .f64 ax, .float .f64 ay] 24) z0_2
  replace z0_2 := up_alloc (o := .cells #[.float .f64 bx, .float .f64 b_y] 24) z0_2
  have z1_0 : ((w.alloc (.cells #[.float .f64 nx, .float .f64 ny, .float .f64 fd] 26)).alloc (.cells #[.float .f64 ax, .float .f64 ay] 24)).cell? ⟨w.heap.size + 1, 0, none⟩ = some (.float .f64 ax) := by rw [← (show (w.alloc (.cells #[.float .f64 nx, .float .f64 ny, .float .f64 fd] 26)).heap.size = w.heap.size + 1 by simp only [World.size_alloc]), World.cell?_alloc_new]; rfl
  replace z1_0 := up_alloc (o := .cells #[.float .f64 bx, .float .f64 b_y] 24) z1_0
  have z1_1 : ((w.alloc (.cells #[.float .f64 nx, .float .f64 ny, .float .f64 fd] 26)).alloc (.cells #[.float .f64 ax, .float .f64 ay] 24)).cell? ⟨w.heap.size + 1, 1, none⟩ = some (.float .f64 ay) := by rw [← (show (w.alloc (.cells #[.float .f64 nx, .float .f64 ny, .float .f64 fd] 26)).heap.size = w.heap.size + 1 by simp only [World.size_alloc]), World.cell?_alloc_new]; rfl
  replace z1_1 := up_alloc (o := .cells #[.float .f64 bx, .float .f64 b_y] 24) z1_1
  have z2_0 : (((w.alloc (.cells #[.float .f64 nx, .float .f64 ny, .float .f64 fd] 26)).alloc (.cells #[.float .f64 ax, .float .f64 ay] 24)).alloc (.cells #[.float .f64 bx, .float .f64 b_y] 24)).cell? ⟨w.heap.size + 1 + 1, 0, none⟩ = some (.float .f64 bx) := by rw [← (show ((w.alloc (.cells #[.float .f64 nx, .float .f64 ny, .float .f64 fd] 26)).alloc (.cells #[.float .f64 ax, .float .f64 ay] 24)).heap.size = w.heap.size + 1 + 1 by simp only [World.size_alloc]), World.cell?_alloc_new]; rfl
  have z2_1 : (((w.alloc (.cells #[.float .f64 nx, .float .f64 ny, .float .f64 fd] 26)).alloc (.cells #[.float .f64 ax, .float .f64 ay] 24)).alloc (.cells #[.float .f64 bx, .float .f64 b_y] 24)).cell? ⟨w.heap.size + 1 + 1, 1, none⟩ = some (.float .f64 b_y) := by rw [← (show ((w.alloc (.cells #[.float .f64 nx, .float .f64 ny, .float .f64 fd] 26)).alloc (.cells #[.float .f64 ax, .float .f64 ay] 24)).heap.size = w.heap.size + 1 + 1 by simp only [World.size_alloc]), World.cell?_alloc_new]; rfl
  have B0 : Bel w (((w.alloc (.cells #[.float .f64 nx, .float .f64 ny, .float .f64 fd] 26)).alloc (.cells #[.float .f64 ax, .float .f64 ay] 24)).alloc (.cells #[.float .f64 bx, .float .f64 b_y] 24)) := bl_alloc (bl_alloc (bl_alloc (bl_refl w) _ _) _ _) _ _
  go_enter Try.func13, Try.ntmps13
  go_wp2
  refine wp_region_mono 9 rfl (fun i W v => match i with | 0 => v = .agg #[.float .f64 nx, .float .f64 ny, .float .f64 fd] | 1 => v = .int .i64 (pE (nx, ny, fd)) | 2 => v = .agg #[.float .f64 ax, .float .f64 ay] | 3 => v = .int .i64 (rlE ax ay) | 4 => v = .agg #[.float .f64 bx, .float .f64 b_y] | 5 => v = .int .i64 (rlE bx b_y) | 6 => ∃ g, v = .slice (some ⟨g, 0, none⟩) 3 3 ∧ W.cell? ⟨g, 0, none⟩ = some (.int .i64 (pE (nx, ny, fd))) ∧ W.cell? ⟨g, 1, none⟩ = some (.int .i64 (rlE ax ay)) ∧ W.cell? ⟨g, 2, none⟩ = some (.int .i64 (rlE bx b_y)) | 7 => v = .int .i64 (0) | 8 => v = .int .i64 (0) | _ => False) ?A_wm (by kernel_rfl) (by kernel_rfl) ?hA_wm ?hmo_wm ?hq_wm ?ht_wm
  case hA_wm =>
    intro s
    simp only [putL, dstO, Act.put, List.getElem?_toArray, List.getElem?_cons_zero, List.getElem?_cons_succ, Option.bind_some, List.setIfInBounds_toArray, List.set_cons_zero, List.set_cons_succ, if_true]
    all_goals exact rfl
  case hmo_wm =>
    intro i W W' v hi hb h
    rcases (show i = 0 ∨ i = 1 ∨ i = 2 ∨ i = 3 ∨ i = 4 ∨ i = 5 ∨ i = 6 ∨ i = 7 ∨ i = 8 by omega) with rfl | rfl | rfl | rfl | rfl | rfl | rfl | rfl | rfl
    all_goals first | exact h | (obtain ⟨g, e4, hg0, hg1, hg2⟩ := h; exact ⟨g, e4, keep hb hg0, keep hb hg1, keep hb hg2⟩)
  case hq_wm =>
    intro i o hi ho s W hs hb K hK
    have uz0_0 := keep hb z0_0; have uz0_1 := keep hb z0_1; have uz0_2 := keep hb z0_2; have uz1_0 := keep hb z1_0; have uz1_1 := keep hb z1_1; have uz2_0 := keep hb z2_0; have uz2_1 := keep hb z2_1
    rcases (show i = 0 ∨ i = 1 ∨ i = 2 ∨ i = 3 ∨ i = 4 ∨ i = 5 ∨ i = 6 ∨ i = 7 ∨ i = 8 by omega) with rfl | rfl | rfl | rfl | rfl | rfl | rfl | rfl | rfl
    · cases ho
      simp only [Act.put, List.setIfInBounds_toArray, List.set_cons_zero, List.set_cons_succ] at hK
      clear hs
      go_simp
      all_goals (try go_wp2_with (first | (go_at_call 17; refine (rcchk_any _ _ _ _ o1 o2 o3).mono ?_; rintro e w' ⟨rfl, hb1⟩) | (go_at_call 44; (first | with_reducible refine (real_d _ _ _ oa ob).mono ?_ | with_reducible refine (real_d _ _ _ oc od).mono ?_); rintro e w' ⟨rfl, hb1⟩) | (go_at_call 43; refine (first3 _ _ _ _ _ hg0 hg1 hg2).mono ?_; rintro e w' ⟨rfl, rfl⟩; rw [seg_first, h0])))
      all_goals first | exact hK.out _ _ ⟨_, rfl, by rw [World.cell?_alloc_new]; rfl, by rw [World.cell?_alloc_new]; rfl, by rw [World.cell?_alloc_new]; rfl⟩ (bl_alloc (bl_refl _) _ _) | exact hK.out _ _ rfl (bl_refl _) | exact hK.out _ _ rfl (by assumption) | exact hK.out _ _ (by assumption) (by assumption)
    · cases ho
      have e0 : s 0 = _ := hs 0 (by decide) (by kernel_rfl)
      simp only [e0] at hK ⊢
      simp only [Act.put, List.setIfInBounds_toArray, List.set_cons_zero, List.set_cons_succ] at hK
      clear hs
      go_simp
      all_goals (try go_wp2_with (first | (go_at_call 17; refine (rcchk_any _ _ _ _ o1 o2 o3).mono ?_; rintro e w' ⟨rfl, hb1⟩) | (go_at_call 44; (first | with_reducible refine (real_d _ _ _ oa ob).mono ?_ | with_reducible refine (real_d _ _ _ oc od).mono ?_); rintro e w' ⟨rfl, hb1⟩) | (go_at_call 43; refine (first3 _ _ _ _ _ hg0 hg1 hg2).mono ?_; rintro e w' ⟨rfl, rfl⟩; rw [seg_first, h0])))
      all_goals first | exact hK.out _ _ ⟨_, rfl, by rw [World.cell?_alloc_new]; rfl, by rw [World.cell?_alloc_new]; rfl, by rw [World.cell?_alloc_new]; rfl⟩ (bl_alloc (bl_refl _) _ _) | exact hK.out _ _ rfl (bl_refl _) | exact hK.out _ _ rfl (by assumption) | exact hK.out _ _ (by assumption) (by assumption)
    · cases ho
      simp only [Act.put, List.setIfInBounds_toArray, List.set_cons_zero, List.set_cons_succ] at hK
      clear hs
      go_simp
      all_goals (try go_wp2_with (first | (go_at_call 17; refine (rcchk_any _ _ _ _ o1 o2 o3).mono ?_; rintro e w' ⟨rfl, hb1⟩) | (go_at_call 44; (first | with_reducible refine (real_d _ _ _ oa ob).mono ?_ | with_reducible refine (real_d _ _ _ oc od).mono ?_); rintro e w' ⟨rfl, hb1⟩) | (go_at_call 43; refine (first3 _ _ _ _ _ hg0 hg1 hg2).mono ?_; rintro e w' ⟨rfl, rfl⟩; rw [seg_first, h0])))
      all_goals first | exact hK.out _ _ ⟨_, rfl, by rw [World.cell?_alloc_new]; rfl, by rw [World.cell?_alloc_new]; rfl, by rw [World.cell?_alloc_new]; rfl⟩ (bl_alloc (bl_refl _) _ _) | exact hK.out _ _ rfl (bl_refl _) | exact hK.out _ _ rfl (by assumption) | exact hK.out _ _ (by assumption) (by assumption)
    · cases ho
      have e2 : s 2 = _ := hs 2 (by decide) (by kernel_rfl)
      simp only [e2] at hK ⊢
      simp only [Act.put, List.setIfInBounds_toArray, List.set_cons_zero, List.set_cons_succ] at hK
      clear hs
      go_simp
      all_goals (try go_wp2_with (first | (go_at_call 17; refine (rcchk_any _ _ _ _ o1 o2 o3).mono ?_; rintro e w' ⟨rfl, hb1⟩) | (go_at_call 44; (first | with_reducible refine (real_d _ _ _ oa ob).mono ?_ | with_reducible refine (real_d _ _ _ oc od).mono ?_); rintro e w' ⟨rfl, hb1⟩) | (go_at_call 43; refine (first3 _ _ _ _ _ hg0 hg1 hg2).mono ?_; rintro e w' ⟨rfl, rfl⟩; rw [seg_first, h0])))
      all_goals first | exact hK.out _ _ ⟨_, rfl, by rw [World.cell?_alloc_new]; rfl, by rw [World.cell?_alloc_new]; rfl, by rw [World.cell?_alloc_new]; rfl⟩ (bl_alloc (bl_refl _) _ _) | exact hK.out _ _ rfl (bl_refl _) | exact hK.out _ _ rfl (by assumption) | exact hK.out _ _ (by assumption) (by assumption)
    · cases ho
      simp only [Act.put, List.setIfInBounds_toArray, List.set_cons_zero, List.set_cons_succ] at hK
      clear hs
      go_simp
      all_goals (try go_wp2_with (first | (go_at_call 17; refine (rcchk_any _ _ _ _ o1 o2 o3).mono ?_; rintro e w' ⟨rfl, hb1⟩) | (go_at_call 44; (first | with_reducible refine (real_d _ _ _ oa ob).mono ?_ | with_reducible refine (real_d _ _ _ oc od).mono ?_); rintro e w' ⟨rfl, hb1⟩) | (go_at_call 43; refine (first3 _ _ _ _ _ hg0 hg1 hg2).mono ?_; rintro e w' ⟨rfl, rfl⟩; rw [seg_first, h0])))
      all_goals first | exact hK.out _ _ ⟨_, rfl, by rw [World.cell?_alloc_new]; rfl, by rw [World.cell?_alloc_new]; rfl, by rw [World.cell?_alloc_new]; rfl⟩ (bl_alloc (bl_refl _) _ _) | exact hK.out _ _ rfl (bl_refl _) | exact hK.out _ _ rfl (by assumption) | exact hK.out _ _ (by assumption) (by assumption)
    · cases ho
      have e4 : s 4 = _ := hs 4 (by decide) (by kernel_rfl)
      simp only [e4] at hK ⊢
      simp only [Act.put, List.setIfInBounds_toArray, List.set_cons_zero, List.set_cons_succ] at hK
      clear hs
      go_simp
      all_goals (try go_wp2_with (first | (go_at_call 17; refine (rcchk_any _ _ _ _ o1 o2 o3).mono ?_; rintro e w' ⟨rfl, hb1⟩) | (go_at_call 44; (first | with_reducible refine (real_d _ _ _ oa ob).mono ?_ | with_reducible refine (real_d _ _ _ oc od).mono ?_); rintro e w' ⟨rfl, hb1⟩) | (go_at_call 43; refine (first3 _ _ _ _ _ hg0 hg1 hg2).mono ?_; rintro e w' ⟨rfl, rfl⟩; rw [seg_first, h0])))
      all_goals first | exact hK.out _ _ ⟨_, rfl, by rw [World.cell?_alloc_new]; rfl, by rw [World.cell?_alloc_new]; rfl, by rw [World.cell?_alloc_new]; rfl⟩ (bl_alloc (bl_refl _) _ _) | exact hK.out _ _ rfl (bl_refl _) | exact hK.out _ _ rfl (by assumption) | exact hK.out _ _ (by assumption) (by assumption)
    · cases ho
      have e1 : s 1 = _ := hs 1 (by decide) (by kernel_rfl)
      have e3 : s 3 = _ := hs 3 (by decide) (by kernel_rfl)
      have e5 : s 5 = _ := hs 5 (by decide) (by kernel_rfl)
      simp only [e1, e3, e5] at hK ⊢
      simp only [Act.put, List.setIfInBounds_toArray, List.set_cons_zero, List.set_cons_succ] at hK
      clear hs
      go_simp
      all_goals (try go_wp2_with (first | (go_at_call 17; refine (rcchk_any _ _ _ _ o1 o2 o3).mono ?_; rintro e w' ⟨rfl, hb1⟩) | (go_at_call 44; (first | with_reducible refine (real_d _ _ _ oa ob).mono ?_ | with_reducible refine (real_d _ _ _ oc od).mono ?_); rintro e w' ⟨rfl, hb1⟩) | (go_at_call 43; refine (first3 _ _ _ _ _ hg0 hg1 hg2).mono ?_; rintro e w' ⟨rfl, rfl⟩; rw [seg_first, h0])))
      all_goals first | exact hK.out _ _ ⟨_, rfl, by rw [World.cell?_alloc_new]; rfl, by rw [World.cell?_alloc_new]; rfl, by rw [World.cell?_alloc_new]; rfl⟩ (bl_alloc (bl_refl _) _ _) | exact hK.out _ _ rfl (bl_refl _) | exact hK.out _ _ rfl (by assumption) | exact hK.out _ _ (by assumption) (by assumption)
    · cases ho
      obtain ⟨g, e6, hg0, hg1, hg2⟩ := hs 6 (by decide) (by kernel_rfl)
      simp only [e6] at hK ⊢
      simp only [Act.put, List.setIfInBounds_toArray, List.set_cons_zero, List.set_cons_succ] at hK
      clear hs
      go_simp
      all_goals (try go_wp2_with (first | (go_at_call 17; refine (rcchk_any _ _ _ _ o1 o2 o3).mono ?_; rintro e w' ⟨rfl, hb1⟩) | (go_at_call 44; (first | with_reducible refine (real_d _ _ _ oa ob).mono ?_ | with_reducible refine (real_d _ _ _ oc od).mono ?_); rintro e w' ⟨rfl, hb1⟩) | (go_at_call 43; refine (first3 _ _ _ _ _ hg0 hg1 hg2).mono ?_; rintro e w' ⟨rfl, rfl⟩; rw [seg_first, h0])))
      all_goals first | exact hK.out _ _ ⟨_, rfl, by rw [World.cell?_alloc_new]; rfl, by rw [World.cell?_alloc_new]; rfl, by rw [World.cell?_alloc_new]; rfl⟩ (bl_alloc (bl_refl _) _ _) | exact hK.out _ _ rfl (bl_refl _) | exact hK.out _ _ rfl (by assumption) | exact hK.out _ _ (by assumption) (by assumption)
    · cases ho
      have e7 : s 7 = _ := hs 7 (by decide) (by kernel_rfl)
      simp only [e7] at hK ⊢
      simp only [Act.put, List.setIfInBounds_toArray, List.set_cons_zero, List.set_cons_succ] at hK
      clear hs
      go_simp
      all_goals (try go_wp2_with (first | (go_at_call 17; refine (rcchk_any _ _ _ _ o1 o2 o3).mono ?_; rintro e w' ⟨rfl, hb1⟩) | (go_at_call 44; (first | with_reducible refine (real_d _ _ _ oa ob).mono ?_ | with_reducible refine (real_d _ _ _ oc od).mono ?_); rintro e w' ⟨rfl, hb1⟩) | (go_at_call 43; refine (first3 _ _ _ _ _ hg0 hg1 hg2).mono ?_; rintro e w' ⟨rfl, rfl⟩; rw [seg_first, h0])))
      all_goals first | exact hK.out _ _ ⟨_, rfl, by rw [World.cell?_alloc_new]; rfl, by rw [World.cell?_alloc_new]; rfl, by rw [World.cell?_alloc_new]; rfl⟩ (bl_alloc (bl_refl _) _ _) | exact hK.out _ _ rfl (bl_refl _) | exact hK.out _ _ rfl (by assumption) | exact hK.out _ _ (by assumption) (by assumption)
  case ht_wm =>
    intro s W1 hs hb1
    have e0 : s 0 = _ := hs 0 (by decide)
    have e1 : s 1 = _ := hs 1 (by decide)
    have e2 : s 2 = _ := hs 2 (by decide)
    have e3 : s 3 = _ := hs 3 (by decide)
    have e4 : s 4 = _ := hs 4 (by decide)
    have e5 : s 5 = _ := hs 5 (by decide)
    obtain ⟨g, e6, hg0, hg1, hg2⟩ := hs 6 (by decide)
    have e7 : s 7 = _ := hs 7 (by decide)
    have e8 : s 8 = _ := hs 8 (by decide)
    simp only [e0, e1, e2, e3, e4, e5, e6, e7, e8]
    clear hs e0 e1 e2 e3 e4 e5 e6 e7 e8
    have B1 := bl_trans B0 hb1
    replace z0_0 := keep hb1 z0_0
    replace z0_1 := keep hb1 z0_1
    replace z0_2 := keep hb1 z0_2
    replace z1_0 := keep hb1 z1_0
    replace z1_1 := keep hb1 z1_1
    replace z2_0 := keep hb1 z2_0
    replace z2_1 := keep hb1 z2_1
    clear hb1
    go_wp2_with (first | (go_at_call 48; (first | with_reducible refine (rwithin_d _ hp ha (by decide)).mono ?_ | with_reducible refine (rwithin_d _ hp hb_ (by decide)).mono ?_); rintro e w' ⟨rfl, hb⟩; (first | rw [h1] | rw [h2]); replace z0_0 := keep hb z0_0; replace z0_1 := keep hb z0_1; replace z0_2 := keep hb z0_2; replace z1_0 := keep hb z1_0; replace z1_1 := keep hb z1_1; replace z2_0 := keep hb z2_0; replace z2_1 := keep hb z2_1; have B1 := bl_trans B1 hb; clear hb))
    refine wp_region_mono 10 rfl (fun i W v => match i with | 0 => v = .agg #[.float .f64 nx, .float .f64 ny, .float .f64 fd] | 1 => v = .agg #[.float .f64 ax, .float .f64 ay] | 2 => v = .agg #[.float .f64 bx, .float .f64 b_y] | 3 => v = .agg #[.float .f64 (cuX (nx, ny, fd) (ax, ay) (bx, b_y)), .float .f64 (cuY (nx, ny, fd) (ax, ay) (bx, b_y))] | 4 => v = .agg #[.float .f64 bx, .float .f64 b_y] | 5 => ∃ g, v = .slice (some ⟨g, 0, none⟩) 2 2 ∧ w'.heap.size ≤ g ∧ Sl W g 0 2 (px [(cuP (nx, ny, fd) (ax, ay) (bx, b_y)), (bx, b_y)]) (py [(cuP (nx, ny, fd) (ax, ay) (bx, b_y)), (bx, b_y)]) | 6 => ∃ q, v = .slice (some ⟨q, 0, none⟩) 2 2 ∧ W.cell? ⟨q, 0, none⟩ = some (.int .i64 2) ∧ W.cell? ⟨q, 1, none⟩ = some (.int .i64 1) | 7 => ∃ g, v = .slice (some ⟨g, 0, none⟩) 2 2 ∧ w'.heap.size ≤ g ∧ Sl W g 0 2 (px [(cuP (nx, ny, fd) (ax, ay) (bx, b_y)), (bx, b_y)]) (py [(cuP (nx, ny, fd) (ax, ay) (bx, b_y)), (bx, b_y)]) | 8 => ∃ q, v = .slice (some ⟨q, 0, none⟩) 2 2 ∧ W.cell? ⟨q, 0, none⟩ = some (.int .i64 2) ∧ W.cell? ⟨q, 1, none⟩ = some (.int .i64 1) | 9 => v = .int .i64 0 | _ => False) ?A_wn (by kernel_rfl) (by kernel_rfl) ?hA_wn ?hmo_wn ?hq_wn ?ht_wn
    case hA_wn =>
      intro s
      simp only [putL, dstO, Act.put, List.getElem?_toArray, List.getElem?_cons_zero, List.getElem?_cons_succ, Option.bind_some, List.setIfInBounds_toArray, List.set_cons_zero, List.set_cons_succ, if_true]
      all_goals exact rfl
    case hmo_wn =>
      intro i W W' v hi hb h
      rcases (show i = 0 ∨ i = 1 ∨ i = 2 ∨ i = 3 ∨ i = 4 ∨ i = 5 ∨ i = 6 ∨ i = 7 ∨ i = 8 ∨ i = 9 by omega) with rfl | rfl | rfl | rfl | rfl | rfl | rfl | rfl | rfl | rfl
      all_goals first | exact h | (obtain ⟨g, e4, hl, hS⟩ := h; exact ⟨g, e4, hl, hS.bel hb⟩) | (obtain ⟨g, e4, hg0, hg1⟩ := h; exact ⟨g, e4, keep hb hg0, keep hb hg1⟩)
    case hq_wn =>
      intro i o hi ho s W hs hb K hK
      have uz0_0 := keep hb z0_0; have uz0_1 := keep hb z0_1; have uz0_2 := keep hb z0_2; have uz1_0 := keep hb z1_0; have uz1_1 := keep hb z1_1; have uz2_0 := keep hb z2_0; have uz2_1 := keep hb z2_1
      rcases (show i = 0 ∨ i = 1 ∨ i = 2 ∨ i = 3 ∨ i = 4 ∨ i = 5 ∨ i = 6 ∨ i = 7 ∨ i = 8 ∨ i = 9 by omega) with rfl | rfl | rfl | rfl | rfl | rfl | rfl | rfl | rfl | rfl
      · cases ho
        simp only [Act.put, List.setIfInBounds_toArray, List.set_cons_zero, List.set_cons_succ] at hK
        clear hs
        go_simp
        all_goals (try go_wp2_with (first | (go_at_call 49; refine (rcut_d _ hp ha hb_ (by decide) hne).mono ?_; rintro e w' ⟨rfl, hb2⟩)))
        all_goals first | exact hK.out _ _ ⟨_, rfl, hb.size, sl_pts (L := [(cuP (nx, ny, fd) (ax, ay) (bx, b_y)), (bx, b_y)]) (cs := #[.float .f64 (cuX (nx, ny, fd) (ax, ay) (bx, b_y)), .float .f64 (cuY (nx, ny, fd) (ax, ay) (bx, b_y)), .float .f64 bx, .float .f64 b_y]) rfl (by simp [prRow, px, py, pt, List.range_succ, cuP])⟩ (bl_alloc (bl_refl _) _ _) | exact hK.out _ _ ⟨_, rfl, by rw [World.cell?_alloc_new]; rfl, by rw [World.cell?_alloc_new]; rfl⟩ (bl_alloc (bl_refl _) _ _) | exact hK.out _ _ ⟨_, rfl, hgl, hS⟩ (bl_refl _) | exact hK.out _ _ ⟨_, rfl, hq0, hq1⟩ (bl_refl _) | exact hK.out _ _ rfl hb2 | exact hK.out _ _ rfl (bl_refl _) | exact hK.out _ _ rfl (by assumption) | exact hK.out _ _ (by assumption) (by assumption)
      · cases ho
        simp only [Act.put, List.setIfInBounds_toArray, List.set_cons_zero, List.set_cons_succ] at hK
        clear hs
        go_simp
        all_goals (try go_wp2_with (first | (go_at_call 49; refine (rcut_d _ hp ha hb_ (by decide) hne).mono ?_; rintro e w' ⟨rfl, hb2⟩)))
        all_goals first | exact hK.out _ _ ⟨_, rfl, hb.size, sl_pts (L := [(cuP (nx, ny, fd) (ax, ay) (bx, b_y)), (bx, b_y)]) (cs := #[.float .f64 (cuX (nx, ny, fd) (ax, ay) (bx, b_y)), .float .f64 (cuY (nx, ny, fd) (ax, ay) (bx, b_y)), .float .f64 bx, .float .f64 b_y]) rfl (by simp [prRow, px, py, pt, List.range_succ, cuP])⟩ (bl_alloc (bl_refl _) _ _) | exact hK.out _ _ ⟨_, rfl, by rw [World.cell?_alloc_new]; rfl, by rw [World.cell?_alloc_new]; rfl⟩ (bl_alloc (bl_refl _) _ _) | exact hK.out _ _ ⟨_, rfl, hgl, hS⟩ (bl_refl _) | exact hK.out _ _ ⟨_, rfl, hq0, hq1⟩ (bl_refl _) | exact hK.out _ _ rfl hb2 | exact hK.out _ _ rfl (bl_refl _) | exact hK.out _ _ rfl (by assumption) | exact hK.out _ _ (by assumption) (by assumption)
      · cases ho
        simp only [Act.put, List.setIfInBounds_toArray, List.set_cons_zero, List.set_cons_succ] at hK
        clear hs
        go_simp
        all_goals (try go_wp2_with (first | (go_at_call 49; refine (rcut_d _ hp ha hb_ (by decide) hne).mono ?_; rintro e w' ⟨rfl, hb2⟩)))
        all_goals first | exact hK.out _ _ ⟨_, rfl, hb.size, sl_pts (L := [(cuP (nx, ny, fd) (ax, ay) (bx, b_y)), (bx, b_y)]) (cs := #[.float .f64 (cuX (nx, ny, fd) (ax, ay) (bx, b_y)), .float .f64 (cuY (nx, ny, fd) (ax, ay) (bx, b_y)), .float .f64 bx, .float .f64 b_y]) rfl (by simp [prRow, px, py, pt, List.range_succ, cuP])⟩ (bl_alloc (bl_refl _) _ _) | exact hK.out _ _ ⟨_, rfl, by rw [World.cell?_alloc_new]; rfl, by rw [World.cell?_alloc_new]; rfl⟩ (bl_alloc (bl_refl _) _ _) | exact hK.out _ _ ⟨_, rfl, hgl, hS⟩ (bl_refl _) | exact hK.out _ _ ⟨_, rfl, hq0, hq1⟩ (bl_refl _) | exact hK.out _ _ rfl hb2 | exact hK.out _ _ rfl (bl_refl _) | exact hK.out _ _ rfl (by assumption) | exact hK.out _ _ (by assumption) (by assumption)
      · cases ho
        have e0 : s 0 = _ := hs 0 (by decide) (by kernel_rfl)
        have e1 : s 1 = _ := hs 1 (by decide) (by kernel_rfl)
        have e2 : s 2 = _ := hs 2 (by decide) (by kernel_rfl)
        simp only [e0, e1, e2] at hK ⊢
        simp only [Act.put, List.setIfInBounds_toArray, List.set_cons_zero, List.set_cons_succ] at hK
        clear hs
        go_simp
        all_goals (try go_wp2_with (first | (go_at_call 49; refine (rcut_d _ hp ha hb_ (by decide) hne).mono ?_; rintro e w' ⟨rfl, hb2⟩)))
        all_goals first | exact hK.out _ _ ⟨_, rfl, hb.size, sl_pts (L := [(cuP (nx, ny, fd) (ax, ay) (bx, b_y)), (bx, b_y)]) (cs := #[.float .f64 (cuX (nx, ny, fd) (ax, ay) (bx, b_y)), .float .f64 (cuY (nx, ny, fd) (ax, ay) (bx, b_y)), .float .f64 bx, .float .f64 b_y]) rfl (by simp [prRow, px, py, pt, List.range_succ, cuP])⟩ (bl_alloc (bl_refl _) _ _) | exact hK.out _ _ ⟨_, rfl, by rw [World.cell?_alloc_new]; rfl, by rw [World.cell?_alloc_new]; rfl⟩ (bl_alloc (bl_refl _) _ _) | exact hK.out _ _ ⟨_, rfl, hgl, hS⟩ (bl_refl _) | exact hK.out _ _ ⟨_, rfl, hq0, hq1⟩ (bl_refl _) | exact hK.out _ _ rfl hb2 | exact hK.out _ _ rfl (bl_refl _) | exact hK.out _ _ rfl (by assumption) | exact hK.out _ _ (by assumption) (by assumption)
      · cases ho
        simp only [Act.put, List.setIfInBounds_toArray, List.set_cons_zero, List.set_cons_succ] at hK
        clear hs
        go_simp
        all_goals (try go_wp2_with (first | (go_at_call 49; refine (rcut_d _ hp ha hb_ (by decide) hne).mono ?_; rintro e w' ⟨rfl, hb2⟩)))
        all_goals first | exact hK.out _ _ ⟨_, rfl, hb.size, sl_pts (L := [(cuP (nx, ny, fd) (ax, ay) (bx, b_y)), (bx, b_y)]) (cs := #[.float .f64 (cuX (nx, ny, fd) (ax, ay) (bx, b_y)), .float .f64 (cuY (nx, ny, fd) (ax, ay) (bx, b_y)), .float .f64 bx, .float .f64 b_y]) rfl (by simp [prRow, px, py, pt, List.range_succ, cuP])⟩ (bl_alloc (bl_refl _) _ _) | exact hK.out _ _ ⟨_, rfl, by rw [World.cell?_alloc_new]; rfl, by rw [World.cell?_alloc_new]; rfl⟩ (bl_alloc (bl_refl _) _ _) | exact hK.out _ _ ⟨_, rfl, hgl, hS⟩ (bl_refl _) | exact hK.out _ _ ⟨_, rfl, hq0, hq1⟩ (bl_refl _) | exact hK.out _ _ rfl hb2 | exact hK.out _ _ rfl (bl_refl _) | exact hK.out _ _ rfl (by assumption) | exact hK.out _ _ (by assumption) (by assumption)
      · cases ho
        have e3 : s 3 = _ := hs 3 (by decide) (by kernel_rfl)
        have e4 : s 4 = _ := hs 4 (by decide) (by kernel_rfl)
        simp only [e3, e4] at hK ⊢
        simp only [Act.put, List.setIfInBounds_toArray, List.set_cons_zero, List.set_cons_succ] at hK
        clear hs
        go_simp
        all_goals (try go_wp2_with (first | (go_at_call 49; refine (rcut_d _ hp ha hb_ (by decide) hne).mono ?_; rintro e w' ⟨rfl, hb2⟩)))
        all_goals first | exact hK.out _ _ ⟨_, rfl, hb.size, sl_pts (L := [(cuP (nx, ny, fd) (ax, ay) (bx, b_y)), (bx, b_y)]) (cs := #[.float .f64 (cuX (nx, ny, fd) (ax, ay) (bx, b_y)), .float .f64 (cuY (nx, ny, fd) (ax, ay) (bx, b_y)), .float .f64 bx, .float .f64 b_y]) rfl (by simp [prRow, px, py, pt, List.range_succ, cuP])⟩ (bl_alloc (bl_refl _) _ _) | exact hK.out _ _ ⟨_, rfl, by rw [World.cell?_alloc_new]; rfl, by rw [World.cell?_alloc_new]; rfl⟩ (bl_alloc (bl_refl _) _ _) | exact hK.out _ _ ⟨_, rfl, hgl, hS⟩ (bl_refl _) | exact hK.out _ _ ⟨_, rfl, hq0, hq1⟩ (bl_refl _) | exact hK.out _ _ rfl hb2 | exact hK.out _ _ rfl (bl_refl _) | exact hK.out _ _ rfl (by assumption) | exact hK.out _ _ (by assumption) (by assumption)
      · cases ho
        simp only [Act.put, List.setIfInBounds_toArray, List.set_cons_zero, List.set_cons_succ] at hK
        clear hs
        go_simp
        all_goals (try go_wp2_with (first | (go_at_call 49; refine (rcut_d _ hp ha hb_ (by decide) hne).mono ?_; rintro e w' ⟨rfl, hb2⟩)))
        all_goals first | exact hK.out _ _ ⟨_, rfl, hb.size, sl_pts (L := [(cuP (nx, ny, fd) (ax, ay) (bx, b_y)), (bx, b_y)]) (cs := #[.float .f64 (cuX (nx, ny, fd) (ax, ay) (bx, b_y)), .float .f64 (cuY (nx, ny, fd) (ax, ay) (bx, b_y)), .float .f64 bx, .float .f64 b_y]) rfl (by simp [prRow, px, py, pt, List.range_succ, cuP])⟩ (bl_alloc (bl_refl _) _ _) | exact hK.out _ _ ⟨_, rfl, by rw [World.cell?_alloc_new]; rfl, by rw [World.cell?_alloc_new]; rfl⟩ (bl_alloc (bl_refl _) _ _) | exact hK.out _ _ ⟨_, rfl, hgl, hS⟩ (bl_refl _) | exact hK.out _ _ ⟨_, rfl, hq0, hq1⟩ (bl_refl _) | exact hK.out _ _ rfl hb2 | exact hK.out _ _ rfl (bl_refl _) | exact hK.out _ _ rfl (by assumption) | exact hK.out _ _ (by assumption) (by assumption)
      · cases ho
        obtain ⟨g, e5, hgl, hS⟩ := hs 5 (by decide) (by kernel_rfl)
        simp only [e5] at hK ⊢
        simp only [Act.put, List.setIfInBounds_toArray, List.set_cons_zero, List.set_cons_succ] at hK
        clear hs
        go_simp
        all_goals (try go_wp2_with (first | (go_at_call 49; refine (rcut_d _ hp ha hb_ (by decide) hne).mono ?_; rintro e w' ⟨rfl, hb2⟩)))
        all_goals first | exact hK.out _ _ ⟨_, rfl, hb.size, sl_pts (L := [(cuP (nx, ny, fd) (ax, ay) (bx, b_y)), (bx, b_y)]) (cs := #[.float .f64 (cuX (nx, ny, fd) (ax, ay) (bx, b_y)), .float .f64 (cuY (nx, ny, fd) (ax, ay) (bx, b_y)), .float .f64 bx, .float .f64 b_y]) rfl (by simp [prRow, px, py, pt, List.range_succ, cuP])⟩ (bl_alloc (bl_refl _) _ _) | exact hK.out _ _ ⟨_, rfl, by rw [World.cell?_alloc_new]; rfl, by rw [World.cell?_alloc_new]; rfl⟩ (bl_alloc (bl_refl _) _ _) | exact hK.out _ _ ⟨_, rfl, hgl, hS⟩ (bl_refl _) | exact hK.out _ _ ⟨_, rfl, hq0, hq1⟩ (bl_refl _) | exact hK.out _ _ rfl hb2 | exact hK.out _ _ rfl (bl_refl _) | exact hK.out _ _ rfl (by assumption) | exact hK.out _ _ (by assumption) (by assumption)
      · cases ho
        obtain ⟨q, e6, hq0, hq1⟩ := hs 6 (by decide) (by kernel_rfl)
        simp only [e6] at hK ⊢
        simp only [Act.put, List.setIfInBounds_toArray, List.set_cons_zero, List.set_cons_succ] at hK
        clear hs
        go_simp
        all_goals (try go_wp2_with (first | (go_at_call 49; refine (rcut_d _ hp ha hb_ (by decide) hne).mono ?_; rintro e w' ⟨rfl, hb2⟩)))
        all_goals first | exact hK.out _ _ ⟨_, rfl, hb.size, sl_pts (L := [(cuP (nx, ny, fd) (ax, ay) (bx, b_y)), (bx, b_y)]) (cs := #[.float .f64 (cuX (nx, ny, fd) (ax, ay) (bx, b_y)), .float .f64 (cuY (nx, ny, fd) (ax, ay) (bx, b_y)), .float .f64 bx, .float .f64 b_y]) rfl (by simp [prRow, px, py, pt, List.range_succ, cuP])⟩ (bl_alloc (bl_refl _) _ _) | exact hK.out _ _ ⟨_, rfl, by rw [World.cell?_alloc_new]; rfl, by rw [World.cell?_alloc_new]; rfl⟩ (bl_alloc (bl_refl _) _ _) | exact hK.out _ _ ⟨_, rfl, hgl, hS⟩ (bl_refl _) | exact hK.out _ _ ⟨_, rfl, hq0, hq1⟩ (bl_refl _) | exact hK.out _ _ rfl hb2 | exact hK.out _ _ rfl (bl_refl _) | exact hK.out _ _ rfl (by assumption) | exact hK.out _ _ (by assumption) (by assumption)
      · cases ho
        simp only [Act.put, List.setIfInBounds_toArray, List.set_cons_zero, List.set_cons_succ] at hK
        clear hs
        go_simp
        all_goals (try go_wp2_with (first | (go_at_call 49; refine (rcut_d _ hp ha hb_ (by decide) hne).mono ?_; rintro e w' ⟨rfl, hb2⟩)))
        all_goals first | exact hK.out _ _ ⟨_, rfl, hb.size, sl_pts (L := [(cuP (nx, ny, fd) (ax, ay) (bx, b_y)), (bx, b_y)]) (cs := #[.float .f64 (cuX (nx, ny, fd) (ax, ay) (bx, b_y)), .float .f64 (cuY (nx, ny, fd) (ax, ay) (bx, b_y)), .float .f64 bx, .float .f64 b_y]) rfl (by simp [prRow, px, py, pt, List.range_succ, cuP])⟩ (bl_alloc (bl_refl _) _ _) | exact hK.out _ _ ⟨_, rfl, by rw [World.cell?_alloc_new]; rfl, by rw [World.cell?_alloc_new]; rfl⟩ (bl_alloc (bl_refl _) _ _) | exact hK.out _ _ ⟨_, rfl, hgl, hS⟩ (bl_refl _) | exact hK.out _ _ ⟨_, rfl, hq0, hq1⟩ (bl_refl _) | exact hK.out _ _ rfl hb2 | exact hK.out _ _ rfl (bl_refl _) | exact hK.out _ _ rfl (by assumption) | exact hK.out _ _ (by assumption) (by assumption)
    case ht_wn =>
      intro s W2 hs hb3
      have e0 : s 0 = _ := hs 0 (by decide)
      have e1 : s 1 = _ := hs 1 (by decide)
      have e2 : s 2 = _ := hs 2 (by decide)
      have e3 : s 3 = _ := hs 3 (by decide)
      have e4 : s 4 = _ := hs 4 (by decide)
      obtain ⟨_, e5, _, _⟩ := hs 5 (by decide)
      obtain ⟨_, e6, _, _⟩ := hs 6 (by decide)
      obtain ⟨g7, e7, hgl7, hS7⟩ := hs 7 (by decide)
      obtain ⟨q8, e8, hq8, hq9⟩ := hs 8 (by decide)
      have e9 : s 9 = _ := hs 9 (by decide)
      simp only [e0, e1, e2, e3, e4, e5, e6, e7, e8, e9]
      clear hs e0 e1 e2 e3 e4 e5 e6 e7 e8 e9
      go_wp2
      refine bodyPost_ret (v := .tuple #[.slice (some ⟨g7, 0, none⟩) 2 2, .slice (some ⟨q8, 0, none⟩) 2 2, .int .i64 0]) (by simp [results, Try.results13, go_sem] <;> (first | exact ⟨⟨rfl, rfl⟩, rfl⟩ | exact ⟨rfl, rfl, rfl, rfl⟩ | exact ⟨rfl, rfl, rfl⟩ | exact ⟨rfl, rfl⟩ | rfl)) rfl ⟨_, _, rfl, Nat.le_trans B1.size hgl7, hS7, hq8, hq9, bl_trans B1 hb3⟩

end Go.Proofs.Ytmgoancijepeoaa
