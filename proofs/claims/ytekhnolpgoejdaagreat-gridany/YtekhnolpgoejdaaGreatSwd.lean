/-
  What each function of package sweep answers, and what the reference of its chapter answers: one contract a function, for every list of boxes; of the memory that was there nothing has turned.
-/
import Derived.Test.YtekhnolpgoejdaaGreatGl
import Derived.Test.YtekhnolpgoejdaaGreatSwa
import Derived.Test.YtekhnolpgoejdaaGreatSwq
import Derived.Test.YtekhnolpgoejdaaGreatLay
import Derived.Test.YtekhnolpgoejdaaGreatOnc5
import Derived.Below
import Derived.BigQuiet
import Derived.OwnWalk
import Derived.Laws.AppendOwn
import Derived.Laws.AppendOwnNone
import Derived.WalkKit
import Derived.WalkLawsBesides
import Derived.WalkSpells
import Derived.ProofKit
import Derived.OpenShut
import Derived.Deep.RegionHeld3
import Derived.Deep.LoopGhost
namespace Go.Proofs.YtekhnolpgoejdaaGreat
open Go.ChangeShapes Go.WideShapes Go.ChangeAt Go.RowKit Go.Shelf Go.Lib Go.Sort
set_option linter.unusedVariables false
set_option linter.unusedSimpArgs false


set_option maxRecDepth 100000 in
set_option maxHeartbeats 4000000 in
theorem rising1_s (x y : Nat × Nat) (w : World) : Calls Tryz.prog 77 #[.agg #[.int .i64 (x.1 : Int), .int .i64 (x.2 : Int)], .agg #[.int .i64 (y.1 : Int), .int .i64 (y.2 : Int)]] w fun e w' => e = .returned (.int .i64 (cP x y)) ∧ ∃ q os', w' = grow (w.drewN q) os' := by
  unfold cP
  generalize (x.1 : Int) = x1
  generalize (x.2 : Int) = x2
  generalize (y.1 : Int) = y1
  generalize (y.2 : Int) = y2
  obtain ⟨r1, h1⟩ : ∃ r, cI x1 y1 = r := ⟨_, rfl⟩
  obtain ⟨r2, h2⟩ : ∃ r, cI x2 y2 = r := ⟨_, rfl⟩
  have k1 : ∀ W, Calls Tryz.prog 31 #[.int .i64 x1, .int .i64 y1] W fun e w' => e = .returned (.int .i64 r1) ∧ w' = W := fun W => by rw [← h1]; exact compareI_s _ _ W
  have k2 : ∀ W, Calls Tryz.prog 31 #[.int .i64 x2, .int .i64 y2] W fun e w' => e = .returned (.int .i64 r2) ∧ w' = W := fun W => by rw [← h2]; exact compareI_s _ _ W
  rw [h1, h2]
  clear h1 h2
  obtain ⟨r, hr⟩ : ∃ r, (if r1 = 0 then r2 else r1) = r := ⟨_, rfl⟩
  have kO : ∀ g W, W.cell? ⟨g, 0, none⟩ = some (.int .i64 r1) → W.cell? ⟨g, 1, none⟩ = some (.int .i64 r2) → Calls Tryz.prog 30 #[.slice (some ⟨g, 0, none⟩) 2 2] W fun e w' => e = .returned (.int .i64 r) ∧ w' = W := fun g W q1 q2 => by rw [← hr]; exact or_s g r1 r2 W q1 q2
  rw [hr]
  clear hr
  obtain ⟨WA, hWA⟩ : ∃ WA, WA = w.alloc (.cells #[.int .i64 x1, .int .i64 x2] 32) := ⟨_, rfl⟩
  have a0 : WA.cell? ⟨w.heap.size, 0, none⟩ = some (.int .i64 x1) := by rw [hWA, World.cell?_alloc_new]; rfl
  have a1 : WA.cell? ⟨w.heap.size, 1, none⟩ = some (.int .i64 x2) := by rw [hWA, World.cell?_alloc_new]; rfl
  have hsA : WA.heap.size = w.heap.size + 1 := by rw [hWA]; exact World.size_alloc _ _
  have b0 : (WA.alloc (.cells #[.int .i64 y1, .int .i64 y2] 32)).cell? ⟨w.heap.size + 1, 0, none⟩ = some (.int .i64 y1) := by rw [← hsA, World.cell?_alloc_new]; rfl
  have b1 : (WA.alloc (.cells #[.int .i64 y1, .int .i64 y2] 32)).cell? ⟨w.heap.size + 1, 1, none⟩ = some (.int .i64 y2) := by rw [← hsA, World.cell?_alloc_new]; rfl
  replace a0 := keepB (bl_alloc (bl_refl WA) #[.int .i64 y1, .int .i64 y2] 32) a0
  replace a1 := keepB (bl_alloc (bl_refl WA) #[.int .i64 y1, .int .i64 y2] 32) a1
  rw [hWA] at a0 a1 b0 b1
  clear hWA hsA
  go_enter Tryz.func77, Tryz.ntmps77
  go_wp2
  refine wp_region_monoN 13 rfl (fun i W v => match i with | 0 => v = .pointer (some ⟨w.heap.size, 0, none⟩) | 1 => v = .int .i64 x1 | 2 => v = .pointer (some ⟨w.heap.size + 1, 0, none⟩) | 3 => v = .int .i64 y1 | 4 => v = .int .i64 r1 | 5 => v = .pointer (some ⟨w.heap.size, 1, none⟩) | 6 => v = .int .i64 x2 | 7 => v = .pointer (some ⟨w.heap.size + 1, 1, none⟩) | 8 => v = .int .i64 y2 | 9 => v = .int .i64 r2 | 10 => ∃ g, v = .slice (some ⟨g, 0, none⟩) 2 2 ∧ W.cell? ⟨g, 0, none⟩ = some (.int .i64 r1) ∧ W.cell? ⟨g, 1, none⟩ = some (.int .i64 r2) | 11 => v = .int .i64 r | 12 => v = .int .i64 r | _ => False) BelD bd_drew (fun _ _ _ => bd_trans) ?A_wz (by kernel_rfl) (by kernel_rfl) ?hA_wz ?hmo_wz ?hq_wz ?ht_wz
  case hA_wz =>
    intro s
    simp only [putL, dstO, Act.put, List.getElem?_toArray, List.getElem?_cons_zero, List.getElem?_cons_succ, Option.bind_some, List.setIfInBounds_toArray, List.set_cons_zero, List.set_cons_succ, if_true]
    all_goals exact rfl
  case hmo_wz =>
    intro i W W' v hi _ hb h
    rcases (show i = 0 ∨ i = 1 ∨ i = 2 ∨ i = 3 ∨ i = 4 ∨ i = 5 ∨ i = 6 ∨ i = 7 ∨ i = 8 ∨ i = 9 ∨ i = 10 ∨ i = 11 ∨ i = 12 by omega) with rfl | rfl | rfl | rfl | rfl | rfl | rfl | rfl | rfl | rfl | rfl | rfl | rfl
    all_goals first | exact h | (obtain ⟨g, e, c0, c1⟩ := h; exact ⟨g, e, keepB hb.1 c0, keepB hb.1 c1⟩)
  case hq_wz =>
    intro i o hi ho s W hs hb K hK
    have u0 := keepB hb.1 a0; have u1 := keepB hb.1 a1; have u2 := keepB hb.1 b0; have u3 := keepB hb.1 b1
    rcases (show i = 0 ∨ i = 1 ∨ i = 2 ∨ i = 3 ∨ i = 4 ∨ i = 5 ∨ i = 6 ∨ i = 7 ∨ i = 8 ∨ i = 9 ∨ i = 10 ∨ i = 11 ∨ i = 12 by omega) with rfl | rfl | rfl | rfl | rfl | rfl | rfl | rfl | rfl | rfl | rfl | rfl | rfl
    · cases ho
      simp only [Act.put, List.setIfInBounds_toArray, List.set_cons_zero, List.set_cons_succ] at hK
      clear hs
      go_simp
      all_goals (try go_wp2_with (first | (go_at_call 31; first | ((with_reducible refine (k1 _).mono ?_); rintro e w' ⟨rfl, hw⟩; rw [hw]) | ((with_reducible refine (k2 _).mono ?_); rintro e w' ⟨rfl, hw⟩; rw [hw])) | (go_at_call 30; (with_reducible refine (kO g _ c0 c1).mono ?_); rintro e w' ⟨rfl, hw⟩; rw [hw])))
      all_goals first | (refine hK.out _ _ ⟨_, rfl, ?_, ?_⟩ ⟨bl_alloc (bl_refl _) _ _, Nat.le_refl _⟩ <;> (rw [World.cell?_alloc_new]; rfl)) | with_reducible exact hK.out _ _ rfl bd_refl | exact hK.out _ _ rfl (by assumption) | exact hK.out _ _ (by assumption) (by assumption)
    · cases ho
      have e0 : s 0 = _ := hs 0 (by decide) (by kernel_rfl)
      simp only [e0] at hK ⊢
      simp only [Act.put, List.setIfInBounds_toArray, List.set_cons_zero, List.set_cons_succ] at hK
      clear hs
      go_simp
      all_goals (try go_wp2_with (first | (go_at_call 31; first | ((with_reducible refine (k1 _).mono ?_); rintro e w' ⟨rfl, hw⟩; rw [hw]) | ((with_reducible refine (k2 _).mono ?_); rintro e w' ⟨rfl, hw⟩; rw [hw])) | (go_at_call 30; (with_reducible refine (kO g _ c0 c1).mono ?_); rintro e w' ⟨rfl, hw⟩; rw [hw])))
      all_goals first | (refine hK.out _ _ ⟨_, rfl, ?_, ?_⟩ ⟨bl_alloc (bl_refl _) _ _, Nat.le_refl _⟩ <;> (rw [World.cell?_alloc_new]; rfl)) | with_reducible exact hK.out _ _ rfl bd_refl | exact hK.out _ _ rfl (by assumption) | exact hK.out _ _ (by assumption) (by assumption)
    · cases ho
      simp only [Act.put, List.setIfInBounds_toArray, List.set_cons_zero, List.set_cons_succ] at hK
      clear hs
      go_simp
      all_goals (try go_wp2_with (first | (go_at_call 31; first | ((with_reducible refine (k1 _).mono ?_); rintro e w' ⟨rfl, hw⟩; rw [hw]) | ((with_reducible refine (k2 _).mono ?_); rintro e w' ⟨rfl, hw⟩; rw [hw])) | (go_at_call 30; (with_reducible refine (kO g _ c0 c1).mono ?_); rintro e w' ⟨rfl, hw⟩; rw [hw])))
      all_goals first | (refine hK.out _ _ ⟨_, rfl, ?_, ?_⟩ ⟨bl_alloc (bl_refl _) _ _, Nat.le_refl _⟩ <;> (rw [World.cell?_alloc_new]; rfl)) | with_reducible exact hK.out _ _ rfl bd_refl | exact hK.out _ _ rfl (by assumption) | exact hK.out _ _ (by assumption) (by assumption)
    · cases ho
      have e2 : s 2 = _ := hs 2 (by decide) (by kernel_rfl)
      simp only [e2] at hK ⊢
      simp only [Act.put, List.setIfInBounds_toArray, List.set_cons_zero, List.set_cons_succ] at hK
      clear hs
      go_simp
      all_goals (try go_wp2_with (first | (go_at_call 31; first | ((with_reducible refine (k1 _).mono ?_); rintro e w' ⟨rfl, hw⟩; rw [hw]) | ((with_reducible refine (k2 _).mono ?_); rintro e w' ⟨rfl, hw⟩; rw [hw])) | (go_at_call 30; (with_reducible refine (kO g _ c0 c1).mono ?_); rintro e w' ⟨rfl, hw⟩; rw [hw])))
      all_goals first | (refine hK.out _ _ ⟨_, rfl, ?_, ?_⟩ ⟨bl_alloc (bl_refl _) _ _, Nat.le_refl _⟩ <;> (rw [World.cell?_alloc_new]; rfl)) | with_reducible exact hK.out _ _ rfl bd_refl | exact hK.out _ _ rfl (by assumption) | exact hK.out _ _ (by assumption) (by assumption)
    · cases ho
      have e1 : s 1 = _ := hs 1 (by decide) (by kernel_rfl)
      have e3 : s 3 = _ := hs 3 (by decide) (by kernel_rfl)
      simp only [e1, e3] at hK ⊢
      simp only [Act.put, List.setIfInBounds_toArray, List.set_cons_zero, List.set_cons_succ] at hK
      clear hs
      go_simp
      all_goals (try go_wp2_with (first | (go_at_call 31; first | ((with_reducible refine (k1 _).mono ?_); rintro e w' ⟨rfl, hw⟩; rw [hw]) | ((with_reducible refine (k2 _).mono ?_); rintro e w' ⟨rfl, hw⟩; rw [hw])) | (go_at_call 30; (with_reducible refine (kO g _ c0 c1).mono ?_); rintro e w' ⟨rfl, hw⟩; rw [hw])))
      all_goals first | (refine hK.out _ _ ⟨_, rfl, ?_, ?_⟩ ⟨bl_alloc (bl_refl _) _ _, Nat.le_refl _⟩ <;> (rw [World.cell?_alloc_new]; rfl)) | with_reducible exact hK.out _ _ rfl bd_refl | exact hK.out _ _ rfl (by assumption) | exact hK.out _ _ (by assumption) (by assumption)
    · cases ho
      simp only [Act.put, List.setIfInBounds_toArray, List.set_cons_zero, List.set_cons_succ] at hK
      clear hs
      go_simp
      all_goals (try go_wp2_with (first | (go_at_call 31; first | ((with_reducible refine (k1 _).mono ?_); rintro e w' ⟨rfl, hw⟩; rw [hw]) | ((with_reducible refine (k2 _).mono ?_); rintro e w' ⟨rfl, hw⟩; rw [hw])) | (go_at_call 30; (with_reducible refine (kO g _ c0 c1).mono ?_); rintro e w' ⟨rfl, hw⟩; rw [hw])))
      all_goals first | (refine hK.out _ _ ⟨_, rfl, ?_, ?_⟩ ⟨bl_alloc (bl_refl _) _ _, Nat.le_refl _⟩ <;> (rw [World.cell?_alloc_new]; rfl)) | with_reducible exact hK.out _ _ rfl bd_refl | exact hK.out _ _ rfl (by assumption) | exact hK.out _ _ (by assumption) (by assumption)
    · cases ho
      have e5 : s 5 = _ := hs 5 (by decide) (by kernel_rfl)
      simp only [e5] at hK ⊢
      simp only [Act.put, List.setIfInBounds_toArray, List.set_cons_zero, List.set_cons_succ] at hK
      clear hs
      go_simp
      all_goals (try go_wp2_with (first | (go_at_call 31; first | ((with_reducible refine (k1 _).mono ?_); rintro e w' ⟨rfl, hw⟩; rw [hw]) | ((with_reducible refine (k2 _).mono ?_); rintro e w' ⟨rfl, hw⟩; rw [hw])) | (go_at_call 30; (with_reducible refine (kO g _ c0 c1).mono ?_); rintro e w' ⟨rfl, hw⟩; rw [hw])))
      all_goals first | (refine hK.out _ _ ⟨_, rfl, ?_, ?_⟩ ⟨bl_alloc (bl_refl _) _ _, Nat.le_refl _⟩ <;> (rw [World.cell?_alloc_new]; rfl)) | with_reducible exact hK.out _ _ rfl bd_refl | exact hK.out _ _ rfl (by assumption) | exact hK.out _ _ (by assumption) (by assumption)
    · cases ho
      simp only [Act.put, List.setIfInBounds_toArray, List.set_cons_zero, List.set_cons_succ] at hK
      clear hs
      go_simp
      all_goals (try go_wp2_with (first | (go_at_call 31; first | ((with_reducible refine (k1 _).mono ?_); rintro e w' ⟨rfl, hw⟩; rw [hw]) | ((with_reducible refine (k2 _).mono ?_); rintro e w' ⟨rfl, hw⟩; rw [hw])) | (go_at_call 30; (with_reducible refine (kO g _ c0 c1).mono ?_); rintro e w' ⟨rfl, hw⟩; rw [hw])))
      all_goals first | (refine hK.out _ _ ⟨_, rfl, ?_, ?_⟩ ⟨bl_alloc (bl_refl _) _ _, Nat.le_refl _⟩ <;> (rw [World.cell?_alloc_new]; rfl)) | with_reducible exact hK.out _ _ rfl bd_refl | exact hK.out _ _ rfl (by assumption) | exact hK.out _ _ (by assumption) (by assumption)
    · cases ho
      have e7 : s 7 = _ := hs 7 (by decide) (by kernel_rfl)
      simp only [e7] at hK ⊢
      simp only [Act.put, List.setIfInBounds_toArray, List.set_cons_zero, List.set_cons_succ] at hK
      clear hs
      go_simp
      all_goals (try go_wp2_with (first | (go_at_call 31; first | ((with_reducible refine (k1 _).mono ?_); rintro e w' ⟨rfl, hw⟩; rw [hw]) | ((with_reducible refine (k2 _).mono ?_); rintro e w' ⟨rfl, hw⟩; rw [hw])) | (go_at_call 30; (with_reducible refine (kO g _ c0 c1).mono ?_); rintro e w' ⟨rfl, hw⟩; rw [hw])))
      all_goals first | (refine hK.out _ _ ⟨_, rfl, ?_, ?_⟩ ⟨bl_alloc (bl_refl _) _ _, Nat.le_refl _⟩ <;> (rw [World.cell?_alloc_new]; rfl)) | with_reducible exact hK.out _ _ rfl bd_refl | exact hK.out _ _ rfl (by assumption) | exact hK.out _ _ (by assumption) (by assumption)
    · cases ho
      have e6 : s 6 = _ := hs 6 (by decide) (by kernel_rfl)
      have e8 : s 8 = _ := hs 8 (by decide) (by kernel_rfl)
      simp only [e6, e8] at hK ⊢
      simp only [Act.put, List.setIfInBounds_toArray, List.set_cons_zero, List.set_cons_succ] at hK
      clear hs
      go_simp
      all_goals (try go_wp2_with (first | (go_at_call 31; first | ((with_reducible refine (k1 _).mono ?_); rintro e w' ⟨rfl, hw⟩; rw [hw]) | ((with_reducible refine (k2 _).mono ?_); rintro e w' ⟨rfl, hw⟩; rw [hw])) | (go_at_call 30; (with_reducible refine (kO g _ c0 c1).mono ?_); rintro e w' ⟨rfl, hw⟩; rw [hw])))
      all_goals first | (refine hK.out _ _ ⟨_, rfl, ?_, ?_⟩ ⟨bl_alloc (bl_refl _) _ _, Nat.le_refl _⟩ <;> (rw [World.cell?_alloc_new]; rfl)) | with_reducible exact hK.out _ _ rfl bd_refl | exact hK.out _ _ rfl (by assumption) | exact hK.out _ _ (by assumption) (by assumption)
    · cases ho
      have e4 : s 4 = _ := hs 4 (by decide) (by kernel_rfl)
      have e9 : s 9 = _ := hs 9 (by decide) (by kernel_rfl)
      simp only [e4, e9] at hK ⊢
      simp only [Act.put, List.setIfInBounds_toArray, List.set_cons_zero, List.set_cons_succ] at hK
      clear hs
      go_simp
      all_goals (try go_wp2_with (first | (go_at_call 31; first | ((with_reducible refine (k1 _).mono ?_); rintro e w' ⟨rfl, hw⟩; rw [hw]) | ((with_reducible refine (k2 _).mono ?_); rintro e w' ⟨rfl, hw⟩; rw [hw])) | (go_at_call 30; (with_reducible refine (kO g _ c0 c1).mono ?_); rintro e w' ⟨rfl, hw⟩; rw [hw])))
      all_goals first | (refine hK.out _ _ ⟨_, rfl, ?_, ?_⟩ ⟨bl_alloc (bl_refl _) _ _, Nat.le_refl _⟩ <;> (rw [World.cell?_alloc_new]; rfl)) | with_reducible exact hK.out _ _ rfl bd_refl | exact hK.out _ _ rfl (by assumption) | exact hK.out _ _ (by assumption) (by assumption)
    · cases ho
      obtain ⟨g, e10, c0, c1⟩ := hs 10 (by decide) (by kernel_rfl)
      simp only [e10] at hK ⊢
      simp only [Act.put, List.setIfInBounds_toArray, List.set_cons_zero, List.set_cons_succ] at hK
      clear hs
      go_simp
      all_goals (try go_wp2_with (first | (go_at_call 31; first | ((with_reducible refine (k1 _).mono ?_); rintro e w' ⟨rfl, hw⟩; rw [hw]) | ((with_reducible refine (k2 _).mono ?_); rintro e w' ⟨rfl, hw⟩; rw [hw])) | (go_at_call 30; (with_reducible refine (kO g _ c0 c1).mono ?_); rintro e w' ⟨rfl, hw⟩; rw [hw])))
      all_goals first | (refine hK.out _ _ ⟨_, rfl, ?_, ?_⟩ ⟨bl_alloc (bl_refl _) _ _, Nat.le_refl _⟩ <;> (rw [World.cell?_alloc_new]; rfl)) | with_reducible exact hK.out _ _ rfl bd_refl | exact hK.out _ _ rfl (by assumption) | exact hK.out _ _ (by assumption) (by assumption)
    · cases ho
      have e11 : s 11 = _ := hs 11 (by decide) (by kernel_rfl)
      simp only [e11] at hK ⊢
      simp only [Act.put, List.setIfInBounds_toArray, List.set_cons_zero, List.set_cons_succ] at hK
      clear hs
      go_simp
      all_goals (try go_wp2_with (first | (go_at_call 31; first | ((with_reducible refine (k1 _).mono ?_); rintro e w' ⟨rfl, hw⟩; rw [hw]) | ((with_reducible refine (k2 _).mono ?_); rintro e w' ⟨rfl, hw⟩; rw [hw])) | (go_at_call 30; (with_reducible refine (kO g _ c0 c1).mono ?_); rintro e w' ⟨rfl, hw⟩; rw [hw])))
      all_goals first | (refine hK.out _ _ ⟨_, rfl, ?_, ?_⟩ ⟨bl_alloc (bl_refl _) _ _, Nat.le_refl _⟩ <;> (rw [World.cell?_alloc_new]; rfl)) | with_reducible exact hK.out _ _ rfl bd_refl | exact hK.out _ _ rfl (by assumption) | exact hK.out _ _ (by assumption) (by assumption)
  case ht_wz =>
    intro s Wz hs hb
    have e0 : s 0 = _ := hs 0 (by decide)
    have e1 : s 1 = _ := hs 1 (by decide)
    have e2 : s 2 = _ := hs 2 (by decide)
    have e3 : s 3 = _ := hs 3 (by decide)
    have e4 : s 4 = _ := hs 4 (by decide)
    have e5 : s 5 = _ := hs 5 (by decide)
    have e6 : s 6 = _ := hs 6 (by decide)
    have e7 : s 7 = _ := hs 7 (by decide)
    have e8 : s 8 = _ := hs 8 (by decide)
    have e9 : s 9 = _ := hs 9 (by decide)
    obtain ⟨g, e10, c0, c1⟩ := hs 10 (by decide)
    have e11 : s 11 = _ := hs 11 (by decide)
    have e12 : s 12 = _ := hs 12 (by decide)
    simp only [e0, e1, e2, e3, e4, e5, e6, e7, e8, e9, e10, e11, e12]
    clear hs e0 e1 e2 e3 e4 e5 e6 e7 e8 e9 e10 e11 e12
    go_wp2
    go_ret
    exact ⟨rfl, grow_of (bw_trans (bl_alloc (bl_alloc (bl_refl w) _ _) _ _).1 hb.1.1) hb.2⟩

end Go.Proofs.YtekhnolpgoejdaaGreat
