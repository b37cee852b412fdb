/-
  What each function of package poly answers, and what the reference of its chapter answers: one contract a function, for every float: the answer stands in the relation of its formula to what was given; of the memory that was there nothing has turned.
-/
import Derived.Test.YthbdckjfekimdabVec
import Derived.Test.YthbdckjfekimdabNc
import Derived.Below
import Derived.WalkKit
import Derived.WalkLawsBesides
import Derived.WalkSpells
import Derived.ProofKit
import Derived.OpenShut
import Derived.Deep.RegionHeld3
namespace Go.Proofs.Ythbdckjfekimdab
open Go.ChangeShapes Go.WideShapes Go.ChangeAt Go.RowKit
set_option linter.unusedVariables false
set_option linter.unusedSimpArgs false


set_option maxRecDepth 100000 in
set_option maxHeartbeats 8000000 in
theorem segments_n {ax ay bx b_y cx cy dx dy : Nat} {A B C D : Vp} (w : World) (ha : isP ax ay A) (hb_ : isP bx b_y B) (hc_ : isP cx cy C) (hd_ : isP dx dy D) : Calls Try.prog 24 #[.agg #[.float .f64 ax, .float .f64 ay], .agg #[.float .f64 bx, .float .f64 b_y], .agg #[.float .f64 cx, .float .f64 cy], .agg #[.float .f64 dx, .float .f64 dy]] w fun e w' => ∃ nf9 na9 nb9 nc9 nd9, isN nf9 na9 nb9 nc9 nd9 (segF A B C D) ∧ e = .returned (.agg #[.float .f64 nf9, .float .f64 na9, .float .f64 nb9, .float .f64 nc9, .float .f64 nd9]) ∧ Bel w w' := by
  have z0_0 : (w.alloc (.cells #[.float .f64 ax, .float .f64 ay] 28)).cell? ⟨w.heap.size, 0, none⟩ = some (.float .f64 ax) := by rw [World.cell?_alloc_new]; rfl
  replace z0_0 := up_alloc (o := .cells #[.float .f64 bx, .float .f64 b_y] 28) z0_0
  replace z0_0 := up_alloc (o := .cells #[.float .f64 cx, .float .f64 cy] 28) z0_0
  replace z0_0 := up_alloc (o := .cells #[.float .f64 dx, .float .f64 dy] 28) z0_0
  replace z0_0 := up_alloc (o := .cells #[.float .f64 0, .float .f64 0, .float .f64 0, .float .f64 0, .float .f64 0] 30) z0_0
  have z0_1 : (w.alloc (.cells #[.float .f64 ax, .float .f64 ay] 28)).cell? ⟨w.heap.size, 1, none⟩ = some (.float .f64 ay) := by rw [World.cell?_alloc_new]; rfl
  replace z0_1 := up_alloc (o := .cells #[.float .f64 bx, .float .f64 b_y] 28) z0_1
  replace z0_1 := up_alloc (o := .cells #[.float .f64 cx, .float .f64 cy] 28) z0_1
  replace z0_1 := up_alloc (o := .cells #[.float .f64 dx, .float .f64 dy] 28) z0_1
  replace z0_1 := up_alloc (o := .cells #[.float .f64 0, .float .f64 0, .float .f64 0, .float .f64 0, .float .f64 0] 30) z0_1
  have z1_0 : ((w.alloc (.cells #[.float .f64 ax, .float .f64 ay] 28)).alloc (.cells #[.float .f64 bx, .float .f64 b_y] 28)).cell? ⟨w.heap.size + 1, 0, none⟩ = some (.float .f64 bx) := by rw [← (show (w.alloc (.cells #[.float .f64 ax, .float .f64 ay] 28)).heap.size = w.heap.size + 1 by simp only [World.size_alloc]), World.cell?_alloc_new]; rfl
  replace z1_0 := up_alloc (o := .cells #[.float .f64 cx, .float .f64 cy] 28) z1_0
  replace z1_0 := up_alloc (o := .cells #[.float .f64 dx, .float .f64 dy] 28) z1_0
  replace z1_0 := up_alloc (o := .cells #[.float .f64 0, .float .f64 0, .float .f64 0, .float .f64 0, .float .f64 0] 30) z1_0
  have z1_1 : ((w.alloc (.cells #[.float .f64 ax, .float .f64 ay] 28)).alloc (.cells #[.float .f64 bx, .float .f64 b_y] 28)).cell? ⟨w.heap.size + 1, 1, none⟩ = some (.float .f64 b_y) := by rw [← (show (w.alloc (.cells #[.float .f64 ax, .float .f64 ay] 28)).heap.size = w.heap.size + 1 by simp only [World.size_alloc]), World.cell?_alloc_new]; rfl
  replace z1_1 := up_alloc (o := .cells #[.float .f64 cx, .float .f64 cy] 28) z1_1
  replace z1_1 := up_alloc (o := .cells #[.float .f64 dx, .float .f64 dy] 28) z1_1
  replace z1_1 := up_alloc (o := .cells #[.float .f64 0, .float .f64 0, .float .f64 0, .float .f64 0, .float .f64 0] 30) z1_1
  have z2_0 : (((w.alloc (.cells #[.float .f64 ax, .float .f64 ay] 28)).alloc (.cells #[.float .f64 bx, .float .f64 b_y] 28)).alloc (.cells #[.float .f64 cx, .float .f64 cy] 28)).cell? ⟨w.heap.size + 1 + 1, 0, none⟩ = some (.float .f64 cx) := by rw [← (show ((w.alloc (.cells #[.float .f64 ax, .float .f64 ay] 28)).alloc (.cells #[.float .f64 bx, .float .f64 b_y] 28)).heap.size = w.heap.size + 1 + 1 by simp only [World.size_alloc]), World.cell?_alloc_new]; rfl
  replace z2_0 := up_alloc (o := .cells #[.float .f64 dx, .float .f64 dy] 28) z2_0
  replace z2_0 := up_alloc (o := .cells #[.float .f64 0, .float .f64 0, .float .f64 0, .float .f64 0, .float .f64 0] 30) z2_0
  have z2_1 : (((w.alloc (.cells #[.float .f64 ax, .float .f64 ay] 28)).alloc (.cells #[.float .f64 bx, .float .f64 b_y] 28)).alloc (.cells #[.float .f64 cx, .float .f64 cy] 28)).cell? ⟨w.heap.size + 1 + 1, 1, none⟩ = some (.float .f64 cy) := by rw [← (show ((w.alloc (.cells #[.float .f64 ax, .float .f64 ay] 28)).alloc (.cells #[.float .f64 bx, .float .f64 b_y] 28)).heap.size = w.heap.size + 1 + 1 by simp only [World.size_alloc]), World.cell?_alloc_new]; rfl
  replace z2_1 := up_alloc (o := .cells #[.float .f64 dx, .float .f64 dy] 28) z2_1
  replace z2_1 := up_alloc (o := .cells #[.float .f64 0, .float .f64 0, .float .f64 0, .float .f64 0, .float .f64 0] 30) z2_1
  have z3_0 : ((((w.alloc (.cells #[.float .f64 ax, .float .f64 ay] 28)).alloc (.cells #[.float .f64 bx, .float .f64 b_y] 28)).alloc (.cells #[.float .f64 cx, .float .f64 cy] 28)).alloc (.cells #[.float .f64 dx, .float .f64 dy] 28)).cell? ⟨w.heap.size + 1 + 1 + 1, 0, none⟩ = some (.float .f64 dx) := by rw [← (show (((w.alloc (.cells #[.float .f64 ax, .float .f64 ay] 28)).alloc (.cells #[.float .f64 bx, .float .f64 b_y] 28)).alloc (.cells #[.float .f64 cx, .float .f64 cy] 28)).heap.size = w.heap.size + 1 + 1 + 1 by simp only [World.size_alloc]), World.cell?_alloc_new]; rfl
  replace z3_0 := up_alloc (o := .cells #[.float .f64 0, .float .f64 0, .float .f64 0, .float .f64 0, .float .f64 0] 30) z3_0
  have z3_1 : ((((w.alloc (.cells #[.float .f64 ax, .float .f64 ay] 28)).alloc (.cells #[.float .f64 bx, .float .f64 b_y] 28)).alloc (.cells #[.float .f64 cx, .float .f64 cy] 28)).alloc (.cells #[.float .f64 dx, .float .f64 dy] 28)).cell? ⟨w.heap.size + 1 + 1 + 1, 1, none⟩ = some (.float .f64 dy) := by rw [← (show (((w.alloc (.cells #[.float .f64 ax, .float .f64 ay] 28)).alloc (.cells #[.float .f64 bx, .float .f64 b_y] 28)).alloc (.cells #[.float .f64 cx, .float .f64 cy] 28)).heap.size = w.heap.size + 1 + 1 + 1 by simp only [World.size_alloc]), World.cell?_alloc_new]; rfl
  replace z3_1 := up_alloc (o := .cells #[.float .f64 0, .float .f64 0, .float .f64 0, .float .f64 0, .float .f64 0] 30) z3_1
  have z4_0 : (((((w.alloc (.cells #[.float .f64 ax, .float .f64 ay] 28)).alloc (.cells #[.float .f64 bx, .float .f64 b_y] 28)).alloc (.cells #[.float .f64 cx, .float .f64 cy] 28)).alloc (.cells #[.float .f64 dx, .float .f64 dy] 28)).alloc (.cells #[.float .f64 0, .float .f64 0, .float .f64 0, .float .f64 0, .float .f64 0] 30)).cell? ⟨w.heap.size + 1 + 1 + 1 + 1, 0, none⟩ = some (.float .f64 0) := by rw [← (show ((((w.alloc (.cells #[.float .f64 ax, .float .f64 ay] 28)).alloc (.cells #[.float .f64 bx, .float .f64 b_y] 28)).alloc (.cells #[.float .f64 cx, .float .f64 cy] 28)).alloc (.cells #[.float .f64 dx, .float .f64 dy] 28)).heap.size = w.heap.size + 1 + 1 + 1 + 1 by simp only [World.size_alloc]), World.cell?_alloc_new]; rfl
  have z4_1 : (((((w.alloc (.cells #[.float .f64 ax, .float .f64 ay] 28)).alloc (.cells #[.float .f64 bx, .float .f64 b_y] 28)).alloc (.cells #[.float .f64 cx, .float .f64 cy] 28)).alloc (.cells #[.float .f64 dx, .float .f64 dy] 28)).alloc (.cells #[.float .f64 0, .float .f64 0, .float .f64 0, .float .f64 0, .float .f64 0] 30)).cell? ⟨w.heap.size + 1 + 1 + 1 + 1, 1, none⟩ = some (.float .f64 0) := by rw [← (show ((((w.alloc (.cells #[.float .f64 ax, .float .f64 ay] 28)).alloc (.cells #[.float .f64 bx, .float .f64 b_y] 28)).alloc (.cells #[.float .f64 cx, .float .f64 cy] 28)).alloc (.cells #[.float .f64 dx, .float .f64 dy] 28)).heap.size = w.heap.size + 1 + 1 + 1 + 1 by simp only [World.size_alloc]), World.cell?_alloc_new]; rfl
  have z4_2 : (((((w.alloc (.cells #[.float .f64 ax, .float .f64 ay] 28)).alloc (.cells #[.float .f64 bx, .float .f64 b_y] 28)).alloc (.cells #[.float .f64 cx, .float .f64 cy] 28)).alloc (.cells #[.float .f64 dx, .float .f64 dy] 28)).alloc (.cells #[.float .f64 0, .float .f64 0, .float .f64 0, .float .f64 0, .float .f64 0] 30)).cell? ⟨w.heap.size + 1 + 1 + 1 + 1, 2, none⟩ = some (.float .f64 0) := by rw [← (show ((((w.alloc (.cells #[.float .f64 ax, .float .f64 ay] 28)).alloc (.cells #[.float .f64 bx, .float .f64 b_y] 28)).alloc (.cells #[.float .f64 cx, .float .f64 cy] 28)).alloc (.cells #[.float .f64 dx, .float .f64 dy] 28)).heap.size = w.heap.size + 1 + 1 + 1 + 1 by simp only [World.size_alloc]), World.cell?_alloc_new]; rfl
  have z4_3 : (((((w.alloc (.cells #[.float .f64 ax, .float .f64 ay] 28)).alloc (.cells #[.float .f64 bx, .float .f64 b_y] 28)).alloc (.cells #[.float .f64 cx, .float .f64 cy] 28)).alloc (.cells #[.float .f64 dx, .float .f64 dy] 28)).alloc (.cells #[.float .f64 0, .float .f64 0, .float .f64 0, .float .f64 0, .float .f64 0] 30)).cell? ⟨w.heap.size + 1 + 1 + 1 + 1, 3, none⟩ = some (.float .f64 0) := by rw [← (show ((((w.alloc (.cells #[.float .f64 ax, .float .f64 ay] 28)).alloc (.cells #[.float .f64 bx, .float .f64 b_y] 28)).alloc (.cells #[.float .f64 cx, .float .f64 cy] 28)).alloc (.cells #[.float .f64 dx, .float .f64 dy] 28)).heap.size = w.heap.size + 1 + 1 + 1 + 1 by simp only [World.size_alloc]), World.cell?_alloc_new]; rfl
  have z4_4 : (((((w.alloc (.cells #[.float .f64 ax, .float .f64 ay] 28)).alloc (.cells #[.float .f64 bx, .float .f64 b_y] 28)).alloc (.cells #[.float .f64 cx, .float .f64 cy] 28)).alloc (.cells #[.float .f64 dx, .float .f64 dy] 28)).alloc (.cells #[.float .f64 0, .float .f64 0, .float .f64 0, .float .f64 0, .float .f64 0] 30)).cell? ⟨w.heap.size + 1 + 1 + 1 + 1, 4, none⟩ = some (.float .f64 0) := by rw [← (show ((((w.alloc (.cells #[.float .f64 ax, .float .f64 ay] 28)).alloc (.cells #[.float .f64 bx, .float .f64 b_y] 28)).alloc (.cells #[.float .f64 cx, .float .f64 cy] 28)).alloc (.cells #[.float .f64 dx, .float .f64 dy] 28)).heap.size = w.heap.size + 1 + 1 + 1 + 1 by simp only [World.size_alloc]), World.cell?_alloc_new]; rfl
  have B0 : Bel w (((((w.alloc (.cells #[.float .f64 ax, .float .f64 ay] 28)).alloc (.cells #[.float .f64 bx, .float .f64 b_y] 28)).alloc (.cells #[.float .f64 cx, .float .f64 cy] 28)).alloc (.cells #[.float .f64 dx, .float .f64 dy] 28)).alloc (.cells #[.float .f64 0, .float .f64 0, .float .f64 0, .float .f64 0, .float .f64 0] 30)) := bl_alloc (bl_alloc (bl_alloc (bl_alloc (bl_alloc (bl_refl w) _ _) _ _) _ _) _ _) _ _
  have fR : ∀ o, (((((w.alloc (.cells #[.float .f64 ax, .float .f64 ay] 28)).alloc (.cells #[.float .f64 bx, .float .f64 b_y] 28)).alloc (.cells #[.float .f64 cx, .float .f64 cy] 28)).alloc (.cells #[.float .f64 dx, .float .f64 dy] 28)).alloc (.cells #[.float .f64 0, .float .f64 0, .float .f64 0, .float .f64 0, .float .f64 0] 30)).frozen? ⟨w.heap.size + 1 + 1 + 1 + 1, o, none⟩ = false := fun o => ((show Bel ((((w.alloc (.cells #[.float .f64 ax, .float .f64 ay] 28)).alloc (.cells #[.float .f64 bx, .float .f64 b_y] 28)).alloc (.cells #[.float .f64 cx, .float .f64 cy] 28)).alloc (.cells #[.float .f64 dx, .float .f64 dy] 28)) (((((w.alloc (.cells #[.float .f64 ax, .float .f64 ay] 28)).alloc (.cells #[.float .f64 bx, .float .f64 b_y] 28)).alloc (.cells #[.float .f64 cx, .float .f64 cy] 28)).alloc (.cells #[.float .f64 dx, .float .f64 dy] 28)).alloc (.cells #[.float .f64 0, .float .f64 0, .float .f64 0, .float .f64 0, .float .f64 0] 30)) by repeat (first | exact bl_refl _ | apply bl_alloc)).2 _).trans (fresh_frozen (by simp only [World.size_alloc]; exact Nat.le_refl _))
  go_enter Try.func24, Try.ntmps24
  go_wp2
  refine wp_region_new 10 rfl (fun i v => match i with | 0 => v = .agg #[.float .f64 bx, .float .f64 b_y] | 1 => v = .agg #[.float .f64 ax, .float .f64 ay] | 2 => ∃ x y, isP x y (suF B A) ∧ v = .agg #[.float .f64 x, .float .f64 y] | 3 => v = .agg #[.float .f64 dx, .float .f64 dy] | 4 => v = .agg #[.float .f64 cx, .float .f64 cy] | 5 => ∃ x y, isP x y (suF D C) ∧ v = .agg #[.float .f64 x, .float .f64 y] | _ => False) [(6, #[.float .f64 0, .float .f64 0], 28), (7, #[.float .f64 0, .float .f64 0], 28)] [(8, 6, 2), (9, 7, 5)] ?A_wn (by kernel_rfl) (by kernel_rfl) ?hA_wn ?ha_wn ?hst_wn ?hq_wn ?ht_wn
  case hA_wn =>
    intro s
    simp only [putL, dstO, Act.put, List.getElem?_toArray, List.getElem?_cons_zero, List.getElem?_cons_succ, Option.bind_some, List.setIfInBounds_toArray, List.set_cons_zero, List.set_cons_succ, if_true]
    all_goals exact rfl
  case ha_wn =>
    intro i o c ty hi ho hal B W K hK
    rcases (show i = 0 ∨ i = 1 ∨ i = 2 ∨ i = 3 ∨ i = 4 ∨ i = 5 ∨ i = 6 ∨ i = 7 ∨ i = 8 ∨ i = 9 by omega) with rfl | rfl | rfl | rfl | rfl | rfl | rfl | rfl | rfl | rfl
    · cases (show none = some (c, ty) from hal)
    · cases (show none = some (c, ty) from hal)
    · cases (show none = some (c, ty) from hal)
    · cases (show none = some (c, ty) from hal)
    · cases (show none = some (c, ty) from hal)
    · cases (show none = some (c, ty) from hal)
    · cases ho; cases (show some (#[.float .f64 0, .float .f64 0], 28) = some (c, ty) from hal); go_simp; exact hK.out
    · cases ho; cases (show some (#[.float .f64 0, .float .f64 0], 28) = some (c, ty) from hal); go_simp; exact hK.out
    · cases (show none = some (c, ty) from hal)
    · cases (show none = some (c, ty) from hal)
  case hst_wn =>
    intro t o a d c ty hlt ho hts hal s hs W b eb hc hf K hK
    rcases (show t = 0 ∨ t = 1 ∨ t = 2 ∨ t = 3 ∨ t = 4 ∨ t = 5 ∨ t = 6 ∨ t = 7 ∨ t = 8 ∨ t = 9 by omega) with rfl | rfl | rfl | rfl | rfl | rfl | rfl | rfl | rfl | rfl
    · cases (show none = some (a, d) from hts)
    · cases (show none = some (a, d) from hts)
    · cases (show none = some (a, d) from hts)
    · cases (show none = some (a, d) from hts)
    · cases (show none = some (a, d) from hts)
    · cases (show none = some (a, d) from hts)
    · cases (show none = some (a, d) from hts)
    · cases (show none = some (a, d) from hts)
    · cases ho; cases (show some (6, 2) = some (a, d) from hts); cases (show some (#[.float .f64 0, .float .f64 0], 28) = some (c, ty) from hal)
      obtain ⟨ex, ey, he, e2⟩ := hs 2 (by decide) rfl rfl (by kernel_rfl)
      obtain ⟨u0, hu0⟩ := Option.isSome_iff_exists.1 (hc 0 (by decide))
      obtain ⟨u1, hu1⟩ := Option.isSome_iff_exists.1 (hc 1 (by decide))
      simp only [eb, e2] at hK ⊢
      clear hs
      go_simp
      exact hK.out
    · cases ho; cases (show some (7, 5) = some (a, d) from hts); cases (show some (#[.float .f64 0, .float .f64 0], 28) = some (c, ty) from hal)
      obtain ⟨fx, fy, hf, e5⟩ := hs 5 (by decide) rfl rfl (by kernel_rfl)
      obtain ⟨u0, hu0⟩ := Option.isSome_iff_exists.1 (hc 0 (by decide))
      obtain ⟨u1, hu1⟩ := Option.isSome_iff_exists.1 (hc 1 (by decide))
      simp only [eb, e5] at hK ⊢
      clear hs
      go_simp
      exact hK.out
  case hq_wn =>
    intro i o hi hal hts ho s hs W hb K hK
    have uz0_0 := keep hb z0_0; have uz0_1 := keep hb z0_1; have uz1_0 := keep hb z1_0; have uz1_1 := keep hb z1_1; have uz2_0 := keep hb z2_0; have uz2_1 := keep hb z2_1; have uz3_0 := keep hb z3_0; have uz3_1 := keep hb z3_1; have uz4_0 := keep hb z4_0; have uz4_1 := keep hb z4_1; have uz4_2 := keep hb z4_2; have uz4_3 := keep hb z4_3; have uz4_4 := keep hb z4_4
    rcases (show i = 0 ∨ i = 1 ∨ i = 2 ∨ i = 3 ∨ i = 4 ∨ i = 5 ∨ i = 6 ∨ i = 7 ∨ i = 8 ∨ i = 9 by omega) with rfl | rfl | rfl | rfl | rfl | rfl | rfl | rfl | rfl | rfl
    · cases ho
      simp only [Act.put, List.setIfInBounds_toArray, List.set_cons_zero, List.set_cons_succ] at hK
      clear hs hal hts
      go_simp
      all_goals (try go_wp2_with (first | (go_at_call 12; with_reducible refine (vSub_n _ hb_ ha).mono ?_; rintro e w' ⟨x, y, h2, rfl, hb1⟩) | (go_at_call 12; with_reducible refine (vSub_n _ hd_ hc_).mono ?_; rintro e w' ⟨x, y, h2, rfl, hb1⟩)))
      all_goals first | exact hK.out _ _ ⟨_, _, h2, rfl⟩ hb1 | exact hK.out _ _ rfl (bl_refl _) | exact hK.out _ _ rfl (by assumption) | exact hK.out _ _ (by assumption) (by assumption)
    · cases ho
      simp only [Act.put, List.setIfInBounds_toArray, List.set_cons_zero, List.set_cons_succ] at hK
      clear hs hal hts
      go_simp
      all_goals (try go_wp2_with (first | (go_at_call 12; with_reducible refine (vSub_n _ hb_ ha).mono ?_; rintro e w' ⟨x, y, h2, rfl, hb1⟩) | (go_at_call 12; with_reducible refine (vSub_n _ hd_ hc_).mono ?_; rintro e w' ⟨x, y, h2, rfl, hb1⟩)))
      all_goals first | exact hK.out _ _ ⟨_, _, h2, rfl⟩ hb1 | exact hK.out _ _ rfl (bl_refl _) | exact hK.out _ _ rfl (by assumption) | exact hK.out _ _ (by assumption) (by assumption)
    · cases ho
      have e0 : s 0 = _ := hs 0 (by decide) rfl rfl (by kernel_rfl)
      have e1 : s 1 = _ := hs 1 (by decide) rfl rfl (by kernel_rfl)
      simp only [e0, e1] at hK ⊢
      simp only [Act.put, List.setIfInBounds_toArray, List.set_cons_zero, List.set_cons_succ] at hK
      clear hs hal hts
      go_simp
      all_goals (try go_wp2_with (first | (go_at_call 12; with_reducible refine (vSub_n _ hb_ ha).mono ?_; rintro e w' ⟨x, y, h2, rfl, hb1⟩) | (go_at_call 12; with_reducible refine (vSub_n _ hd_ hc_).mono ?_; rintro e w' ⟨x, y, h2, rfl, hb1⟩)))
      all_goals first | exact hK.out _ _ ⟨_, _, h2, rfl⟩ hb1 | exact hK.out _ _ rfl (bl_refl _) | exact hK.out _ _ rfl (by assumption) | exact hK.out _ _ (by assumption) (by assumption)
    · cases ho
      simp only [Act.put, List.setIfInBounds_toArray, List.set_cons_zero, List.set_cons_succ] at hK
      clear hs hal hts
      go_simp
      all_goals (try go_wp2_with (first | (go_at_call 12; with_reducible refine (vSub_n _ hb_ ha).mono ?_; rintro e w' ⟨x, y, h2, rfl, hb1⟩) | (go_at_call 12; with_reducible refine (vSub_n _ hd_ hc_).mono ?_; rintro e w' ⟨x, y, h2, rfl, hb1⟩)))
      all_goals first | exact hK.out _ _ ⟨_, _, h2, rfl⟩ hb1 | exact hK.out _ _ rfl (bl_refl _) | exact hK.out _ _ rfl (by assumption) | exact hK.out _ _ (by assumption) (by assumption)
    · cases ho
      simp only [Act.put, List.setIfInBounds_toArray, List.set_cons_zero, List.set_cons_succ] at hK
      clear hs hal hts
      go_simp
      all_goals (try go_wp2_with (first | (go_at_call 12; with_reducible refine (vSub_n _ hb_ ha).mono ?_; rintro e w' ⟨x, y, h2, rfl, hb1⟩) | (go_at_call 12; with_reducible refine (vSub_n _ hd_ hc_).mono ?_; rintro e w' ⟨x, y, h2, rfl, hb1⟩)))
      all_goals first | exact hK.out _ _ ⟨_, _, h2, rfl⟩ hb1 | exact hK.out _ _ rfl (bl_refl _) | exact hK.out _ _ rfl (by assumption) | exact hK.out _ _ (by assumption) (by assumption)
    · cases ho
      have e3 : s 3 = _ := hs 3 (by decide) rfl rfl (by kernel_rfl)
      have e4 : s 4 = _ := hs 4 (by decide) rfl rfl (by kernel_rfl)
      simp only [e3, e4] at hK ⊢
      simp only [Act.put, List.setIfInBounds_toArray, List.set_cons_zero, List.set_cons_succ] at hK
      clear hs hal hts
      go_simp
      all_goals (try go_wp2_with (first | (go_at_call 12; with_reducible refine (vSub_n _ hb_ ha).mono ?_; rintro e w' ⟨x, y, h2, rfl, hb1⟩) | (go_at_call 12; with_reducible refine (vSub_n _ hd_ hc_).mono ?_; rintro e w' ⟨x, y, h2, rfl, hb1⟩)))
      all_goals first | exact hK.out _ _ ⟨_, _, h2, rfl⟩ hb1 | exact hK.out _ _ rfl (bl_refl _) | exact hK.out _ _ rfl (by assumption) | exact hK.out _ _ (by assumption) (by assumption)
    · cases (show some _ = none from hal)
    · cases (show some _ = none from hal)
    · cases (show some _ = none from hts)
    · cases (show some _ = none from hts)
  case ht_wn =>
    intro s hs W hb hJ
    have e0 : s 0 = _ := hs 0 (by decide) rfl rfl
    have e1 : s 1 = _ := hs 1 (by decide) rfl rfl
    obtain ⟨ex, ey, he, e2⟩ := hs 2 (by decide) rfl rfl
    have e3 : s 3 = _ := hs 3 (by decide) rfl rfl
    have e4 : s 4 = _ := hs 4 (by decide) rfl rfl
    obtain ⟨fx, fy, hf, e5⟩ := hs 5 (by decide) rfl rfl
    obtain ⟨p6, e6, n6, l6, cl6⟩ := hJ.1 6 _ _ (by decide) rfl rfl
    have k_p6_0 : W.cell? ⟨p6, 0, none⟩ = some (cellAt (s 2) 0) := cl6 0 (by decide)
    have k_p6_1 : W.cell? ⟨p6, 1, none⟩ = some (cellAt (s 2) 1) := cl6 1 (by decide)
    rw [e2] at k_p6_0 k_p6_1
    simp only [cellAt] at k_p6_0 k_p6_1
    obtain ⟨p7, e7, n7, l7, cl7⟩ := hJ.1 7 _ _ (by decide) rfl rfl
    have k_p7_0 : W.cell? ⟨p7, 0, none⟩ = some (cellAt (s 5) 0) := cl7 0 (by decide)
    have k_p7_1 : W.cell? ⟨p7, 1, none⟩ = some (cellAt (s 5) 1) := cl7 1 (by decide)
    rw [e5] at k_p7_0 k_p7_1
    simp only [cellAt] at k_p7_0 k_p7_1
    have ne67 : p6 ≠ p7 := fun h => hJ.2 6 7 (by decide) (by decide) (by decide) rfl rfl rfl rfl (by rw [e6, e7, h])
    simp only [e0, e1, e2, e3, e4, e5, e6, e7]
    clear hs hJ e0 e1 e2 e3 e4 e5 e6 e7 cl6 cl7
    replace z0_0 := keep hb z0_0; replace z0_1 := keep hb z0_1; replace z1_0 := keep hb z1_0; replace z1_1 := keep hb z1_1; replace z2_0 := keep hb z2_0; replace z2_1 := keep hb z2_1; replace z3_0 := keep hb z3_0; replace z3_1 := keep hb z3_1; replace z4_0 := keep hb z4_0; replace z4_1 := keep hb z4_1; replace z4_2 := keep hb z4_2; replace z4_3 := keep hb z4_3; replace z4_4 := keep hb z4_4
    have BF := hb
    clear hb
    go_wp2
    refine wp_region_mono 12 rfl (fun i W v => match i with | 0 => v = .agg #[.float .f64 ex, .float .f64 ey] | 1 => v = .agg #[.float .f64 cx, .float .f64 cy] | 2 => v = .agg #[.float .f64 ax, .float .f64 ay] | 3 => ∃ x y, isP x y (suF C A) ∧ v = .agg #[.float .f64 x, .float .f64 y] | 4 => ∃ r, isF r (crF (suF B A) (suF C A)) ∧ v = .float .f64 r | 5 => v = .agg #[.float .f64 ex, .float .f64 ey] | 6 => v = .agg #[.float .f64 dx, .float .f64 dy] | 7 => v = .agg #[.float .f64 ax, .float .f64 ay] | 8 => ∃ x y, isP x y (suF D A) ∧ v = .agg #[.float .f64 x, .float .f64 y] | 9 => ∃ r, isF r (crF (suF B A) (suF D A)) ∧ v = .float .f64 r | 10 => ∃ r, isF r (crF (suF B A) (suF C A)) ∧ v = .float .f64 r | 11 => ∃ r, isF r (crF (suF B A) (suF D A)) ∧ v = .float .f64 r | _ => False) ?A_wm (by kernel_rfl) (by kernel_rfl) ?hA_wm ?hmo_wm ?hq_wm ?ht_wm
    case hA_wm =>
      intro s
      simp only [putL, dstO, Act.put, List.getElem?_toArray, List.getElem?_cons_zero, List.getElem?_cons_succ, Option.bind_some, List.setIfInBounds_toArray, List.set_cons_zero, List.set_cons_succ, if_true]
      all_goals exact rfl
    case hmo_wm =>
      intro i W W' v hi hb h
      rcases (show i = 0 ∨ i = 1 ∨ i = 2 ∨ i = 3 ∨ i = 4 ∨ i = 5 ∨ i = 6 ∨ i = 7 ∨ i = 8 ∨ i = 9 ∨ i = 10 ∨ i = 11 by omega) with rfl | rfl | rfl | rfl | rfl | rfl | rfl | rfl | rfl | rfl | rfl | rfl
      all_goals first | exact h
    case hq_wm =>
      intro i o hi ho s W hs hb K hK
      have uz0_0 := keep hb z0_0; have uz0_1 := keep hb z0_1; have uz1_0 := keep hb z1_0; have uz1_1 := keep hb z1_1; have uz2_0 := keep hb z2_0; have uz2_1 := keep hb z2_1; have uz3_0 := keep hb z3_0; have uz3_1 := keep hb z3_1; have uz4_0 := keep hb z4_0; have uz4_1 := keep hb z4_1; have uz4_2 := keep hb z4_2; have uz4_3 := keep hb z4_3; have uz4_4 := keep hb z4_4; have uk_p6_0 := keep hb k_p6_0; have uk_p6_1 := keep hb k_p6_1; have uk_p7_0 := keep hb k_p7_0; have uk_p7_1 := keep hb k_p7_1
      rcases (show i = 0 ∨ i = 1 ∨ i = 2 ∨ i = 3 ∨ i = 4 ∨ i = 5 ∨ i = 6 ∨ i = 7 ∨ i = 8 ∨ i = 9 ∨ i = 10 ∨ i = 11 by omega) with rfl | rfl | rfl | rfl | rfl | rfl | rfl | rfl | rfl | rfl | rfl | rfl
      · cases ho
        simp only [Act.put, List.setIfInBounds_toArray, List.set_cons_zero, List.set_cons_succ] at hK
        clear hs
        go_simp
        all_goals (try go_wp2_with (first | (go_at_call 12; with_reducible refine (vSub_n _ hc_ ha).mono ?_; rintro e w' ⟨x, y, h3, rfl, hb1⟩) | (go_at_call 12; with_reducible refine (vSub_n _ hd_ ha).mono ?_; rintro e w' ⟨x, y, h8, rfl, hb1⟩) | (go_at_call 45; with_reducible refine (vCross_n _ he h3).mono ?_; rintro e w' ⟨r, h4, rfl, hb1⟩) | (go_at_call 45; with_reducible refine (vCross_n _ he h8).mono ?_; rintro e w' ⟨r, h9, rfl, hb1⟩)))
        all_goals first | exact hK.out _ _ ⟨_, _, h3, rfl⟩ hb1 | exact hK.out _ _ ⟨_, _, h8, rfl⟩ hb1 | exact hK.out _ _ ⟨_, h4, rfl⟩ hb1 | exact hK.out _ _ ⟨_, h9, rfl⟩ hb1 | exact hK.out _ _ ⟨_, h4, rfl⟩ (bl_refl _) | exact hK.out _ _ ⟨_, h9, rfl⟩ (bl_refl _) | exact hK.out _ _ rfl (bl_refl _) | exact hK.out _ _ rfl (by assumption) | exact hK.out _ _ (by assumption) (by assumption)
      · cases ho
        simp only [Act.put, List.setIfInBounds_toArray, List.set_cons_zero, List.set_cons_succ] at hK
        clear hs
        go_simp
        all_goals (try go_wp2_with (first | (go_at_call 12; with_reducible refine (vSub_n _ hc_ ha).mono ?_; rintro e w' ⟨x, y, h3, rfl, hb1⟩) | (go_at_call 12; with_reducible refine (vSub_n _ hd_ ha).mono ?_; rintro e w' ⟨x, y, h8, rfl, hb1⟩) | (go_at_call 45; with_reducible refine (vCross_n _ he h3).mono ?_; rintro e w' ⟨r, h4, rfl, hb1⟩) | (go_at_call 45; with_reducible refine (vCross_n _ he h8).mono ?_; rintro e w' ⟨r, h9, rfl, hb1⟩)))
        all_goals first | exact hK.out _ _ ⟨_, _, h3, rfl⟩ hb1 | exact hK.out _ _ ⟨_, _, h8, rfl⟩ hb1 | exact hK.out _ _ ⟨_, h4, rfl⟩ hb1 | exact hK.out _ _ ⟨_, h9, rfl⟩ hb1 | exact hK.out _ _ ⟨_, h4, rfl⟩ (bl_refl _) | exact hK.out _ _ ⟨_, h9, rfl⟩ (bl_refl _) | exact hK.out _ _ rfl (bl_refl _) | exact hK.out _ _ rfl (by assumption) | exact hK.out _ _ (by assumption) (by assumption)
      · cases ho
        simp only [Act.put, List.setIfInBounds_toArray, List.set_cons_zero, List.set_cons_succ] at hK
        clear hs
        go_simp
        all_goals (try go_wp2_with (first | (go_at_call 12; with_reducible refine (vSub_n _ hc_ ha).mono ?_; rintro e w' ⟨x, y, h3, rfl, hb1⟩) | (go_at_call 12; with_reducible refine (vSub_n _ hd_ ha).mono ?_; rintro e w' ⟨x, y, h8, rfl, hb1⟩) | (go_at_call 45; with_reducible refine (vCross_n _ he h3).mono ?_; rintro e w' ⟨r, h4, rfl, hb1⟩) | (go_at_call 45; with_reducible refine (vCross_n _ he h8).mono ?_; rintro e w' ⟨r, h9, rfl, hb1⟩)))
        all_goals first | exact hK.out _ _ ⟨_, _, h3, rfl⟩ hb1 | exact hK.out _ _ ⟨_, _, h8, rfl⟩ hb1 | exact hK.out _ _ ⟨_, h4, rfl⟩ hb1 | exact hK.out _ _ ⟨_, h9, rfl⟩ hb1 | exact hK.out _ _ ⟨_, h4, rfl⟩ (bl_refl _) | exact hK.out _ _ ⟨_, h9, rfl⟩ (bl_refl _) | exact hK.out _ _ rfl (bl_refl _) | exact hK.out _ _ rfl (by assumption) | exact hK.out _ _ (by assumption) (by assumption)
      · cases ho
        have e1 : s 1 = _ := hs 1 (by decide) (by kernel_rfl)
        have e2 : s 2 = _ := hs 2 (by decide) (by kernel_rfl)
        simp only [e1, e2] at hK ⊢
        simp only [Act.put, List.setIfInBounds_toArray, List.set_cons_zero, List.set_cons_succ] at hK
        clear hs
        go_simp
        all_goals (try go_wp2_with (first | (go_at_call 12; with_reducible refine (vSub_n _ hc_ ha).mono ?_; rintro e w' ⟨x, y, h3, rfl, hb1⟩) | (go_at_call 12; with_reducible refine (vSub_n _ hd_ ha).mono ?_; rintro e w' ⟨x, y, h8, rfl, hb1⟩) | (go_at_call 45; with_reducible refine (vCross_n _ he h3).mono ?_; rintro e w' ⟨r, h4, rfl, hb1⟩) | (go_at_call 45; with_reducible refine (vCross_n _ he h8).mono ?_; rintro e w' ⟨r, h9, rfl, hb1⟩)))
        all_goals first | exact hK.out _ _ ⟨_, _, h3, rfl⟩ hb1 | exact hK.out _ _ ⟨_, _, h8, rfl⟩ hb1 | exact hK.out _ _ ⟨_, h4, rfl⟩ hb1 | exact hK.out _ _ ⟨_, h9, rfl⟩ hb1 | exact hK.out _ _ ⟨_, h4, rfl⟩ (bl_refl _) | exact hK.out _ _ ⟨_, h9, rfl⟩ (bl_refl _) | exact hK.out _ _ rfl (bl_refl _) | exact hK.out _ _ rfl (by assumption) | exact hK.out _ _ (by assumption) (by assumption)
      · cases ho
        have e0 : s 0 = _ := hs 0 (by decide) (by kernel_rfl)
        obtain ⟨x, y, h3, e3⟩ := hs 3 (by decide) (by kernel_rfl)
        simp only [e0, e3] at hK ⊢
        simp only [Act.put, List.setIfInBounds_toArray, List.set_cons_zero, List.set_cons_succ] at hK
        clear hs
        go_simp
        all_goals (try go_wp2_with (first | (go_at_call 12; with_reducible refine (vSub_n _ hc_ ha).mono ?_; rintro e w' ⟨x, y, h3, rfl, hb1⟩) | (go_at_call 12; with_reducible refine (vSub_n _ hd_ ha).mono ?_; rintro e w' ⟨x, y, h8, rfl, hb1⟩) | (go_at_call 45; with_reducible refine (vCross_n _ he h3).mono ?_; rintro e w' ⟨r, h4, rfl, hb1⟩) | (go_at_call 45; with_reducible refine (vCross_n _ he h8).mono ?_; rintro e w' ⟨r, h9, rfl, hb1⟩)))
        all_goals first | exact hK.out _ _ ⟨_, _, h3, rfl⟩ hb1 | exact hK.out _ _ ⟨_, _, h8, rfl⟩ hb1 | exact hK.out _ _ ⟨_, h4, rfl⟩ hb1 | exact hK.out _ _ ⟨_, h9, rfl⟩ hb1 | exact hK.out _ _ ⟨_, h4, rfl⟩ (bl_refl _) | exact hK.out _ _ ⟨_, h9, rfl⟩ (bl_refl _) | exact hK.out _ _ rfl (bl_refl _) | exact hK.out _ _ rfl (by assumption) | exact hK.out _ _ (by assumption) (by assumption)
      · cases ho
        simp only [Act.put, List.setIfInBounds_toArray, List.set_cons_zero, List.set_cons_succ] at hK
        clear hs
        go_simp
        all_goals (try go_wp2_with (first | (go_at_call 12; with_reducible refine (vSub_n _ hc_ ha).mono ?_; rintro e w' ⟨x, y, h3, rfl, hb1⟩) | (go_at_call 12; with_reducible refine (vSub_n _ hd_ ha).mono ?_; rintro e w' ⟨x, y, h8, rfl, hb1⟩) | (go_at_call 45; with_reducible refine (vCross_n _ he h3).mono ?_; rintro e w' ⟨r, h4, rfl, hb1⟩) | (go_at_call 45; with_reducible refine (vCross_n _ he h8).mono ?_; rintro e w' ⟨r, h9, rfl, hb1⟩)))
        all_goals first | exact hK.out _ _ ⟨_, _, h3, rfl⟩ hb1 | exact hK.out _ _ ⟨_, _, h8, rfl⟩ hb1 | exact hK.out _ _ ⟨_, h4, rfl⟩ hb1 | exact hK.out _ _ ⟨_, h9, rfl⟩ hb1 | exact hK.out _ _ ⟨_, h4, rfl⟩ (bl_refl _) | exact hK.out _ _ ⟨_, h9, rfl⟩ (bl_refl _) | exact hK.out _ _ rfl (bl_refl _) | exact hK.out _ _ rfl (by assumption) | exact hK.out _ _ (by assumption) (by assumption)
      · cases ho
        simp only [Act.put, List.setIfInBounds_toArray, List.set_cons_zero, List.set_cons_succ] at hK
        clear hs
        go_simp
        all_goals (try go_wp2_with (first | (go_at_call 12; with_reducible refine (vSub_n _ hc_ ha).mono ?_; rintro e w' ⟨x, y, h3, rfl, hb1⟩) | (go_at_call 12; with_reducible refine (vSub_n _ hd_ ha).mono ?_; rintro e w' ⟨x, y, h8, rfl, hb1⟩) | (go_at_call 45; with_reducible refine (vCross_n _ he h3).mono ?_; rintro e w' ⟨r, h4, rfl, hb1⟩) | (go_at_call 45; with_reducible refine (vCross_n _ he h8).mono ?_; rintro e w' ⟨r, h9, rfl, hb1⟩)))
        all_goals first | exact hK.out _ _ ⟨_, _, h3, rfl⟩ hb1 | exact hK.out _ _ ⟨_, _, h8, rfl⟩ hb1 | exact hK.out _ _ ⟨_, h4, rfl⟩ hb1 | exact hK.out _ _ ⟨_, h9, rfl⟩ hb1 | exact hK.out _ _ ⟨_, h4, rfl⟩ (bl_refl _) | exact hK.out _ _ ⟨_, h9, rfl⟩ (bl_refl _) | exact hK.out _ _ rfl (bl_refl _) | exact hK.out _ _ rfl (by assumption) | exact hK.out _ _ (by assumption) (by assumption)
      · cases ho
        simp only [Act.put, List.setIfInBounds_toArray, List.set_cons_zero, List.set_cons_succ] at hK
        clear hs
        go_simp
        all_goals (try go_wp2_with (first | (go_at_call 12; with_reducible refine (vSub_n _ hc_ ha).mono ?_; rintro e w' ⟨x, y, h3, rfl, hb1⟩) | (go_at_call 12; with_reducible refine (vSub_n _ hd_ ha).mono ?_; rintro e w' ⟨x, y, h8, rfl, hb1⟩) | (go_at_call 45; with_reducible refine (vCross_n _ he h3).mono ?_; rintro e w' ⟨r, h4, rfl, hb1⟩) | (go_at_call 45; with_reducible refine (vCross_n _ he h8).mono ?_; rintro e w' ⟨r, h9, rfl, hb1⟩)))
        all_goals first | exact hK.out _ _ ⟨_, _, h3, rfl⟩ hb1 | exact hK.out _ _ ⟨_, _, h8, rfl⟩ hb1 | exact hK.out _ _ ⟨_, h4, rfl⟩ hb1 | exact hK.out _ _ ⟨_, h9, rfl⟩ hb1 | exact hK.out _ _ ⟨_, h4, rfl⟩ (bl_refl _) | exact hK.out _ _ ⟨_, h9, rfl⟩ (bl_refl _) | exact hK.out _ _ rfl (bl_refl _) | exact hK.out _ _ rfl (by assumption) | exact hK.out _ _ (by assumption) (by assumption)
      · cases ho
        have e6 : s 6 = _ := hs 6 (by decide) (by kernel_rfl)
        have e7 : s 7 = _ := hs 7 (by decide) (by kernel_rfl)
        simp only [e6, e7] at hK ⊢
        simp only [Act.put, List.setIfInBounds_toArray, List.set_cons_zero, List.set_cons_succ] at hK
        clear hs
        go_simp
        all_goals (try go_wp2_with (first | (go_at_call 12; with_reducible refine (vSub_n _ hc_ ha).mono ?_; rintro e w' ⟨x, y, h3, rfl, hb1⟩) | (go_at_call 12; with_reducible refine (vSub_n _ hd_ ha).mono ?_; rintro e w' ⟨x, y, h8, rfl, hb1⟩) | (go_at_call 45; with_reducible refine (vCross_n _ he h3).mono ?_; rintro e w' ⟨r, h4, rfl, hb1⟩) | (go_at_call 45; with_reducible refine (vCross_n _ he h8).mono ?_; rintro e w' ⟨r, h9, rfl, hb1⟩)))
        all_goals first | exact hK.out _ _ ⟨_, _, h3, rfl⟩ hb1 | exact hK.out _ _ ⟨_, _, h8, rfl⟩ hb1 | exact hK.out _ _ ⟨_, h4, rfl⟩ hb1 | exact hK.out _ _ ⟨_, h9, rfl⟩ hb1 | exact hK.out _ _ ⟨_, h4, rfl⟩ (bl_refl _) | exact hK.out _ _ ⟨_, h9, rfl⟩ (bl_refl _) | exact hK.out _ _ rfl (bl_refl _) | exact hK.out _ _ rfl (by assumption) | exact hK.out _ _ (by assumption) (by assumption)
      · cases ho
        have e5 : s 5 = _ := hs 5 (by decide) (by kernel_rfl)
        obtain ⟨x, y, h8, e8⟩ := hs 8 (by decide) (by kernel_rfl)
        simp only [e5, e8] at hK ⊢
        simp only [Act.put, List.setIfInBounds_toArray, List.set_cons_zero, List.set_cons_succ] at hK
        clear hs
        go_simp
        all_goals (try go_wp2_with (first | (go_at_call 12; with_reducible refine (vSub_n _ hc_ ha).mono ?_; rintro e w' ⟨x, y, h3, rfl, hb1⟩) | (go_at_call 12; with_reducible refine (vSub_n _ hd_ ha).mono ?_; rintro e w' ⟨x, y, h8, rfl, hb1⟩) | (go_at_call 45; with_reducible refine (vCross_n _ he h3).mono ?_; rintro e w' ⟨r, h4, rfl, hb1⟩) | (go_at_call 45; with_reducible refine (vCross_n _ he h8).mono ?_; rintro e w' ⟨r, h9, rfl, hb1⟩)))
        all_goals first | exact hK.out _ _ ⟨_, _, h3, rfl⟩ hb1 | exact hK.out _ _ ⟨_, _, h8, rfl⟩ hb1 | exact hK.out _ _ ⟨_, h4, rfl⟩ hb1 | exact hK.out _ _ ⟨_, h9, rfl⟩ hb1 | exact hK.out _ _ ⟨_, h4, rfl⟩ (bl_refl _) | exact hK.out _ _ ⟨_, h9, rfl⟩ (bl_refl _) | exact hK.out _ _ rfl (bl_refl _) | exact hK.out _ _ rfl (by assumption) | exact hK.out _ _ (by assumption) (by assumption)
      · cases ho
        obtain ⟨r, h4, e4⟩ := hs 4 (by decide) (by kernel_rfl)
        simp only [e4] at hK ⊢
        simp only [Act.put, List.setIfInBounds_toArray, List.set_cons_zero, List.set_cons_succ] at hK
        clear hs
        go_simp
        all_goals (try go_wp2_with (first | (go_at_call 12; with_reducible refine (vSub_n _ hc_ ha).mono ?_; rintro e w' ⟨x, y, h3, rfl, hb1⟩) | (go_at_call 12; with_reducible refine (vSub_n _ hd_ ha).mono ?_; rintro e w' ⟨x, y, h8, rfl, hb1⟩) | (go_at_call 45; with_reducible refine (vCross_n _ he h3).mono ?_; rintro e w' ⟨r, h4, rfl, hb1⟩) | (go_at_call 45; with_reducible refine (vCross_n _ he h8).mono ?_; rintro e w' ⟨r, h9, rfl, hb1⟩)))
        all_goals first | exact hK.out _ _ ⟨_, _, h3, rfl⟩ hb1 | exact hK.out _ _ ⟨_, _, h8, rfl⟩ hb1 | exact hK.out _ _ ⟨_, h4, rfl⟩ hb1 | exact hK.out _ _ ⟨_, h9, rfl⟩ hb1 | exact hK.out _ _ ⟨_, h4, rfl⟩ (bl_refl _) | exact hK.out _ _ ⟨_, h9, rfl⟩ (bl_refl _) | exact hK.out _ _ rfl (bl_refl _) | exact hK.out _ _ rfl (by assumption) | exact hK.out _ _ (by assumption) (by assumption)
      · cases ho
        obtain ⟨r, h9, e9⟩ := hs 9 (by decide) (by kernel_rfl)
        simp only [e9] at hK ⊢
        simp only [Act.put, List.setIfInBounds_toArray, List.set_cons_zero, List.set_cons_succ] at hK
        clear hs
        go_simp
        all_goals (try go_wp2_with (first | (go_at_call 12; with_reducible refine (vSub_n _ hc_ ha).mono ?_; rintro e w' ⟨x, y, h3, rfl, hb1⟩) | (go_at_call 12; with_reducible refine (vSub_n _ hd_ ha).mono ?_; rintro e w' ⟨x, y, h8, rfl, hb1⟩) | (go_at_call 45; with_reducible refine (vCross_n _ he h3).mono ?_; rintro e w' ⟨r, h4, rfl, hb1⟩) | (go_at_call 45; with_reducible refine (vCross_n _ he h8).mono ?_; rintro e w' ⟨r, h9, rfl, hb1⟩)))
        all_goals first | exact hK.out _ _ ⟨_, _, h3, rfl⟩ hb1 | exact hK.out _ _ ⟨_, _, h8, rfl⟩ hb1 | exact hK.out _ _ ⟨_, h4, rfl⟩ hb1 | exact hK.out _ _ ⟨_, h9, rfl⟩ hb1 | exact hK.out _ _ ⟨_, h4, rfl⟩ (bl_refl _) | exact hK.out _ _ ⟨_, h9, rfl⟩ (bl_refl _) | exact hK.out _ _ rfl (bl_refl _) | exact hK.out _ _ rfl (by assumption) | exact hK.out _ _ (by assumption) (by assumption)
    case ht_wm =>
      intro s W2 hs hb
      have e0 : s 0 = _ := hs 0 (by decide)
      have e1 : s 1 = _ := hs 1 (by decide)
      have e2 : s 2 = _ := hs 2 (by decide)
      obtain ⟨_, _, _, e3⟩ := hs 3 (by decide)
      obtain ⟨_, _, e4⟩ := hs 4 (by decide)
      have e5 : s 5 = _ := hs 5 (by decide)
      have e6 : s 6 = _ := hs 6 (by decide)
      have e7 : s 7 = _ := hs 7 (by decide)
      obtain ⟨_, _, _, e8⟩ := hs 8 (by decide)
      obtain ⟨_, _, e9⟩ := hs 9 (by decide)
      obtain ⟨s0, hs0, e10⟩ := hs 10 (by decide)
      obtain ⟨t0, ht0, e11⟩ := hs 11 (by decide)
      simp only [e0, e1, e2, e3, e4, e5, e6, e7, e8, e9, e10, e11]
      clear hs e0 e1 e2 e3 e4 e5 e6 e7 e8 e9 e10 e11
      replace z0_0 := keep hb z0_0; replace z0_1 := keep hb z0_1; replace z1_0 := keep hb z1_0; replace z1_1 := keep hb z1_1; replace z2_0 := keep hb z2_0; replace z2_1 := keep hb z2_1; replace z3_0 := keep hb z3_0; replace z3_1 := keep hb z3_1; replace z4_0 := keep hb z4_0; replace z4_1 := keep hb z4_1; replace z4_2 := keep hb z4_2; replace z4_3 := keep hb z4_3; replace z4_4 := keep hb z4_4; replace k_p6_0 := keep hb k_p6_0; replace k_p6_1 := keep hb k_p6_1; replace k_p7_0 := keep hb k_p7_0; replace k_p7_1 := keep hb k_p7_1
      replace BF := bl_trans BF hb
      clear hb
      go_wp2
      refine wp_region_mono 12 rfl (fun i W v => match i with | 0 => v = .agg #[.float .f64 fx, .float .f64 fy] | 1 => v = .agg #[.float .f64 ax, .float .f64 ay] | 2 => v = .agg #[.float .f64 cx, .float .f64 cy] | 3 => ∃ x y, isP x y (suF A C) ∧ v = .agg #[.float .f64 x, .float .f64 y] | 4 => ∃ r, isF r (crF (suF D C) (suF A C)) ∧ v = .float .f64 r | 5 => v = .agg #[.float .f64 fx, .float .f64 fy] | 6 => v = .agg #[.float .f64 bx, .float .f64 b_y] | 7 => v = .agg #[.float .f64 cx, .float .f64 cy] | 8 => ∃ x y, isP x y (suF B C) ∧ v = .agg #[.float .f64 x, .float .f64 y] | 9 => ∃ r, isF r (crF (suF D C) (suF B C)) ∧ v = .float .f64 r | 10 => ∃ r, isF r (crF (suF D C) (suF A C)) ∧ v = .float .f64 r | 11 => ∃ r, isF r (crF (suF D C) (suF B C)) ∧ v = .float .f64 r | _ => False) ?A_wt (by kernel_rfl) (by kernel_rfl) ?hA_wt ?hmo_wt ?hq_wt ?ht_wt
      case hA_wt =>
        intro s
        simp only [putL, dstO, Act.put, List.getElem?_toArray, List.getElem?_cons_zero, List.getElem?_cons_succ, Option.bind_some, List.setIfInBounds_toArray, List.set_cons_zero, List.set_cons_succ, if_true]
        all_goals exact rfl
      case hmo_wt =>
        intro i W W' v hi hb h
        rcases (show i = 0 ∨ i = 1 ∨ i = 2 ∨ i = 3 ∨ i = 4 ∨ i = 5 ∨ i = 6 ∨ i = 7 ∨ i = 8 ∨ i = 9 ∨ i = 10 ∨ i = 11 by omega) with rfl | rfl | rfl | rfl | rfl | rfl | rfl | rfl | rfl | rfl | rfl | rfl
        all_goals first | exact h
      case hq_wt =>
        intro i o hi ho s W hs hb K hK
        have uz0_0 := keep hb z0_0; have uz0_1 := keep hb z0_1; have uz1_0 := keep hb z1_0; have uz1_1 := keep hb z1_1; have uz2_0 := keep hb z2_0; have uz2_1 := keep hb z2_1; have uz3_0 := keep hb z3_0; have uz3_1 := keep hb z3_1; have uz4_0 := keep hb z4_0; have uz4_1 := keep hb z4_1; have uz4_2 := keep hb z4_2; have uz4_3 := keep hb z4_3; have uz4_4 := keep hb z4_4; have uk_p6_0 := keep hb k_p6_0; have uk_p6_1 := keep hb k_p6_1; have uk_p7_0 := keep hb k_p7_0; have uk_p7_1 := keep hb k_p7_1
        rcases (show i = 0 ∨ i = 1 ∨ i = 2 ∨ i = 3 ∨ i = 4 ∨ i = 5 ∨ i = 6 ∨ i = 7 ∨ i = 8 ∨ i = 9 ∨ i = 10 ∨ i = 11 by omega) with rfl | rfl | rfl | rfl | rfl | rfl | rfl | rfl | rfl | rfl | rfl | rfl
        · cases ho
          simp only [Act.put, List.setIfInBounds_toArray, List.set_cons_zero, List.set_cons_succ] at hK
          clear hs
          go_simp
          all_goals (try go_wp2_with (first | (go_at_call 12; with_reducible refine (vSub_n _ ha hc_).mono ?_; rintro e w' ⟨x, y, h3, rfl, hb1⟩) | (go_at_call 12; with_reducible refine (vSub_n _ hb_ hc_).mono ?_; rintro e w' ⟨x, y, h8, rfl, hb1⟩) | (go_at_call 45; with_reducible refine (vCross_n _ hf h3).mono ?_; rintro e w' ⟨r, h4, rfl, hb1⟩) | (go_at_call 45; with_reducible refine (vCross_n _ hf h8).mono ?_; rintro e w' ⟨r, h9, rfl, hb1⟩)))
          all_goals first | exact hK.out _ _ ⟨_, _, h3, rfl⟩ hb1 | exact hK.out _ _ ⟨_, _, h8, rfl⟩ hb1 | exact hK.out _ _ ⟨_, h4, rfl⟩ hb1 | exact hK.out _ _ ⟨_, h9, rfl⟩ hb1 | exact hK.out _ _ ⟨_, h4, rfl⟩ (bl_refl _) | exact hK.out _ _ ⟨_, h9, rfl⟩ (bl_refl _) | exact hK.out _ _ rfl (bl_refl _) | exact hK.out _ _ rfl (by assumption) | exact hK.out _ _ (by assumption) (by assumption)
        · cases ho
          simp only [Act.put, List.setIfInBounds_toArray, List.set_cons_zero, List.set_cons_succ] at hK
          clear hs
          go_simp
          all_goals (try go_wp2_with (first | (go_at_call 12; with_reducible refine (vSub_n _ ha hc_).mono ?_; rintro e w' ⟨x, y, h3, rfl, hb1⟩) | (go_at_call 12; with_reducible refine (vSub_n _ hb_ hc_).mono ?_; rintro e w' ⟨x, y, h8, rfl, hb1⟩) | (go_at_call 45; with_reducible refine (vCross_n _ hf h3).mono ?_; rintro e w' ⟨r, h4, rfl, hb1⟩) | (go_at_call 45; with_reducible refine (vCross_n _ hf h8).mono ?_; rintro e w' ⟨r, h9, rfl, hb1⟩)))
          all_goals first | exact hK.out _ _ ⟨_, _, h3, rfl⟩ hb1 | exact hK.out _ _ ⟨_, _, h8, rfl⟩ hb1 | exact hK.out _ _ ⟨_, h4, rfl⟩ hb1 | exact hK.out _ _ ⟨_, h9, rfl⟩ hb1 | exact hK.out _ _ ⟨_, h4, rfl⟩ (bl_refl _) | exact hK.out _ _ ⟨_, h9, rfl⟩ (bl_refl _) | exact hK.out _ _ rfl (bl_refl _) | exact hK.out _ _ rfl (by assumption) | exact hK.out _ _ (by assumption) (by assumption)
        · cases ho
          simp only [Act.put, List.setIfInBounds_toArray, List.set_cons_zero, List.set_cons_succ] at hK
          clear hs
          go_simp
          all_goals (try go_wp2_with (first | (go_at_call 12; with_reducible refine (vSub_n _ ha hc_).mono ?_; rintro e w' ⟨x, y, h3, rfl, hb1⟩) | (go_at_call 12; with_reducible refine (vSub_n _ hb_ hc_).mono ?_; rintro e w' ⟨x, y, h8, rfl, hb1⟩) | (go_at_call 45; with_reducible refine (vCross_n _ hf h3).mono ?_; rintro e w' ⟨r, h4, rfl, hb1⟩) | (go_at_call 45; with_reducible refine (vCross_n _ hf h8).mono ?_; rintro e w' ⟨r, h9, rfl, hb1⟩)))
          all_goals first | exact hK.out _ _ ⟨_, _, h3, rfl⟩ hb1 | exact hK.out _ _ ⟨_, _, h8, rfl⟩ hb1 | exact hK.out _ _ ⟨_, h4, rfl⟩ hb1 | exact hK.out _ _ ⟨_, h9, rfl⟩ hb1 | exact hK.out _ _ ⟨_, h4, rfl⟩ (bl_refl _) | exact hK.out _ _ ⟨_, h9, rfl⟩ (bl_refl _) | exact hK.out _ _ rfl (bl_refl _) | exact hK.out _ _ rfl (by assumption) | exact hK.out _ _ (by assumption) (by assumption)
        · cases ho
          have e1 : s 1 = _ := hs 1 (by decide) (by kernel_rfl)
          have e2 : s 2 = _ := hs 2 (by decide) (by kernel_rfl)
          simp only [e1, e2] at hK ⊢
          simp only [Act.put, List.setIfInBounds_toArray, List.set_cons_zero, List.set_cons_succ] at hK
          clear hs
          go_simp
          all_goals (try go_wp2_with (first | (go_at_call 12; with_reducible refine (vSub_n _ ha hc_).mono ?_; rintro e w' ⟨x, y, h3, rfl, hb1⟩) | (go_at_call 12; with_reducible refine (vSub_n _ hb_ hc_).mono ?_; rintro e w' ⟨x, y, h8, rfl, hb1⟩) | (go_at_call 45; with_reducible refine (vCross_n _ hf h3).mono ?_; rintro e w' ⟨r, h4, rfl, hb1⟩) | (go_at_call 45; with_reducible refine (vCross_n _ hf h8).mono ?_; rintro e w' ⟨r, h9, rfl, hb1⟩)))
          all_goals first | exact hK.out _ _ ⟨_, _, h3, rfl⟩ hb1 | exact hK.out _ _ ⟨_, _, h8, rfl⟩ hb1 | exact hK.out _ _ ⟨_, h4, rfl⟩ hb1 | exact hK.out _ _ ⟨_, h9, rfl⟩ hb1 | exact hK.out _ _ ⟨_, h4, rfl⟩ (bl_refl _) | exact hK.out _ _ ⟨_, h9, rfl⟩ (bl_refl _) | exact hK.out _ _ rfl (bl_refl _) | exact hK.out _ _ rfl (by assumption) | exact hK.out _ _ (by assumption) (by assumption)
        · cases ho
          have e0 : s 0 = _ := hs 0 (by decide) (by kernel_rfl)
          obtain ⟨x, y, h3, e3⟩ := hs 3 (by decide) (by kernel_rfl)
          simp only [e0, e3] at hK ⊢
          simp only [Act.put, List.setIfInBounds_toArray, List.set_cons_zero, List.set_cons_succ] at hK
          clear hs
          go_simp
          all_goals (try go_wp2_with (first | (go_at_call 12; with_reducible refine (vSub_n _ ha hc_).mono ?_; rintro e w' ⟨x, y, h3, rfl, hb1⟩) | (go_at_call 12; with_reducible refine (vSub_n _ hb_ hc_).mono ?_; rintro e w' ⟨x, y, h8, rfl, hb1⟩) | (go_at_call 45; with_reducible refine (vCross_n _ hf h3).mono ?_; rintro e w' ⟨r, h4, rfl, hb1⟩) | (go_at_call 45; with_reducible refine (vCross_n _ hf h8).mono ?_; rintro e w' ⟨r, h9, rfl, hb1⟩)))
          all_goals first | exact hK.out _ _ ⟨_, _, h3, rfl⟩ hb1 | exact hK.out _ _ ⟨_, _, h8, rfl⟩ hb1 | exact hK.out _ _ ⟨_, h4, rfl⟩ hb1 | exact hK.out _ _ ⟨_, h9, rfl⟩ hb1 | exact hK.out _ _ ⟨_, h4, rfl⟩ (bl_refl _) | exact hK.out _ _ ⟨_, h9, rfl⟩ (bl_refl _) | exact hK.out _ _ rfl (bl_refl _) | exact hK.out _ _ rfl (by assumption) | exact hK.out _ _ (by assumption) (by assumption)
        · cases ho
          simp only [Act.put, List.setIfInBounds_toArray, List.set_cons_zero, List.set_cons_succ] at hK
          clear hs
          go_simp
          all_goals (try go_wp2_with (first | (go_at_call 12; with_reducible refine (vSub_n _ ha hc_).mono ?_; rintro e w' ⟨x, y, h3, rfl, hb1⟩) | (go_at_call 12; with_reducible refine (vSub_n _ hb_ hc_).mono ?_; rintro e w' ⟨x, y, h8, rfl, hb1⟩) | (go_at_call 45; with_reducible refine (vCross_n _ hf h3).mono ?_; rintro e w' ⟨r, h4, rfl, hb1⟩) | (go_at_call 45; with_reducible refine (vCross_n _ hf h8).mono ?_; rintro e w' ⟨r, h9, rfl, hb1⟩)))
          all_goals first | exact hK.out _ _ ⟨_, _, h3, rfl⟩ hb1 | exact hK.out _ _ ⟨_, _, h8, rfl⟩ hb1 | exact hK.out _ _ ⟨_, h4, rfl⟩ hb1 | exact hK.out _ _ ⟨_, h9, rfl⟩ hb1 | exact hK.out _ _ ⟨_, h4, rfl⟩ (bl_refl _) | exact hK.out _ _ ⟨_, h9, rfl⟩ (bl_refl _) | exact hK.out _ _ rfl (bl_refl _) | exact hK.out _ _ rfl (by assumption) | exact hK.out _ _ (by assumption) (by assumption)
        · cases ho
          simp only [Act.put, List.setIfInBounds_toArray, List.set_cons_zero, List.set_cons_succ] at hK
          clear hs
          go_simp
          all_goals (try go_wp2_with (first | (go_at_call 12; with_reducible refine (vSub_n _ ha hc_).mono ?_; rintro e w' ⟨x, y, h3, rfl, hb1⟩) | (go_at_call 12; with_reducible refine (vSub_n _ hb_ hc_).mono ?_; rintro e w' ⟨x, y, h8, rfl, hb1⟩) | (go_at_call 45; with_reducible refine (vCross_n _ hf h3).mono ?_; rintro e w' ⟨r, h4, rfl, hb1⟩) | (go_at_call 45; with_reducible refine (vCross_n _ hf h8).mono ?_; rintro e w' ⟨r, h9, rfl, hb1⟩)))
          all_goals first | exact hK.out _ _ ⟨_, _, h3, rfl⟩ hb1 | exact hK.out _ _ ⟨_, _, h8, rfl⟩ hb1 | exact hK.out _ _ ⟨_, h4, rfl⟩ hb1 | exact hK.out _ _ ⟨_, h9, rfl⟩ hb1 | exact hK.out _ _ ⟨_, h4, rfl⟩ (bl_refl _) | exact hK.out _ _ ⟨_, h9, rfl⟩ (bl_refl _) | exact hK.out _ _ rfl (bl_refl _) | exact hK.out _ _ rfl (by assumption) | exact hK.out _ _ (by assumption) (by assumption)
        · cases ho
          simp only [Act.put, List.setIfInBounds_toArray, List.set_cons_zero, List.set_cons_succ] at hK
          clear hs
          go_simp
          all_goals (try go_wp2_with (first | (go_at_call 12; with_reducible refine (vSub_n _ ha hc_).mono ?_; rintro e w' ⟨x, y, h3, rfl, hb1⟩) | (go_at_call 12; with_reducible refine (vSub_n _ hb_ hc_).mono ?_; rintro e w' ⟨x, y, h8, rfl, hb1⟩) | (go_at_call 45; with_reducible refine (vCross_n _ hf h3).mono ?_; rintro e w' ⟨r, h4, rfl, hb1⟩) | (go_at_call 45; with_reducible refine (vCross_n _ hf h8).mono ?_; rintro e w' ⟨r, h9, rfl, hb1⟩)))
          all_goals first | exact hK.out _ _ ⟨_, _, h3, rfl⟩ hb1 | exact hK.out _ _ ⟨_, _, h8, rfl⟩ hb1 | exact hK.out _ _ ⟨_, h4, rfl⟩ hb1 | exact hK.out _ _ ⟨_, h9, rfl⟩ hb1 | exact hK.out _ _ ⟨_, h4, rfl⟩ (bl_refl _) | exact hK.out _ _ ⟨_, h9, rfl⟩ (bl_refl _) | exact hK.out _ _ rfl (bl_refl _) | exact hK.out _ _ rfl (by assumption) | exact hK.out _ _ (by assumption) (by assumption)
        · cases ho
          have e6 : s 6 = _ := hs 6 (by decide) (by kernel_rfl)
          have e7 : s 7 = _ := hs 7 (by decide) (by kernel_rfl)
          simp only [e6, e7] at hK ⊢
          simp only [Act.put, List.setIfInBounds_toArray, List.set_cons_zero, List.set_cons_succ] at hK
          clear hs
          go_simp
          all_goals (try go_wp2_with (first | (go_at_call 12; with_reducible refine (vSub_n _ ha hc_).mono ?_; rintro e w' ⟨x, y, h3, rfl, hb1⟩) | (go_at_call 12; with_reducible refine (vSub_n _ hb_ hc_).mono ?_; rintro e w' ⟨x, y, h8, rfl, hb1⟩) | (go_at_call 45; with_reducible refine (vCross_n _ hf h3).mono ?_; rintro e w' ⟨r, h4, rfl, hb1⟩) | (go_at_call 45; with_reducible refine (vCross_n _ hf h8).mono ?_; rintro e w' ⟨r, h9, rfl, hb1⟩)))
          all_goals first | exact hK.out _ _ ⟨_, _, h3, rfl⟩ hb1 | exact hK.out _ _ ⟨_, _, h8, rfl⟩ hb1 | exact hK.out _ _ ⟨_, h4, rfl⟩ hb1 | exact hK.out _ _ ⟨_, h9, rfl⟩ hb1 | exact hK.out _ _ ⟨_, h4, rfl⟩ (bl_refl _) | exact hK.out _ _ ⟨_, h9, rfl⟩ (bl_refl _) | exact hK.out _ _ rfl (bl_refl _) | exact hK.out _ _ rfl (by assumption) | exact hK.out _ _ (by assumption) (by assumption)
        · cases ho
          have e5 : s 5 = _ := hs 5 (by decide) (by kernel_rfl)
          obtain ⟨x, y, h8, e8⟩ := hs 8 (by decide) (by kernel_rfl)
          simp only [e5, e8] at hK ⊢
          simp only [Act.put, List.setIfInBounds_toArray, List.set_cons_zero, List.set_cons_succ] at hK
          clear hs
          go_simp
          all_goals (try go_wp2_with (first | (go_at_call 12; with_reducible refine (vSub_n _ ha hc_).mono ?_; rintro e w' ⟨x, y, h3, rfl, hb1⟩) | (go_at_call 12; with_reducible refine (vSub_n _ hb_ hc_).mono ?_; rintro e w' ⟨x, y, h8, rfl, hb1⟩) | (go_at_call 45; with_reducible refine (vCross_n _ hf h3).mono ?_; rintro e w' ⟨r, h4, rfl, hb1⟩) | (go_at_call 45; with_reducible refine (vCross_n _ hf h8).mono ?_; rintro e w' ⟨r, h9, rfl, hb1⟩)))
          all_goals first | exact hK.out _ _ ⟨_, _, h3, rfl⟩ hb1 | exact hK.out _ _ ⟨_, _, h8, rfl⟩ hb1 | exact hK.out _ _ ⟨_, h4, rfl⟩ hb1 | exact hK.out _ _ ⟨_, h9, rfl⟩ hb1 | exact hK.out _ _ ⟨_, h4, rfl⟩ (bl_refl _) | exact hK.out _ _ ⟨_, h9, rfl⟩ (bl_refl _) | exact hK.out _ _ rfl (bl_refl _) | exact hK.out _ _ rfl (by assumption) | exact hK.out _ _ (by assumption) (by assumption)
        · cases ho
          obtain ⟨r, h4, e4⟩ := hs 4 (by decide) (by kernel_rfl)
          simp only [e4] at hK ⊢
          simp only [Act.put, List.setIfInBounds_toArray, List.set_cons_zero, List.set_cons_succ] at hK
          clear hs
          go_simp
          all_goals (try go_wp2_with (first | (go_at_call 12; with_reducible refine (vSub_n _ ha hc_).mono ?_; rintro e w' ⟨x, y, h3, rfl, hb1⟩) | (go_at_call 12; with_reducible refine (vSub_n _ hb_ hc_).mono ?_; rintro e w' ⟨x, y, h8, rfl, hb1⟩) | (go_at_call 45; with_reducible refine (vCross_n _ hf h3).mono ?_; rintro e w' ⟨r, h4, rfl, hb1⟩) | (go_at_call 45; with_reducible refine (vCross_n _ hf h8).mono ?_; rintro e w' ⟨r, h9, rfl, hb1⟩)))
          all_goals first | exact hK.out _ _ ⟨_, _, h3, rfl⟩ hb1 | exact hK.out _ _ ⟨_, _, h8, rfl⟩ hb1 | exact hK.out _ _ ⟨_, h4, rfl⟩ hb1 | exact hK.out _ _ ⟨_, h9, rfl⟩ hb1 | exact hK.out _ _ ⟨_, h4, rfl⟩ (bl_refl _) | exact hK.out _ _ ⟨_, h9, rfl⟩ (bl_refl _) | exact hK.out _ _ rfl (bl_refl _) | exact hK.out _ _ rfl (by assumption) | exact hK.out _ _ (by assumption) (by assumption)
        · cases ho
          obtain ⟨r, h9, e9⟩ := hs 9 (by decide) (by kernel_rfl)
          simp only [e9] at hK ⊢
          simp only [Act.put, List.setIfInBounds_toArray, List.set_cons_zero, List.set_cons_succ] at hK
          clear hs
          go_simp
          all_goals (try go_wp2_with (first | (go_at_call 12; with_reducible refine (vSub_n _ ha hc_).mono ?_; rintro e w' ⟨x, y, h3, rfl, hb1⟩) | (go_at_call 12; with_reducible refine (vSub_n _ hb_ hc_).mono ?_; rintro e w' ⟨x, y, h8, rfl, hb1⟩) | (go_at_call 45; with_reducible refine (vCross_n _ hf h3).mono ?_; rintro e w' ⟨r, h4, rfl, hb1⟩) | (go_at_call 45; with_reducible refine (vCross_n _ hf h8).mono ?_; rintro e w' ⟨r, h9, rfl, hb1⟩)))
          all_goals first | exact hK.out _ _ ⟨_, _, h3, rfl⟩ hb1 | exact hK.out _ _ ⟨_, _, h8, rfl⟩ hb1 | exact hK.out _ _ ⟨_, h4, rfl⟩ hb1 | exact hK.out _ _ ⟨_, h9, rfl⟩ hb1 | exact hK.out _ _ ⟨_, h4, rfl⟩ (bl_refl _) | exact hK.out _ _ ⟨_, h9, rfl⟩ (bl_refl _) | exact hK.out _ _ rfl (bl_refl _) | exact hK.out _ _ rfl (by assumption) | exact hK.out _ _ (by assumption) (by assumption)
      case ht_wt =>
        intro s W3 hs hb
        have e0 : s 0 = _ := hs 0 (by decide)
        have e1 : s 1 = _ := hs 1 (by decide)
        have e2 : s 2 = _ := hs 2 (by decide)
        obtain ⟨_, _, _, e3⟩ := hs 3 (by decide)
        obtain ⟨_, _, e4⟩ := hs 4 (by decide)
        have e5 : s 5 = _ := hs 5 (by decide)
        have e6 : s 6 = _ := hs 6 (by decide)
        have e7 : s 7 = _ := hs 7 (by decide)
        obtain ⟨_, _, _, e8⟩ := hs 8 (by decide)
        obtain ⟨_, _, e9⟩ := hs 9 (by decide)
        obtain ⟨u0, hu0, e10⟩ := hs 10 (by decide)
        obtain ⟨v0, hv0, e11⟩ := hs 11 (by decide)
        simp only [e0, e1, e2, e3, e4, e5, e6, e7, e8, e9, e10, e11]
        clear hs e0 e1 e2 e3 e4 e5 e6 e7 e8 e9 e10 e11
        replace z0_0 := keep hb z0_0; replace z0_1 := keep hb z0_1; replace z1_0 := keep hb z1_0; replace z1_1 := keep hb z1_1; replace z2_0 := keep hb z2_0; replace z2_1 := keep hb z2_1; replace z3_0 := keep hb z3_0; replace z3_1 := keep hb z3_1; replace z4_0 := keep hb z4_0; replace z4_1 := keep hb z4_1; replace z4_2 := keep hb z4_2; replace z4_3 := keep hb z4_3; replace z4_4 := keep hb z4_4; replace k_p6_0 := keep hb k_p6_0; replace k_p6_1 := keep hb k_p6_1; replace k_p7_0 := keep hb k_p7_0; replace k_p7_1 := keep hb k_p7_1
        replace BF := bl_trans BF hb
        clear hb
        have d_ := run_sub Try.prog
        have d4 := run_quo Try.prog
        cases q1 : opF (crF (suF B A) (suF C A)) (crF (suF B A) (suF D A)) <;> cases q2 : opF (crF (suF D C) (suF A C)) (crF (suF D C) (suF B C))
        rotate_left 3
        · have e0 : segF A B C D = (0, atF A B C D, atF A B C D) := by unfold segF acF; rw [q1, q2]; rfl
          go_wp2_with (first | (go_at_call 46; with_reducible refine (opposed_n _ hs0 ht0).mono ?_; rintro e w' ⟨rfl, rfl⟩; rw [q1]) | (go_at_call 46; with_reducible refine (opposed_n _ hu0 hv0).mono ?_; rintro e w' ⟨rfl, rfl⟩; rw [q2]) | (go_at_call 28; refine (vMore_n _ ha (o_is _ hu0 (o_is _ hu0 hv0)) he).mono ?_; rintro e w7 ⟨x, y, h9, rfl, hb⟩; replace z4_0 : w7.cell? ⟨w.heap.size + 1 + 1 + 1 + 1, 0, none⟩ = some (.float .f64 0) := keep hb (by first | exact z4_0 | go_keep); replace z4_1 : w7.cell? ⟨w.heap.size + 1 + 1 + 1 + 1, 1, none⟩ = some (.float .f64 0) := keep hb (by first | exact z4_1 | go_keep); replace z4_2 : w7.cell? ⟨w.heap.size + 1 + 1 + 1 + 1, 2, none⟩ = some (.float .f64 0) := keep hb (by first | exact z4_2 | go_keep); replace z4_3 : w7.cell? ⟨w.heap.size + 1 + 1 + 1 + 1, 3, none⟩ = some (.float .f64 0) := keep hb (by first | exact z4_3 | go_keep); replace z4_4 : w7.cell? ⟨w.heap.size + 1 + 1 + 1 + 1, 4, none⟩ = some (.float .f64 0) := keep hb (by first | exact z4_4 | go_keep); replace BF := bl_trans (by repeat (first | exact BF | apply bl_drewN)) hb; clear hb; have hz := BF.size; simp only [World.size_alloc] at hz; have l4 : w.heap.size + 1 + 1 + 1 + 1 < w7.heap.size := (by omega); have fE : ∀ o, w7.frozen? ⟨w.heap.size + 1 + 1 + 1 + 1, o, none⟩ = false := fun o => (BF.2 _).trans (fR o)))
          obtain ⟨X, hX, r0, r1, r2, r3, r4, -, bX⟩ := put5_all (p := .float .f64 0) (q := .float .f64 x) (r := .float .f64 y) (s := .float .f64 x) (t := .float .f64 y) z4_0 z4_1 z4_2 z4_3 z4_4
          rw [← hX]
          replace r0 := keep (bl_alloc (bl_refl X) #[.float .f64 x, .float .f64 y] 28) r0; replace r1 := keep (bl_alloc (bl_refl X) #[.float .f64 x, .float .f64 y] 28) r1; replace r2 := keep (bl_alloc (bl_refl X) #[.float .f64 x, .float .f64 y] 28) r2; replace r3 := keep (bl_alloc (bl_refl X) #[.float .f64 x, .float .f64 y] 28) r3; replace r4 := keep (bl_alloc (bl_refl X) #[.float .f64 x, .float .f64 y] 28) r4
          refine bodyPost_ret (v := .agg #[.float .f64 0, .float .f64 x, .float .f64 y, .float .f64 x, .float .f64 y]) (by simp [r0, r1, r2, r3, r4, results, Try.results24, go_sem] <;> (first | exact ⟨rfl, rfl, rfl, rfl, rfl⟩ | rfl)) rfl ⟨_, _, _, _, _, by rw [e0]; exact ⟨isF_zero, h9, h9⟩, rfl, bl_alloc (bX _ (bl_trans B0 BF) (by omega)) _ _⟩
        · have e0 : segF A B C D = endF A B C D := by unfold segF acF; rw [q1, q2]; rfl
          go_wp2_with (first | (go_at_call 46; with_reducible refine (opposed_n _ hs0 ht0).mono ?_; rintro e w' ⟨rfl, rfl⟩; rw [q1]) | (go_at_call 46; with_reducible refine (opposed_n _ hu0 hv0).mono ?_; rintro e w' ⟨rfl, rfl⟩; rw [q2]) | (go_at_call 47; refine (fromEnds_n _ ha hb_ hc_ hd_).mono ?_; rintro e w8 ⟨nf9, na9, nb9, nc9, nd9, hN, rfl, hb⟩; replace z4_0 : w8.cell? ⟨w.heap.size + 1 + 1 + 1 + 1, 0, none⟩ = some (.float .f64 0) := keep hb (by first | exact z4_0 | go_keep); replace z4_1 : w8.cell? ⟨w.heap.size + 1 + 1 + 1 + 1, 1, none⟩ = some (.float .f64 0) := keep hb (by first | exact z4_1 | go_keep); replace z4_2 : w8.cell? ⟨w.heap.size + 1 + 1 + 1 + 1, 2, none⟩ = some (.float .f64 0) := keep hb (by first | exact z4_2 | go_keep); replace z4_3 : w8.cell? ⟨w.heap.size + 1 + 1 + 1 + 1, 3, none⟩ = some (.float .f64 0) := keep hb (by first | exact z4_3 | go_keep); replace z4_4 : w8.cell? ⟨w.heap.size + 1 + 1 + 1 + 1, 4, none⟩ = some (.float .f64 0) := keep hb (by first | exact z4_4 | go_keep); replace BF := bl_trans BF hb; clear hb; have fE : ∀ o, w8.frozen? ⟨w.heap.size + 1 + 1 + 1 + 1, o, none⟩ = false := fun o => (BF.2 _).trans (fR o)))
          obtain ⟨X, hX, r0, r1, r2, r3, r4, -, bX⟩ := put5_all (p := .float .f64 nf9) (q := .float .f64 na9) (r := .float .f64 nb9) (s := .float .f64 nc9) (t := .float .f64 nd9) z4_0 z4_1 z4_2 z4_3 z4_4
          rw [← hX]
          refine bodyPost_ret (v := .agg #[.float .f64 nf9, .float .f64 na9, .float .f64 nb9, .float .f64 nc9, .float .f64 nd9]) (by simp [r0, r1, r2, r3, r4, results, Try.results24, go_sem] <;> (first | exact ⟨rfl, rfl, rfl, rfl, rfl⟩ | rfl)) rfl ⟨_, _, _, _, _, by rw [e0]; exact hN, rfl, bX _ (bl_trans B0 BF) (by omega)⟩
        · have e0 : segF A B C D = endF A B C D := by unfold segF acF; rw [q1, q2]; rfl
          go_wp2_with (first | (go_at_call 46; with_reducible refine (opposed_n _ hs0 ht0).mono ?_; rintro e w' ⟨rfl, rfl⟩; rw [q1]) | (go_at_call 46; with_reducible refine (opposed_n _ hu0 hv0).mono ?_; rintro e w' ⟨rfl, rfl⟩; rw [q2]) | (go_at_call 47; refine (fromEnds_n _ ha hb_ hc_ hd_).mono ?_; rintro e w8 ⟨nf9, na9, nb9, nc9, nd9, hN, rfl, hb⟩; replace z4_0 : w8.cell? ⟨w.heap.size + 1 + 1 + 1 + 1, 0, none⟩ = some (.float .f64 0) := keep hb (by first | exact z4_0 | go_keep); replace z4_1 : w8.cell? ⟨w.heap.size + 1 + 1 + 1 + 1, 1, none⟩ = some (.float .f64 0) := keep hb (by first | exact z4_1 | go_keep); replace z4_2 : w8.cell? ⟨w.heap.size + 1 + 1 + 1 + 1, 2, none⟩ = some (.float .f64 0) := keep hb (by first | exact z4_2 | go_keep); replace z4_3 : w8.cell? ⟨w.heap.size + 1 + 1 + 1 + 1, 3, none⟩ = some (.float .f64 0) := keep hb (by first | exact z4_3 | go_keep); replace z4_4 : w8.cell? ⟨w.heap.size + 1 + 1 + 1 + 1, 4, none⟩ = some (.float .f64 0) := keep hb (by first | exact z4_4 | go_keep); replace BF := bl_trans BF hb; clear hb; have fE : ∀ o, w8.frozen? ⟨w.heap.size + 1 + 1 + 1 + 1, o, none⟩ = false := fun o => (BF.2 _).trans (fR o)))
          obtain ⟨X, hX, r0, r1, r2, r3, r4, -, bX⟩ := put5_all (p := .float .f64 nf9) (q := .float .f64 na9) (r := .float .f64 nb9) (s := .float .f64 nc9) (t := .float .f64 nd9) z4_0 z4_1 z4_2 z4_3 z4_4
          rw [← hX]
          refine bodyPost_ret (v := .agg #[.float .f64 nf9, .float .f64 na9, .float .f64 nb9, .float .f64 nc9, .float .f64 nd9]) (by simp [r0, r1, r2, r3, r4, results, Try.results24, go_sem] <;> (first | exact ⟨rfl, rfl, rfl, rfl, rfl⟩ | rfl)) rfl ⟨_, _, _, _, _, by rw [e0]; exact hN, rfl, bX _ (bl_trans B0 BF) (by omega)⟩
        · have e0 : segF A B C D = endF A B C D := by unfold segF acF; rw [q1, q2]; rfl
          go_wp2_with (first | (go_at_call 46; with_reducible refine (opposed_n _ hs0 ht0).mono ?_; rintro e w' ⟨rfl, rfl⟩; rw [q1]) | (go_at_call 46; with_reducible refine (opposed_n _ hu0 hv0).mono ?_; rintro e w' ⟨rfl, rfl⟩; rw [q2]) | (go_at_call 47; refine (fromEnds_n _ ha hb_ hc_ hd_).mono ?_; rintro e w8 ⟨nf9, na9, nb9, nc9, nd9, hN, rfl, hb⟩; replace z4_0 : w8.cell? ⟨w.heap.size + 1 + 1 + 1 + 1, 0, none⟩ = some (.float .f64 0) := keep hb (by first | exact z4_0 | go_keep); replace z4_1 : w8.cell? ⟨w.heap.size + 1 + 1 + 1 + 1, 1, none⟩ = some (.float .f64 0) := keep hb (by first | exact z4_1 | go_keep); replace z4_2 : w8.cell? ⟨w.heap.size + 1 + 1 + 1 + 1, 2, none⟩ = some (.float .f64 0) := keep hb (by first | exact z4_2 | go_keep); replace z4_3 : w8.cell? ⟨w.heap.size + 1 + 1 + 1 + 1, 3, none⟩ = some (.float .f64 0) := keep hb (by first | exact z4_3 | go_keep); replace z4_4 : w8.cell? ⟨w.heap.size + 1 + 1 + 1 + 1, 4, none⟩ = some (.float .f64 0) := keep hb (by first | exact z4_4 | go_keep); replace BF := bl_trans BF hb; clear hb; have fE : ∀ o, w8.frozen? ⟨w.heap.size + 1 + 1 + 1 + 1, o, none⟩ = false := fun o => (BF.2 _).trans (fR o)))
          obtain ⟨X, hX, r0, r1, r2, r3, r4, -, bX⟩ := put5_all (p := .float .f64 nf9) (q := .float .f64 na9) (r := .float .f64 nb9) (s := .float .f64 nc9) (t := .float .f64 nd9) z4_0 z4_1 z4_2 z4_3 z4_4
          rw [← hX]
          refine bodyPost_ret (v := .agg #[.float .f64 nf9, .float .f64 na9, .float .f64 nb9, .float .f64 nc9, .float .f64 nd9]) (by simp [r0, r1, r2, r3, r4, results, Try.results24, go_sem] <;> (first | exact ⟨rfl, rfl, rfl, rfl, rfl⟩ | rfl)) rfl ⟨_, _, _, _, _, by rw [e0]; exact hN, rfl, bX _ (bl_trans B0 BF) (by omega)⟩

end Go.Proofs.Ythbdckjfekimdab
