/-
  What each function of package poly answers, and what the reference of its chapter answers: one contract a function, for every float: the answer stands in the relation of its formula to what was given; of the memory that was there nothing has turned.
-/
import Derived.Test.YtpnkmflkjokhlaaVec
import Derived.Test.YtpnkmflkjokhlaaNd
import Derived.Test.YtpnkmflkjokhlaaNe
import Derived.Below
import Derived.WalkKit
import Derived.WalkLawsBesides
import Derived.WalkSpells
import Derived.ProofKit
import Derived.OpenShut
import Derived.Deep.RegionHeld3
namespace Go.Proofs.Ytpnkmflkjokhlaa
open Go.ChangeShapes Go.WideShapes Go.ChangeAt Go.RowKit
set_option linter.unusedVariables false
set_option linter.unusedSimpArgs false


def sel4 {α : Type} (a b c d : α) : Nat → α
  | 0 => a
  | 1 => b
  | 2 => c
  | _ => d
theorem bF_step {A B C D : Vp} (m : Nat) (hm : m < 3) : bF A B C D (m + 1) = nrF (bF A B C D m) (apN (sel4 A B (ptF A B C).1 (ptF A B D).1 (m + 1)) (sel4 (ptF C D A).1 (ptF C D B).1 C D (m + 1))) := by
  rcases (show m = 0 ∨ m = 1 ∨ m = 2 by omega) with rfl | rfl | rfl <;> rfl

set_option maxRecDepth 100000 in
set_option maxHeartbeats 8000000 in
theorem rsegments_n {ax ay bx b_y cx cy dx dy : Nat} {A B C D : Vp} (w : World) (ha : isP ax ay A) (hb_ : isP bx b_y B) (hc_ : isP cx cy C) (hd_ : isP dx dy D) : Calls Try.prog 14 #[.agg #[.float .f64 ax, .float .f64 ay], .agg #[.float .f64 bx, .float .f64 b_y], .agg #[.float .f64 cx, .float .f64 cy], .agg #[.float .f64 dx, .float .f64 dy]] w fun e w' => ∃ nf9 na9 nb9 nc9 nd9, isN nf9 na9 nb9 nc9 nd9 (segF A B C D) ∧ e = .returned (.agg #[.float .f64 nf9, .float .f64 na9, .float .f64 nb9, .float .f64 nc9, .float .f64 nd9]) ∧ Bel w w' := by
  have z0_0 : (w.alloc (.cells #[.float .f64 ax, .float .f64 ay] 24)).cell? ⟨w.heap.size, 0, none⟩ = some (.float .f64 ax) := by rw [World.cell?_alloc_new]; rfl
  replace z0_0 := up_alloc (o := .cells #[.float .f64 bx, .float .f64 b_y] 24) z0_0
  replace z0_0 := up_alloc (o := .cells #[.float .f64 cx, .float .f64 cy] 24) z0_0
  replace z0_0 := up_alloc (o := .cells #[.float .f64 dx, .float .f64 dy] 24) z0_0
  replace z0_0 := up_alloc (o := .cells #[.float .f64 0, .float .f64 0, .float .f64 0, .float .f64 0, .float .f64 0] 33) z0_0
  have z0_1 : (w.alloc (.cells #[.float .f64 ax, .float .f64 ay] 24)).cell? ⟨w.heap.size, 1, none⟩ = some (.float .f64 ay) := by rw [World.cell?_alloc_new]; rfl
  replace z0_1 := up_alloc (o := .cells #[.float .f64 bx, .float .f64 b_y] 24) z0_1
  replace z0_1 := up_alloc (o := .cells #[.float .f64 cx, .float .f64 cy] 24) z0_1
  replace z0_1 := up_alloc (o := .cells #[.float .f64 dx, .float .f64 dy] 24) z0_1
  replace z0_1 := up_alloc (o := .cells #[.float .f64 0, .float .f64 0, .float .f64 0, .float .f64 0, .float .f64 0] 33) z0_1
  have z1_0 : ((w.alloc (.cells #[.float .f64 ax, .float .f64 ay] 24)).alloc (.cells #[.float .f64 bx, .float .f64 b_y] 24)).cell? ⟨w.heap.size + 1, 0, none⟩ = some (.float .f64 bx) := by rw [← (show (w.alloc (.cells #[.float .f64 ax, .float .f64 ay] 24)).heap.size = w.heap.size + 1 by simp only [World.size_alloc]), World.cell?_alloc_new]; rfl
  replace z1_0 := up_alloc (o := .cells #[.float .f64 cx, .float .f64 cy] 24) z1_0
  replace z1_0 := up_alloc (o := .cells #[.float .f64 dx, .float .f64 dy] 24) z1_0
  replace z1_0 := up_alloc (o := .cells #[.float .f64 0, .float .f64 0, .float .f64 0, .float .f64 0, .float .f64 0] 33) z1_0
  have z1_1 : ((w.alloc (.cells #[.float .f64 ax, .float .f64 ay] 24)).alloc (.cells #[.float .f64 bx, .float .f64 b_y] 24)).cell? ⟨w.heap.size + 1, 1, none⟩ = some (.float .f64 b_y) := by rw [← (show (w.alloc (.cells #[.float .f64 ax, .float .f64 ay] 24)).heap.size = w.heap.size + 1 by simp only [World.size_alloc]), World.cell?_alloc_new]; rfl
  replace z1_1 := up_alloc (o := .cells #[.float .f64 cx, .float .f64 cy] 24) z1_1
  replace z1_1 := up_alloc (o := .cells #[.float .f64 dx, .float .f64 dy] 24) z1_1
  replace z1_1 := up_alloc (o := .cells #[.float .f64 0, .float .f64 0, .float .f64 0, .float .f64 0, .float .f64 0] 33) z1_1
  have z2_0 : (((w.alloc (.cells #[.float .f64 ax, .float .f64 ay] 24)).alloc (.cells #[.float .f64 bx, .float .f64 b_y] 24)).alloc (.cells #[.float .f64 cx, .float .f64 cy] 24)).cell? ⟨w.heap.size + 1 + 1, 0, none⟩ = some (.float .f64 cx) := by rw [← (show ((w.alloc (.cells #[.float .f64 ax, .float .f64 ay] 24)).alloc (.cells #[.float .f64 bx, .float .f64 b_y] 24)).heap.size = w.heap.size + 1 + 1 by simp only [World.size_alloc]), World.cell?_alloc_new]; rfl
  replace z2_0 := up_alloc (o := .cells #[.float .f64 dx, .float .f64 dy] 24) z2_0
  replace z2_0 := up_alloc (o := .cells #[.float .f64 0, .float .f64 0, .float .f64 0, .float .f64 0, .float .f64 0] 33) z2_0
  have z2_1 : (((w.alloc (.cells #[.float .f64 ax, .float .f64 ay] 24)).alloc (.cells #[.float .f64 bx, .float .f64 b_y] 24)).alloc (.cells #[.float .f64 cx, .float .f64 cy] 24)).cell? ⟨w.heap.size + 1 + 1, 1, none⟩ = some (.float .f64 cy) := by rw [← (show ((w.alloc (.cells #[.float .f64 ax, .float .f64 ay] 24)).alloc (.cells #[.float .f64 bx, .float .f64 b_y] 24)).heap.size = w.heap.size + 1 + 1 by simp only [World.size_alloc]), World.cell?_alloc_new]; rfl
  replace z2_1 := up_alloc (o := .cells #[.float .f64 dx, .float .f64 dy] 24) z2_1
  replace z2_1 := up_alloc (o := .cells #[.float .f64 0, .float .f64 0, .float .f64 0, .float .f64 0, .float .f64 0] 33) z2_1
  have z3_0 : ((((w.alloc (.cells #[.float .f64 ax, .float .f64 ay] 24)).alloc (.cells #[.float .f64 bx, .float .f64 b_y] 24)).alloc (.cells #[.float .f64 cx, .float .f64 cy] 24)).alloc (.cells #[.float .f64 dx, .float .f64 dy] 24)).cell? ⟨w.heap.size + 1 + 1 + 1, 0, none⟩ = some (.float .f64 dx) := by rw [← (show (((w.alloc (.cells #[.float .f64 ax, .float .f64 ay] 24)).alloc (.cells #[.float .f64 bx, .float .f64 b_y] 24)).alloc (.cells #[.float .f64 cx, .float .f64 cy] 24)).heap.size = w.heap.size + 1 + 1 + 1 by simp only [World.size_alloc]), World.cell?_alloc_new]; rfl
  replace z3_0 := up_alloc (o := .cells #[.float .f64 0, .float .f64 0, .float .f64 0, .float .f64 0, .float .f64 0] 33) z3_0
  have z3_1 : ((((w.alloc (.cells #[.float .f64 ax, .float .f64 ay] 24)).alloc (.cells #[.float .f64 bx, .float .f64 b_y] 24)).alloc (.cells #[.float .f64 cx, .float .f64 cy] 24)).alloc (.cells #[.float .f64 dx, .float .f64 dy] 24)).cell? ⟨w.heap.size + 1 + 1 + 1, 1, none⟩ = some (.float .f64 dy) := by rw [← (show (((w.alloc (.cells #[.float .f64 ax, .float .f64 ay] 24)).alloc (.cells #[.float .f64 bx, .float .f64 b_y] 24)).alloc (.cells #[.float .f64 cx, .float .f64 cy] 24)).heap.size = w.heap.size + 1 + 1 + 1 by simp only [World.size_alloc]), World.cell?_alloc_new]; rfl
  replace z3_1 := up_alloc (o := .cells #[.float .f64 0, .float .f64 0, .float .f64 0, .float .f64 0, .float .f64 0] 33) z3_1
  have z4_0 : (((((w.alloc (.cells #[.float .f64 ax, .float .f64 ay] 24)).alloc (.cells #[.float .f64 bx, .float .f64 b_y] 24)).alloc (.cells #[.float .f64 cx, .float .f64 cy] 24)).alloc (.cells #[.float .f64 dx, .float .f64 dy] 24)).alloc (.cells #[.float .f64 0, .float .f64 0, .float .f64 0, .float .f64 0, .float .f64 0] 33)).cell? ⟨w.heap.size + 1 + 1 + 1 + 1, 0, none⟩ = some (.float .f64 0) := by rw [← (show ((((w.alloc (.cells #[.float .f64 ax, .float .f64 ay] 24)).alloc (.cells #[.float .f64 bx, .float .f64 b_y] 24)).alloc (.cells #[.float .f64 cx, .float .f64 cy] 24)).alloc (.cells #[.float .f64 dx, .float .f64 dy] 24)).heap.size = w.heap.size + 1 + 1 + 1 + 1 by simp only [World.size_alloc]), World.cell?_alloc_new]; rfl
  have z4_1 : (((((w.alloc (.cells #[.float .f64 ax, .float .f64 ay] 24)).alloc (.cells #[.float .f64 bx, .float .f64 b_y] 24)).alloc (.cells #[.float .f64 cx, .float .f64 cy] 24)).alloc (.cells #[.float .f64 dx, .float .f64 dy] 24)).alloc (.cells #[.float .f64 0, .float .f64 0, .float .f64 0, .float .f64 0, .float .f64 0] 33)).cell? ⟨w.heap.size + 1 + 1 + 1 + 1, 1, none⟩ = some (.float .f64 0) := by rw [← (show ((((w.alloc (.cells #[.float .f64 ax, .float .f64 ay] 24)).alloc (.cells #[.float .f64 bx, .float .f64 b_y] 24)).alloc (.cells #[.float .f64 cx, .float .f64 cy] 24)).alloc (.cells #[.float .f64 dx, .float .f64 dy] 24)).heap.size = w.heap.size + 1 + 1 + 1 + 1 by simp only [World.size_alloc]), World.cell?_alloc_new]; rfl
  have z4_2 : (((((w.alloc (.cells #[.float .f64 ax, .float .f64 ay] 24)).alloc (.cells #[.float .f64 bx, .float .f64 b_y] 24)).alloc (.cells #[.float .f64 cx, .float .f64 cy] 24)).alloc (.cells #[.float .f64 dx, .float .f64 dy] 24)).alloc (.cells #[.float .f64 0, .float .f64 0, .float .f64 0, .float .f64 0, .float .f64 0] 33)).cell? ⟨w.heap.size + 1 + 1 + 1 + 1, 2, none⟩ = some (.float .f64 0) := by rw [← (show ((((w.alloc (.cells #[.float .f64 ax, .float .f64 ay] 24)).alloc (.cells #[.float .f64 bx, .float .f64 b_y] 24)).alloc (.cells #[.float .f64 cx, .float .f64 cy] 24)).alloc (.cells #[.float .f64 dx, .float .f64 dy] 24)).heap.size = w.heap.size + 1 + 1 + 1 + 1 by simp only [World.size_alloc]), World.cell?_alloc_new]; rfl
  have z4_3 : (((((w.alloc (.cells #[.float .f64 ax, .float .f64 ay] 24)).alloc (.cells #[.float .f64 bx, .float .f64 b_y] 24)).alloc (.cells #[.float .f64 cx, .float .f64 cy] 24)).alloc (.cells #[.float .f64 dx, .float .f64 dy] 24)).alloc (.cells #[.float .f64 0, .float .f64 0, .float .f64 0, .float .f64 0, .float .f64 0] 33)).cell? ⟨w.heap.size + 1 + 1 + 1 + 1, 3, none⟩ = some (.float .f64 0) := by rw [← (show ((((w.alloc (.cells #[.float .f64 ax, .float .f64 ay] 24)).alloc (.cells #[.float .f64 bx, .float .f64 b_y] 24)).alloc (.cells #[.float .f64 cx, .float .f64 cy] 24)).alloc (.cells #[.float .f64 dx, .float .f64 dy] 24)).heap.size = w.heap.size + 1 + 1 + 1 + 1 by simp only [World.size_alloc]), World.cell?_alloc_new]; rfl
  have z4_4 : (((((w.alloc (.cells #[.float .f64 ax, .float .f64 ay] 24)).alloc (.cells #[.float .f64 bx, .float .f64 b_y] 24)).alloc (.cells #[.float .f64 cx, .float .f64 cy] 24)).alloc (.cells #[.float .f64 dx, .float .f64 dy] 24)).alloc (.cells #[.float .f64 0, .float .f64 0, .float .f64 0, .float .f64 0, .float .f64 0] 33)).cell? ⟨w.heap.size + 1 + 1 + 1 + 1, 4, none⟩ = some (.float .f64 0) := by rw [← (show ((((w.alloc (.cells #[.float .f64 ax, .float .f64 ay] 24)).alloc (.cells #[.float .f64 bx, .float .f64 b_y] 24)).alloc (.cells #[.float .f64 cx, .float .f64 cy] 24)).alloc (.cells #[.float .f64 dx, .float .f64 dy] 24)).heap.size = w.heap.size + 1 + 1 + 1 + 1 by simp only [World.size_alloc]), World.cell?_alloc_new]; rfl
  have B0 : Bel w (((((w.alloc (.cells #[.float .f64 ax, .float .f64 ay] 24)).alloc (.cells #[.float .f64 bx, .float .f64 b_y] 24)).alloc (.cells #[.float .f64 cx, .float .f64 cy] 24)).alloc (.cells #[.float .f64 dx, .float .f64 dy] 24)).alloc (.cells #[.float .f64 0, .float .f64 0, .float .f64 0, .float .f64 0, .float .f64 0] 33)) := bl_alloc (bl_alloc (bl_alloc (bl_alloc (bl_alloc (bl_refl w) _ _) _ _) _ _) _ _) _ _
  have fR : ∀ o, (((((w.alloc (.cells #[.float .f64 ax, .float .f64 ay] 24)).alloc (.cells #[.float .f64 bx, .float .f64 b_y] 24)).alloc (.cells #[.float .f64 cx, .float .f64 cy] 24)).alloc (.cells #[.float .f64 dx, .float .f64 dy] 24)).alloc (.cells #[.float .f64 0, .float .f64 0, .float .f64 0, .float .f64 0, .float .f64 0] 33)).frozen? ⟨w.heap.size + 1 + 1 + 1 + 1, o, none⟩ = false := fun o => ((show Bel ((((w.alloc (.cells #[.float .f64 ax, .float .f64 ay] 24)).alloc (.cells #[.float .f64 bx, .float .f64 b_y] 24)).alloc (.cells #[.float .f64 cx, .float .f64 cy] 24)).alloc (.cells #[.float .f64 dx, .float .f64 dy] 24)) (((((w.alloc (.cells #[.float .f64 ax, .float .f64 ay] 24)).alloc (.cells #[.float .f64 bx, .float .f64 b_y] 24)).alloc (.cells #[.float .f64 cx, .float .f64 cy] 24)).alloc (.cells #[.float .f64 dx, .float .f64 dy] 24)).alloc (.cells #[.float .f64 0, .float .f64 0, .float .f64 0, .float .f64 0, .float .f64 0] 33)) by repeat (first | exact bl_refl _ | apply bl_alloc)).2 _).trans (fresh_frozen (by simp only [World.size_alloc]; exact Nat.le_refl _))
  go_enter Try.func14, Try.ntmps14
  go_wp2
  refine wp_region_new 10 rfl (fun i v => match i with | 0 => v = .agg #[.float .f64 bx, .float .f64 b_y] | 1 => v = .agg #[.float .f64 ax, .float .f64 ay] | 2 => ∃ x y, isP x y (suF B A) ∧ v = .agg #[.float .f64 x, .float .f64 y] | 3 => v = .agg #[.float .f64 dx, .float .f64 dy] | 4 => v = .agg #[.float .f64 cx, .float .f64 cy] | 5 => ∃ x y, isP x y (suF D C) ∧ v = .agg #[.float .f64 x, .float .f64 y] | _ => False) [(6, #[.float .f64 0, .float .f64 0], 24), (7, #[.float .f64 0, .float .f64 0], 24)] [(8, 6, 2), (9, 7, 5)] ?A_wn (by kernel_rfl) (by kernel_rfl) ?hA_wn ?ha_wn ?hst_wn ?hq_wn ?ht_wn
  case hA_wn =>
    intro s
    simp only [putL, dstO, Act.put, List.getElem?_toArray, List.getElem?_cons_zero, List.getElem?_cons_succ, Option.bind_some, List.setIfInBounds_toArray, List.set_cons_zero, List.set_cons_succ, if_true]
    all_goals exact rfl
  case ha_wn =>
    intro i o c ty hi ho hal B W K hK
    rcases (show i = 0 ∨ i = 1 ∨ i = 2 ∨ i = 3 ∨ i = 4 ∨ i = 5 ∨ i = 6 ∨ i = 7 ∨ i = 8 ∨ i = 9 by omega) with rfl | rfl | rfl | rfl | rfl | rfl | rfl | rfl | rfl | rfl
    · cases (show none = some (c, ty) from hal)
    · cases (show none = some (c, ty) from hal)
    · cases (show none = some (c, ty) from hal)
    · cases (show none = some (c, ty) from hal)
    · cases (show none = some (c, ty) from hal)
    · cases (show none = some (c, ty) from hal)
    · cases ho; cases (show some (#[.float .f64 0, .float .f64 0], 24) = some (c, ty) from hal); go_simp; exact hK.out
    · cases ho; cases (show some (#[.float .f64 0, .float .f64 0], 24) = some (c, ty) from hal); go_simp; exact hK.out
    · cases (show none = some (c, ty) from hal)
    · cases (show none = some (c, ty) from hal)
  case hst_wn =>
    intro t o a d c ty hlt ho hts hal s hs W b eb hc hf K hK
    rcases (show t = 0 ∨ t = 1 ∨ t = 2 ∨ t = 3 ∨ t = 4 ∨ t = 5 ∨ t = 6 ∨ t = 7 ∨ t = 8 ∨ t = 9 by omega) with rfl | rfl | rfl | rfl | rfl | rfl | rfl | rfl | rfl | rfl
    · cases (show none = some (a, d) from hts)
    · cases (show none = some (a, d) from hts)
    · cases (show none = some (a, d) from hts)
    · cases (show none = some (a, d) from hts)
    · cases (show none = some (a, d) from hts)
    · cases (show none = some (a, d) from hts)
    · cases (show none = some (a, d) from hts)
    · cases (show none = some (a, d) from hts)
    · cases ho; cases (show some (6, 2) = some (a, d) from hts); cases (show some (#[.float .f64 0, .float .f64 0], 24) = some (c, ty) from hal)
      obtain ⟨ex, ey, he, e2⟩ := hs 2 (by decide) rfl rfl (by kernel_rfl)
      obtain ⟨u0, hu0⟩ := Option.isSome_iff_exists.1 (hc 0 (by decide))
      obtain ⟨u1, hu1⟩ := Option.isSome_iff_exists.1 (hc 1 (by decide))
      simp only [eb, e2] at hK ⊢
      clear hs
      go_simp
      exact hK.out
    · cases ho; cases (show some (7, 5) = some (a, d) from hts); cases (show some (#[.float .f64 0, .float .f64 0], 24) = some (c, ty) from hal)
      obtain ⟨fx, fy, hf, e5⟩ := hs 5 (by decide) rfl rfl (by kernel_rfl)
      obtain ⟨u0, hu0⟩ := Option.isSome_iff_exists.1 (hc 0 (by decide))
      obtain ⟨u1, hu1⟩ := Option.isSome_iff_exists.1 (hc 1 (by decide))
      simp only [eb, e5] at hK ⊢
      clear hs
      go_simp
      exact hK.out
  case hq_wn =>
    intro i o hi hal hts ho s hs W hb K hK
    have uz0_0 := keep hb z0_0; have uz0_1 := keep hb z0_1; have uz1_0 := keep hb z1_0; have uz1_1 := keep hb z1_1; have uz2_0 := keep hb z2_0; have uz2_1 := keep hb z2_1; have uz3_0 := keep hb z3_0; have uz3_1 := keep hb z3_1; have uz4_0 := keep hb z4_0; have uz4_1 := keep hb z4_1; have uz4_2 := keep hb z4_2; have uz4_3 := keep hb z4_3; have uz4_4 := keep hb z4_4
    rcases (show i = 0 ∨ i = 1 ∨ i = 2 ∨ i = 3 ∨ i = 4 ∨ i = 5 ∨ i = 6 ∨ i = 7 ∨ i = 8 ∨ i = 9 by omega) with rfl | rfl | rfl | rfl | rfl | rfl | rfl | rfl | rfl | rfl
    · cases ho
      simp only [Act.put, List.setIfInBounds_toArray, List.set_cons_zero, List.set_cons_succ] at hK
      clear hs hal hts
      go_simp
      all_goals (try go_wp2_with (first | (go_at_call 40; with_reducible refine (minus_n _ hb_ ha).mono ?_; rintro e w' ⟨x, y, h2, rfl, hb1⟩) | (go_at_call 40; with_reducible refine (minus_n _ hd_ hc_).mono ?_; rintro e w' ⟨x, y, h2, rfl, hb1⟩)))
      all_goals first | exact hK.out _ _ ⟨_, _, h2, rfl⟩ hb1 | exact hK.out _ _ rfl (bl_refl _) | exact hK.out _ _ rfl (by assumption) | exact hK.out _ _ (by assumption) (by assumption)
    · cases ho
      simp only [Act.put, List.setIfInBounds_toArray, List.set_cons_zero, List.set_cons_succ] at hK
      clear hs hal hts
      go_simp
      all_goals (try go_wp2_with (first | (go_at_call 40; with_reducible refine (minus_n _ hb_ ha).mono ?_; rintro e w' ⟨x, y, h2, rfl, hb1⟩) | (go_at_call 40; with_reducible refine (minus_n _ hd_ hc_).mono ?_; rintro e w' ⟨x, y, h2, rfl, hb1⟩)))
      all_goals first | exact hK.out _ _ ⟨_, _, h2, rfl⟩ hb1 | exact hK.out _ _ rfl (bl_refl _) | exact hK.out _ _ rfl (by assumption) | exact hK.out _ _ (by assumption) (by assumption)
    · cases ho
      have e0 : s 0 = _ := hs 0 (by decide) rfl rfl (by kernel_rfl)
      have e1 : s 1 = _ := hs 1 (by decide) rfl rfl (by kernel_rfl)
      simp only [e0, e1] at hK ⊢
      simp only [Act.put, List.setIfInBounds_toArray, List.set_cons_zero, List.set_cons_succ] at hK
      clear hs hal hts
      go_simp
      all_goals (try go_wp2_with (first | (go_at_call 40; with_reducible refine (minus_n _ hb_ ha).mono ?_; rintro e w' ⟨x, y, h2, rfl, hb1⟩) | (go_at_call 40; with_reducible refine (minus_n _ hd_ hc_).mono ?_; rintro e w' ⟨x, y, h2, rfl, hb1⟩)))
      all_goals first | exact hK.out _ _ ⟨_, _, h2, rfl⟩ hb1 | exact hK.out _ _ rfl (bl_refl _) | exact hK.out _ _ rfl (by assumption) | exact hK.out _ _ (by assumption) (by assumption)
    · cases ho
      simp only [Act.put, List.setIfInBounds_toArray, List.set_cons_zero, List.set_cons_succ] at hK
      clear hs hal hts
      go_simp
      all_goals (try go_wp2_with (first | (go_at_call 40; with_reducible refine (minus_n _ hb_ ha).mono ?_; rintro e w' ⟨x, y, h2, rfl, hb1⟩) | (go_at_call 40; with_reducible refine (minus_n _ hd_ hc_).mono ?_; rintro e w' ⟨x, y, h2, rfl, hb1⟩)))
      all_goals first | exact hK.out _ _ ⟨_, _, h2, rfl⟩ hb1 | exact hK.out _ _ rfl (bl_refl _) | exact hK.out _ _ rfl (by assumption) | exact hK.out _ _ (by assumption) (by assumption)
    · cases ho
      simp only [Act.put, List.setIfInBounds_toArray, List.set_cons_zero, List.set_cons_succ] at hK
      clear hs hal hts
      go_simp
      all_goals (try go_wp2_with (first | (go_at_call 40; with_reducible refine (minus_n _ hb_ ha).mono ?_; rintro e w' ⟨x, y, h2, rfl, hb1⟩) | (go_at_call 40; with_reducible refine (minus_n _ hd_ hc_).mono ?_; rintro e w' ⟨x, y, h2, rfl, hb1⟩)))
      all_goals first | exact hK.out _ _ ⟨_, _, h2, rfl⟩ hb1 | exact hK.out _ _ rfl (bl_refl _) | exact hK.out _ _ rfl (by assumption) | exact hK.out _ _ (by assumption) (by assumption)
    · cases ho
      have e3 : s 3 = _ := hs 3 (by decide) rfl rfl (by kernel_rfl)
      have e4 : s 4 = _ := hs 4 (by decide) rfl rfl (by kernel_rfl)
      simp only [e3, e4] at hK ⊢
      simp only [Act.put, List.setIfInBounds_toArray, List.set_cons_zero, List.set_cons_succ] at hK
      clear hs hal hts
      go_simp
      all_goals (try go_wp2_with (first | (go_at_call 40; with_reducible refine (minus_n _ hb_ ha).mono ?_; rintro e w' ⟨x, y, h2, rfl, hb1⟩) | (go_at_call 40; with_reducible refine (minus_n _ hd_ hc_).mono ?_; rintro e w' ⟨x, y, h2, rfl, hb1⟩)))
      all_goals first | exact hK.out _ _ ⟨_, _, h2, rfl⟩ hb1 | exact hK.out _ _ rfl (bl_refl _) | exact hK.out _ _ rfl (by assumption) | exact hK.out _ _ (by assumption) (by assumption)
    · cases (show some _ = none from hal)
    · cases (show some _ = none from hal)
    · cases (show some _ = none from hts)
    · cases (show some _ = none from hts)
  case ht_wn =>
    intro s hs W hb hJ
    have e0 : s 0 = _ := hs 0 (by decide) rfl rfl
    have e1 : s 1 = _ := hs 1 (by decide) rfl rfl
    obtain ⟨ex, ey, he, e2⟩ := hs 2 (by decide) rfl rfl
    have e3 : s 3 = _ := hs 3 (by decide) rfl rfl
    have e4 : s 4 = _ := hs 4 (by decide) rfl rfl
    obtain ⟨fx, fy, hf, e5⟩ := hs 5 (by decide) rfl rfl
    obtain ⟨p6, e6, n6, l6, cl6⟩ := hJ.1 6 _ _ (by decide) rfl rfl
    have k_p6_0 : W.cell? ⟨p6, 0, none⟩ = some (cellAt (s 2) 0) := cl6 0 (by decide)
    have k_p6_1 : W.cell? ⟨p6, 1, none⟩ = some (cellAt (s 2) 1) := cl6 1 (by decide)
    rw [e2] at k_p6_0 k_p6_1
    simp only [cellAt] at k_p6_0 k_p6_1
    obtain ⟨p7, e7, n7, l7, cl7⟩ := hJ.1 7 _ _ (by decide) rfl rfl
    have k_p7_0 : W.cell? ⟨p7, 0, none⟩ = some (cellAt (s 5) 0) := cl7 0 (by decide)
    have k_p7_1 : W.cell? ⟨p7, 1, none⟩ = some (cellAt (s 5) 1) := cl7 1 (by decide)
    rw [e5] at k_p7_0 k_p7_1
    simp only [cellAt] at k_p7_0 k_p7_1
    have ne67 : p6 ≠ p7 := fun h => hJ.2 6 7 (by decide) (by decide) (by decide) rfl rfl rfl rfl (by rw [e6, e7, h])
    simp only [e0, e1, e2, e3, e4, e5, e6, e7]
    clear hs hJ e0 e1 e2 e3 e4 e5 e6 e7 cl6 cl7
    replace z0_0 := keep hb z0_0; replace z0_1 := keep hb z0_1; replace z1_0 := keep hb z1_0; replace z1_1 := keep hb z1_1; replace z2_0 := keep hb z2_0; replace z2_1 := keep hb z2_1; replace z3_0 := keep hb z3_0; replace z3_1 := keep hb z3_1; replace z4_0 := keep hb z4_0; replace z4_1 := keep hb z4_1; replace z4_2 := keep hb z4_2; replace z4_3 := keep hb z4_3; replace z4_4 := keep hb z4_4
    have BF := hb
    clear hb
    go_wp2
    refine wp_region_mono 12 rfl (fun i W v => match i with | 0 => v = .agg #[.float .f64 ex, .float .f64 ey] | 1 => v = .agg #[.float .f64 cx, .float .f64 cy] | 2 => v = .agg #[.float .f64 ax, .float .f64 ay] | 3 => ∃ x y, isP x y (suF C A) ∧ v = .agg #[.float .f64 x, .float .f64 y] | 4 => ∃ r, isF r (crF (suF B A) (suF C A)) ∧ v = .float .f64 r | 5 => v = .agg #[.float .f64 ex, .float .f64 ey] | 6 => v = .agg #[.float .f64 dx, .float .f64 dy] | 7 => v = .agg #[.float .f64 ax, .float .f64 ay] | 8 => ∃ x y, isP x y (suF D A) ∧ v = .agg #[.float .f64 x, .float .f64 y] | 9 => ∃ r, isF r (crF (suF B A) (suF D A)) ∧ v = .float .f64 r | 10 => ∃ r, isF r (crF (suF B A) (suF C A)) ∧ v = .float .f64 r | 11 => ∃ r, isF r (crF (suF B A) (suF D A)) ∧ v = .float .f64 r | _ => False) ?A_wm (by kernel_rfl) (by kernel_rfl) ?hA_wm ?hmo_wm ?hq_wm ?ht_wm
    case hA_wm =>
      intro s
      simp only [putL, dstO, Act.put, List.getElem?_toArray, List.getElem?_cons_zero, List.getElem?_cons_succ, Option.bind_some, List.setIfInBounds_toArray, List.set_cons_zero, List.set_cons_succ, if_true]
      all_goals exact rfl
    case hmo_wm =>
      intro i W W' v hi hb h
      rcases (show i = 0 ∨ i = 1 ∨ i = 2 ∨ i = 3 ∨ i = 4 ∨ i = 5 ∨ i = 6 ∨ i = 7 ∨ i = 8 ∨ i = 9 ∨ i = 10 ∨ i = 11 by omega) with rfl | rfl | rfl | rfl | rfl | rfl | rfl | rfl | rfl | rfl | rfl | rfl
      all_goals first | exact h
    case hq_wm =>
      intro i o hi ho s W hs hb K hK
      have uz0_0 := keep hb z0_0; have uz0_1 := keep hb z0_1; have uz1_0 := keep hb z1_0; have uz1_1 := keep hb z1_1; have uz2_0 := keep hb z2_0; have uz2_1 := keep hb z2_1; have uz3_0 := keep hb z3_0; have uz3_1 := keep hb z3_1; have uz4_0 := keep hb z4_0; have uz4_1 := keep hb z4_1; have uz4_2 := keep hb z4_2; have uz4_3 := keep hb z4_3; have uz4_4 := keep hb z4_4; have uk_p6_0 := keep hb k_p6_0; have uk_p6_1 := keep hb k_p6_1; have uk_p7_0 := keep hb k_p7_0; have uk_p7_1 := keep hb k_p7_1
      rcases (show i = 0 ∨ i = 1 ∨ i = 2 ∨ i = 3 ∨ i = 4 ∨ i = 5 ∨ i = 6 ∨ i = 7 ∨ i = 8 ∨ i = 9 ∨ i = 10 ∨ i = 11 by omega) with rfl | rfl | rfl | rfl | rfl | rfl | rfl | rfl | rfl | rfl | rfl | rfl
      · cases ho
        simp only [Act.put, List.setIfInBounds_toArray, List.set_cons_zero, List.set_cons_succ] at hK
        clear hs
        go_simp
        all_goals (try go_wp2_with (first | (go_at_call 40; with_reducible refine (minus_n _ hc_ ha).mono ?_; rintro e w' ⟨x, y, h3, rfl, hb1⟩) | (go_at_call 40; with_reducible refine (minus_n _ hd_ ha).mono ?_; rintro e w' ⟨x, y, h8, rfl, hb1⟩) | (go_at_call 49; with_reducible refine (cross_n _ he h3).mono ?_; rintro e w' ⟨r, h4, rfl, hb1⟩) | (go_at_call 49; with_reducible refine (cross_n _ he h8).mono ?_; rintro e w' ⟨r, h9, rfl, hb1⟩)))
        all_goals first | exact hK.out _ _ ⟨_, _, h3, rfl⟩ hb1 | exact hK.out _ _ ⟨_, _, h8, rfl⟩ hb1 | exact hK.out _ _ ⟨_, h4, rfl⟩ hb1 | exact hK.out _ _ ⟨_, h9, rfl⟩ hb1 | exact hK.out _ _ ⟨_, h4, rfl⟩ (bl_refl _) | exact hK.out _ _ ⟨_, h9, rfl⟩ (bl_refl _) | exact hK.out _ _ rfl (bl_refl _) | exact hK.out _ _ rfl (by assumption) | exact hK.out _ _ (by assumption) (by assumption)
      · cases ho
        simp only [Act.put, List.setIfInBounds_toArray, List.set_cons_zero, List.set_cons_succ] at hK
        clear hs
        go_simp
        all_goals (try go_wp2_with (first | (go_at_call 40; with_reducible refine (minus_n _ hc_ ha).mono ?_; rintro e w' ⟨x, y, h3, rfl, hb1⟩) | (go_at_call 40; with_reducible refine (minus_n _ hd_ ha).mono ?_; rintro e w' ⟨x, y, h8, rfl, hb1⟩) | (go_at_call 49; with_reducible refine (cross_n _ he h3).mono ?_; rintro e w' ⟨r, h4, rfl, hb1⟩) | (go_at_call 49; with_reducible refine (cross_n _ he h8).mono ?_; rintro e w' ⟨r, h9, rfl, hb1⟩)))
        all_goals first | exact hK.out _ _ ⟨_, _, h3, rfl⟩ hb1 | exact hK.out _ _ ⟨_, _, h8, rfl⟩ hb1 | exact hK.out _ _ ⟨_, h4, rfl⟩ hb1 | exact hK.out _ _ ⟨_, h9, rfl⟩ hb1 | exact hK.out _ _ ⟨_, h4, rfl⟩ (bl_refl _) | exact hK.out _ _ ⟨_, h9, rfl⟩ (bl_refl _) | exact hK.out _ _ rfl (bl_refl _) | exact hK.out _ _ rfl (by assumption) | exact hK.out _ _ (by assumption) (by assumption)
      · cases ho
        simp only [Act.put, List.setIfInBounds_toArray, List.set_cons_zero, List.set_cons_succ] at hK
        clear hs
        go_simp
        all_goals (try go_wp2_with (first | (go_at_call 40; with_reducible refine (minus_n _ hc_ ha).mono ?_; rintro e w' ⟨x, y, h3, rfl, hb1⟩) | (go_at_call 40; with_reducible refine (minus_n _ hd_ ha).mono ?_; rintro e w' ⟨x, y, h8, rfl, hb1⟩) | (go_at_call 49; with_reducible refine (cross_n _ he h3).mono ?_; rintro e w' ⟨r, h4, rfl, hb1⟩) | (go_at_call 49; with_reducible refine (cross_n _ he h8).mono ?_; rintro e w' ⟨r, h9, rfl, hb1⟩)))
        all_goals first | exact hK.out _ _ ⟨_, _, h3, rfl⟩ hb1 | exact hK.out _ _ ⟨_, _, h8, rfl⟩ hb1 | exact hK.out _ _ ⟨_, h4, rfl⟩ hb1 | exact hK.out _ _ ⟨_, h9, rfl⟩ hb1 | exact hK.out _ _ ⟨_, h4, rfl⟩ (bl_refl _) | exact hK.out _ _ ⟨_, h9, rfl⟩ (bl_refl _) | exact hK.out _ _ rfl (bl_refl _) | exact hK.out _ _ rfl (by assumption) | exact hK.out _ _ (by assumption) (by assumption)
      · cases ho
        have e1 : s 1 = _ := hs 1 (by decide) (by kernel_rfl)
        have e2 : s 2 = _ := hs 2 (by decide) (by kernel_rfl)
        simp only [e1, e2] at hK ⊢
        simp only [Act.put, List.setIfInBounds_toArray, List.set_cons_zero, List.set_cons_succ] at hK
        clear hs
        go_simp
        all_goals (try go_wp2_with (first | (go_at_call 40; with_reducible refine (minus_n _ hc_ ha).mono ?_; rintro e w' ⟨x, y, h3, rfl, hb1⟩) | (go_at_call 40; with_reducible refine (minus_n _ hd_ ha).mono ?_; rintro e w' ⟨x, y, h8, rfl, hb1⟩) | (go_at_call 49; with_reducible refine (cross_n _ he h3).mono ?_; rintro e w' ⟨r, h4, rfl, hb1⟩) | (go_at_call 49; with_reducible refine (cross_n _ he h8).mono ?_; rintro e w' ⟨r, h9, rfl, hb1⟩)))
        all_goals first | exact hK.out _ _ ⟨_, _, h3, rfl⟩ hb1 | exact hK.out _ _ ⟨_, _, h8, rfl⟩ hb1 | exact hK.out _ _ ⟨_, h4, rfl⟩ hb1 | exact hK.out _ _ ⟨_, h9, rfl⟩ hb1 | exact hK.out _ _ ⟨_, h4, rfl⟩ (bl_refl _) | exact hK.out _ _ ⟨_, h9, rfl⟩ (bl_refl _) | exact hK.out _ _ rfl (bl_refl _) | exact hK.out _ _ rfl (by assumption) | exact hK.out _ _ (by assumption) (by assumption)
      · cases ho
        have e0 : s 0 = _ := hs 0 (by decide) (by kernel_rfl)
        obtain ⟨x, y, h3, e3⟩ := hs 3 (by decide) (by kernel_rfl)
        simp only [e0, e3] at hK ⊢
        simp only [Act.put, List.setIfInBounds_toArray, List.set_cons_zero, List.set_cons_succ] at hK
        clear hs
        go_simp
        all_goals (try go_wp2_with (first | (go_at_call 40; with_reducible refine (minus_n _ hc_ ha).mono ?_; rintro e w' ⟨x, y, h3, rfl, hb1⟩) | (go_at_call 40; with_reducible refine (minus_n _ hd_ ha).mono ?_; rintro e w' ⟨x, y, h8, rfl, hb1⟩) | (go_at_call 49; with_reducible refine (cross_n _ he h3).mono ?_; rintro e w' ⟨r, h4, rfl, hb1⟩) | (go_at_call 49; with_reducible refine (cross_n _ he h8).mono ?_; rintro e w' ⟨r, h9, rfl, hb1⟩)))
        all_goals first | exact hK.out _ _ ⟨_, _, h3, rfl⟩ hb1 | exact hK.out _ _ ⟨_, _, h8, rfl⟩ hb1 | exact hK.out _ _ ⟨_, h4, rfl⟩ hb1 | exact hK.out _ _ ⟨_, h9, rfl⟩ hb1 | exact hK.out _ _ ⟨_, h4, rfl⟩ (bl_refl _) | exact hK.out _ _ ⟨_, h9, rfl⟩ (bl_refl _) | exact hK.out _ _ rfl (bl_refl _) | exact hK.out _ _ rfl (by assumption) | exact hK.out _ _ (by assumption) (by assumption)
      · cases ho
        simp only [Act.put, List.setIfInBounds_toArray, List.set_cons_zero, List.set_cons_succ] at hK
        clear hs
        go_simp
        all_goals (try go_wp2_with (first | (go_at_call 40; with_reducible refine (minus_n _ hc_ ha).mono ?_; rintro e w' ⟨x, y, h3, rfl, hb1⟩) | (go_at_call 40; with_reducible refine (minus_n _ hd_ ha).mono ?_; rintro e w' ⟨x, y, h8, rfl, hb1⟩) | (go_at_call 49; with_reducible refine (cross_n _ he h3).mono ?_; rintro e w' ⟨r, h4, rfl, hb1⟩) | (go_at_call 49; with_reducible refine (cross_n _ he h8).mono ?_; rintro e w' ⟨r, h9, rfl, hb1⟩)))
        all_goals first | exact hK.out _ _ ⟨_, _, h3, rfl⟩ hb1 | exact hK.out _ _ ⟨_, _, h8, rfl⟩ hb1 | exact hK.out _ _ ⟨_, h4, rfl⟩ hb1 | exact hK.out _ _ ⟨_, h9, rfl⟩ hb1 | exact hK.out _ _ ⟨_, h4, rfl⟩ (bl_refl _) | exact hK.out _ _ ⟨_, h9, rfl⟩ (bl_refl _) | exact hK.out _ _ rfl (bl_refl _) | exact hK.out _ _ rfl (by assumption) | exact hK.out _ _ (by assumption) (by assumption)
      · cases ho
        simp only [Act.put, List.setIfInBounds_toArray, List.set_cons_zero, List.set_cons_succ] at hK
        clear hs
        go_simp
        all_goals (try go_wp2_with (first | (go_at_call 40; with_reducible refine (minus_n _ hc_ ha).mono ?_; rintro e w' ⟨x, y, h3, rfl, hb1⟩) | (go_at_call 40; with_reducible refine (minus_n _ hd_ ha).mono ?_; rintro e w' ⟨x, y, h8, rfl, hb1⟩) | (go_at_call 49; with_reducible refine (cross_n _ he h3).mono ?_; rintro e w' ⟨r, h4, rfl, hb1⟩) | (go_at_call 49; with_reducible refine (cross_n _ he h8).mono ?_; rintro e w' ⟨r, h9, rfl, hb1⟩)))
        all_goals first | exact hK.out _ _ ⟨_, _, h3, rfl⟩ hb1 | exact hK.out _ _ ⟨_, _, h8, rfl⟩ hb1 | exact hK.out _ _ ⟨_, h4, rfl⟩ hb1 | exact hK.out _ _ ⟨_, h9, rfl⟩ hb1 | exact hK.out _ _ ⟨_, h4, rfl⟩ (bl_refl _) | exact hK.out _ _ ⟨_, h9, rfl⟩ (bl_refl _) | exact hK.out _ _ rfl (bl_refl _) | exact hK.out _ _ rfl (by assumption) | exact hK.out _ _ (by assumption) (by assumption)
      · cases ho
        simp only [Act.put, List.setIfInBounds_toArray, List.set_cons_zero, List.set_cons_succ] at hK
        clear hs
        go_simp
        all_goals (try go_wp2_with (first | (go_at_call 40; with_reducible refine (minus_n _ hc_ ha).mono ?_; rintro e w' ⟨x, y, h3, rfl, hb1⟩) | (go_at_call 40; with_reducible refine (minus_n _ hd_ ha).mono ?_; rintro e w' ⟨x, y, h8, rfl, hb1⟩) | (go_at_call 49; with_reducible refine (cross_n _ he h3).mono ?_; rintro e w' ⟨r, h4, rfl, hb1⟩) | (go_at_call 49; with_reducible refine (cross_n _ he h8).mono ?_; rintro e w' ⟨r, h9, rfl, hb1⟩)))
        all_goals first | exact hK.out _ _ ⟨_, _, h3, rfl⟩ hb1 | exact hK.out _ _ ⟨_, _, h8, rfl⟩ hb1 | exact hK.out _ _ ⟨_, h4, rfl⟩ hb1 | exact hK.out _ _ ⟨_, h9, rfl⟩ hb1 | exact hK.out _ _ ⟨_, h4, rfl⟩ (bl_refl _) | exact hK.out _ _ ⟨_, h9, rfl⟩ (bl_refl _) | exact hK.out _ _ rfl (bl_refl _) | exact hK.out _ _ rfl (by assumption) | exact hK.out _ _ (by assumption) (by assumption)
      · cases ho
        have e6 : s 6 = _ := hs 6 (by decide) (by kernel_rfl)
        have e7 : s 7 = _ := hs 7 (by decide) (by kernel_rfl)
        simp only [e6, e7] at hK ⊢
        simp only [Act.put, List.setIfInBounds_toArray, List.set_cons_zero, List.set_cons_succ] at hK
        clear hs
        go_simp
        all_goals (try go_wp2_with (first | (go_at_call 40; with_reducible refine (minus_n _ hc_ ha).mono ?_; rintro e w' ⟨x, y, h3, rfl, hb1⟩) | (go_at_call 40; with_reducible refine (minus_n _ hd_ ha).mono ?_; rintro e w' ⟨x, y, h8, rfl, hb1⟩) | (go_at_call 49; with_reducible refine (cross_n _ he h3).mono ?_; rintro e w' ⟨r, h4, rfl, hb1⟩) | (go_at_call 49; with_reducible refine (cross_n _ he h8).mono ?_; rintro e w' ⟨r, h9, rfl, hb1⟩)))
        all_goals first | exact hK.out _ _ ⟨_, _, h3, rfl⟩ hb1 | exact hK.out _ _ ⟨_, _, h8, rfl⟩ hb1 | exact hK.out _ _ ⟨_, h4, rfl⟩ hb1 | exact hK.out _ _ ⟨_, h9, rfl⟩ hb1 | exact hK.out _ _ ⟨_, h4, rfl⟩ (bl_refl _) | exact hK.out _ _ ⟨_, h9, rfl⟩ (bl_refl _) | exact hK.out _ _ rfl (bl_refl _) | exact hK.out _ _ rfl (by assumption) | exact hK.out _ _ (by assumption) (by assumption)
      · cases ho
        have e5 : s 5 = _ := hs 5 (by decide) (by kernel_rfl)
        obtain ⟨x, y, h8, e8⟩ := hs 8 (by decide) (by kernel_rfl)
        simp only [e5, e8] at hK ⊢
        simp only [Act.put, List.setIfInBounds_toArray, List.set_cons_zero, List.set_cons_succ] at hK
        clear hs
        go_simp
        all_goals (try go_wp2_with (first | (go_at_call 40; with_reducible refine (minus_n _ hc_ ha).mono ?_; rintro e w' ⟨x, y, h3, rfl, hb1⟩) | (go_at_call 40; with_reducible refine (minus_n _ hd_ ha).mono ?_; rintro e w' ⟨x, y, h8, rfl, hb1⟩) | (go_at_call 49; with_reducible refine (cross_n _ he h3).mono ?_; rintro e w' ⟨r, h4, rfl, hb1⟩) | (go_at_call 49; with_reducible refine (cross_n _ he h8).mono ?_; rintro e w' ⟨r, h9, rfl, hb1⟩)))
        all_goals first | exact hK.out _ _ ⟨_, _, h3, rfl⟩ hb1 | exact hK.out _ _ ⟨_, _, h8, rfl⟩ hb1 | exact hK.out _ _ ⟨_, h4, rfl⟩ hb1 | exact hK.out _ _ ⟨_, h9, rfl⟩ hb1 | exact hK.out _ _ ⟨_, h4, rfl⟩ (bl_refl _) | exact hK.out _ _ ⟨_, h9, rfl⟩ (bl_refl _) | exact hK.out _ _ rfl (bl_refl _) | exact hK.out _ _ rfl (by assumption) | exact hK.out _ _ (by assumption) (by assumption)
      · cases ho
        obtain ⟨r, h4, e4⟩ := hs 4 (by decide) (by kernel_rfl)
        simp only [e4] at hK ⊢
        simp only [Act.put, List.setIfInBounds_toArray, List.set_cons_zero, List.set_cons_succ] at hK
        clear hs
        go_simp
        all_goals (try go_wp2_with (first | (go_at_call 40; with_reducible refine (minus_n _ hc_ ha).mono ?_; rintro e w' ⟨x, y, h3, rfl, hb1⟩) | (go_at_call 40; with_reducible refine (minus_n _ hd_ ha).mono ?_; rintro e w' ⟨x, y, h8, rfl, hb1⟩) | (go_at_call 49; with_reducible refine (cross_n _ he h3).mono ?_; rintro e w' ⟨r, h4, rfl, hb1⟩) | (go_at_call 49; with_reducible refine (cross_n _ he h8).mono ?_; rintro e w' ⟨r, h9, rfl, hb1⟩)))
        all_goals first | exact hK.out _ _ ⟨_, _, h3, rfl⟩ hb1 | exact hK.out _ _ ⟨_, _, h8, rfl⟩ hb1 | exact hK.out _ _ ⟨_, h4, rfl⟩ hb1 | exact hK.out _ _ ⟨_, h9, rfl⟩ hb1 | exact hK.out _ _ ⟨_, h4, rfl⟩ (bl_refl _) | exact hK.out _ _ ⟨_, h9, rfl⟩ (bl_refl _) | exact hK.out _ _ rfl (bl_refl _) | exact hK.out _ _ rfl (by assumption) | exact hK.out _ _ (by assumption) (by assumption)
      · cases ho
        obtain ⟨r, h9, e9⟩ := hs 9 (by decide) (by kernel_rfl)
        simp only [e9] at hK ⊢
        simp only [Act.put, List.setIfInBounds_toArray, List.set_cons_zero, List.set_cons_succ] at hK
        clear hs
        go_simp
        all_goals (try go_wp2_with (first | (go_at_call 40; with_reducible refine (minus_n _ hc_ ha).mono ?_; rintro e w' ⟨x, y, h3, rfl, hb1⟩) | (go_at_call 40; with_reducible refine (minus_n _ hd_ ha).mono ?_; rintro e w' ⟨x, y, h8, rfl, hb1⟩) | (go_at_call 49; with_reducible refine (cross_n _ he h3).mono ?_; rintro e w' ⟨r, h4, rfl, hb1⟩) | (go_at_call 49; with_reducible refine (cross_n _ he h8).mono ?_; rintro e w' ⟨r, h9, rfl, hb1⟩)))
        all_goals first | exact hK.out _ _ ⟨_, _, h3, rfl⟩ hb1 | exact hK.out _ _ ⟨_, _, h8, rfl⟩ hb1 | exact hK.out _ _ ⟨_, h4, rfl⟩ hb1 | exact hK.out _ _ ⟨_, h9, rfl⟩ hb1 | exact hK.out _ _ ⟨_, h4, rfl⟩ (bl_refl _) | exact hK.out _ _ ⟨_, h9, rfl⟩ (bl_refl _) | exact hK.out _ _ rfl (bl_refl _) | exact hK.out _ _ rfl (by assumption) | exact hK.out _ _ (by assumption) (by assumption)
    case ht_wm =>
      intro s W2 hs hb
      have e0 : s 0 = _ := hs 0 (by decide)
      have e1 : s 1 = _ := hs 1 (by decide)
      have e2 : s 2 = _ := hs 2 (by decide)
      obtain ⟨_, _, _, e3⟩ := hs 3 (by decide)
      obtain ⟨_, _, e4⟩ := hs 4 (by decide)
      have e5 : s 5 = _ := hs 5 (by decide)
      have e6 : s 6 = _ := hs 6 (by decide)
      have e7 : s 7 = _ := hs 7 (by decide)
      obtain ⟨_, _, _, e8⟩ := hs 8 (by decide)
      obtain ⟨_, _, e9⟩ := hs 9 (by decide)
      obtain ⟨s0, hs0, e10⟩ := hs 10 (by decide)
      obtain ⟨t0, ht0, e11⟩ := hs 11 (by decide)
      simp only [e0, e1, e2, e3, e4, e5, e6, e7, e8, e9, e10, e11]
      clear hs e0 e1 e2 e3 e4 e5 e6 e7 e8 e9 e10 e11
      replace z0_0 := keep hb z0_0; replace z0_1 := keep hb z0_1; replace z1_0 := keep hb z1_0; replace z1_1 := keep hb z1_1; replace z2_0 := keep hb z2_0; replace z2_1 := keep hb z2_1; replace z3_0 := keep hb z3_0; replace z3_1 := keep hb z3_1; replace z4_0 := keep hb z4_0; replace z4_1 := keep hb z4_1; replace z4_2 := keep hb z4_2; replace z4_3 := keep hb z4_3; replace z4_4 := keep hb z4_4; replace k_p6_0 := keep hb k_p6_0; replace k_p6_1 := keep hb k_p6_1; replace k_p7_0 := keep hb k_p7_0; replace k_p7_1 := keep hb k_p7_1
      replace BF := bl_trans BF hb
      clear hb
      go_wp2
      refine wp_region_mono 12 rfl (fun i W v => match i with | 0 => v = .agg #[.float .f64 fx, .float .f64 fy] | 1 => v = .agg #[.float .f64 ax, .float .f64 ay] | 2 => v = .agg #[.float .f64 cx, .float .f64 cy] | 3 => ∃ x y, isP x y (suF A C) ∧ v = .agg #[.float .f64 x, .float .f64 y] | 4 => ∃ r, isF r (crF (suF D C) (suF A C)) ∧ v = .float .f64 r | 5 => v = .agg #[.float .f64 fx, .float .f64 fy] | 6 => v = .agg #[.float .f64 bx, .float .f64 b_y] | 7 => v = .agg #[.float .f64 cx, .float .f64 cy] | 8 => ∃ x y, isP x y (suF B C) ∧ v = .agg #[.float .f64 x, .float .f64 y] | 9 => ∃ r, isF r (crF (suF D C) (suF B C)) ∧ v = .float .f64 r | 10 => ∃ r, isF r (crF (suF D C) (suF A C)) ∧ v = .float .f64 r | 11 => ∃ r, isF r (crF (suF D C) (suF B C)) ∧ v = .float .f64 r | _ => False) ?A_wt (by kernel_rfl) (by kernel_rfl) ?hA_wt ?hmo_wt ?hq_wt ?ht_wt
      case hA_wt =>
        intro s
        simp only [putL, dstO, Act.put, List.getElem?_toArray, List.getElem?_cons_zero, List.getElem?_cons_succ, Option.bind_some, List.setIfInBounds_toArray, List.set_cons_zero, List.set_cons_succ, if_true]
        all_goals exact rfl
      case hmo_wt =>
        intro i W W' v hi hb h
        rcases (show i = 0 ∨ i = 1 ∨ i = 2 ∨ i = 3 ∨ i = 4 ∨ i = 5 ∨ i = 6 ∨ i = 7 ∨ i = 8 ∨ i = 9 ∨ i = 10 ∨ i = 11 by omega) with rfl | rfl | rfl | rfl | rfl | rfl | rfl | rfl | rfl | rfl | rfl | rfl
        all_goals first | exact h
      case hq_wt =>
        intro i o hi ho s W hs hb K hK
        have uz0_0 := keep hb z0_0; have uz0_1 := keep hb z0_1; have uz1_0 := keep hb z1_0; have uz1_1 := keep hb z1_1; have uz2_0 := keep hb z2_0; have uz2_1 := keep hb z2_1; have uz3_0 := keep hb z3_0; have uz3_1 := keep hb z3_1; have uz4_0 := keep hb z4_0; have uz4_1 := keep hb z4_1; have uz4_2 := keep hb z4_2; have uz4_3 := keep hb z4_3; have uz4_4 := keep hb z4_4; have uk_p6_0 := keep hb k_p6_0; have uk_p6_1 := keep hb k_p6_1; have uk_p7_0 := keep hb k_p7_0; have uk_p7_1 := keep hb k_p7_1
        rcases (show i = 0 ∨ i = 1 ∨ i = 2 ∨ i = 3 ∨ i = 4 ∨ i = 5 ∨ i = 6 ∨ i = 7 ∨ i = 8 ∨ i = 9 ∨ i = 10 ∨ i = 11 by omega) with rfl | rfl | rfl | rfl | rfl | rfl | rfl | rfl | rfl | rfl | rfl | rfl
        · cases ho
          simp only [Act.put, List.setIfInBounds_toArray, List.set_cons_zero, List.set_cons_succ] at hK
          clear hs
          go_simp
          all_goals (try go_wp2_with (first | (go_at_call 40; with_reducible refine (minus_n _ ha hc_).mono ?_; rintro e w' ⟨x, y, h3, rfl, hb1⟩) | (go_at_call 40; with_reducible refine (minus_n _ hb_ hc_).mono ?_; rintro e w' ⟨x, y, h8, rfl, hb1⟩) | (go_at_call 49; with_reducible refine (cross_n _ hf h3).mono ?_; rintro e w' ⟨r, h4, rfl, hb1⟩) | (go_at_call 49; with_reducible refine (cross_n _ hf h8).mono ?_; rintro e w' ⟨r, h9, rfl, hb1⟩)))
          all_goals first | exact hK.out _ _ ⟨_, _, h3, rfl⟩ hb1 | exact hK.out _ _ ⟨_, _, h8, rfl⟩ hb1 | exact hK.out _ _ ⟨_, h4, rfl⟩ hb1 | exact hK.out _ _ ⟨_, h9, rfl⟩ hb1 | exact hK.out _ _ ⟨_, h4, rfl⟩ (bl_refl _) | exact hK.out _ _ ⟨_, h9, rfl⟩ (bl_refl _) | exact hK.out _ _ rfl (bl_refl _) | exact hK.out _ _ rfl (by assumption) | exact hK.out _ _ (by assumption) (by assumption)
        · cases ho
          simp only [Act.put, List.setIfInBounds_toArray, List.set_cons_zero, List.set_cons_succ] at hK
          clear hs
          go_simp
          all_goals (try go_wp2_with (first | (go_at_call 40; with_reducible refine (minus_n _ ha hc_).mono ?_; rintro e w' ⟨x, y, h3, rfl, hb1⟩) | (go_at_call 40; with_reducible refine (minus_n _ hb_ hc_).mono ?_; rintro e w' ⟨x, y, h8, rfl, hb1⟩) | (go_at_call 49; with_reducible refine (cross_n _ hf h3).mono ?_; rintro e w' ⟨r, h4, rfl, hb1⟩) | (go_at_call 49; with_reducible refine (cross_n _ hf h8).mono ?_; rintro e w' ⟨r, h9, rfl, hb1⟩)))
          all_goals first | exact hK.out _ _ ⟨_, _, h3, rfl⟩ hb1 | exact hK.out _ _ ⟨_, _, h8, rfl⟩ hb1 | exact hK.out _ _ ⟨_, h4, rfl⟩ hb1 | exact hK.out _ _ ⟨_, h9, rfl⟩ hb1 | exact hK.out _ _ ⟨_, h4, rfl⟩ (bl_refl _) | exact hK.out _ _ ⟨_, h9, rfl⟩ (bl_refl _) | exact hK.out _ _ rfl (bl_refl _) | exact hK.out _ _ rfl (by assumption) | exact hK.out _ _ (by assumption) (by assumption)
        · cases ho
          simp only [Act.put, List.setIfInBounds_toArray, List.set_cons_zero, List.set_cons_succ] at hK
          clear hs
          go_simp
          all_goals (try go_wp2_with (first | (go_at_call 40; with_reducible refine (minus_n _ ha hc_).mono ?_; rintro e w' ⟨x, y, h3, rfl, hb1⟩) | (go_at_call 40; with_reducible refine (minus_n _ hb_ hc_).mono ?_; rintro e w' ⟨x, y, h8, rfl, hb1⟩) | (go_at_call 49; with_reducible refine (cross_n _ hf h3).mono ?_; rintro e w' ⟨r, h4, rfl, hb1⟩) | (go_at_call 49; with_reducible refine (cross_n _ hf h8).mono ?_; rintro e w' ⟨r, h9, rfl, hb1⟩)))
          all_goals first | exact hK.out _ _ ⟨_, _, h3, rfl⟩ hb1 | exact hK.out _ _ ⟨_, _, h8, rfl⟩ hb1 | exact hK.out _ _ ⟨_, h4, rfl⟩ hb1 | exact hK.out _ _ ⟨_, h9, rfl⟩ hb1 | exact hK.out _ _ ⟨_, h4, rfl⟩ (bl_refl _) | exact hK.out _ _ ⟨_, h9, rfl⟩ (bl_refl _) | exact hK.out _ _ rfl (bl_refl _) | exact hK.out _ _ rfl (by assumption) | exact hK.out _ _ (by assumption) (by assumption)
        · cases ho
          have e1 : s 1 = _ := hs 1 (by decide) (by kernel_rfl)
          have e2 : s 2 = _ := hs 2 (by decide) (by kernel_rfl)
          simp only [e1, e2] at hK ⊢
          simp only [Act.put, List.setIfInBounds_toArray, List.set_cons_zero, List.set_cons_succ] at hK
          clear hs
          go_simp
          all_goals (try go_wp2_with (first | (go_at_call 40; with_reducible refine (minus_n _ ha hc_).mono ?_; rintro e w' ⟨x, y, h3, rfl, hb1⟩) | (go_at_call 40; with_reducible refine (minus_n _ hb_ hc_).mono ?_; rintro e w' ⟨x, y, h8, rfl, hb1⟩) | (go_at_call 49; with_reducible refine (cross_n _ hf h3).mono ?_; rintro e w' ⟨r, h4, rfl, hb1⟩) | (go_at_call 49; with_reducible refine (cross_n _ hf h8).mono ?_; rintro e w' ⟨r, h9, rfl, hb1⟩)))
          all_goals first | exact hK.out _ _ ⟨_, _, h3, rfl⟩ hb1 | exact hK.out _ _ ⟨_, _, h8, rfl⟩ hb1 | exact hK.out _ _ ⟨_, h4, rfl⟩ hb1 | exact hK.out _ _ ⟨_, h9, rfl⟩ hb1 | exact hK.out _ _ ⟨_, h4, rfl⟩ (bl_refl _) | exact hK.out _ _ ⟨_, h9, rfl⟩ (bl_refl _) | exact hK.out _ _ rfl (bl_refl _) | exact hK.out _ _ rfl (by assumption) | exact hK.out _ _ (by assumption) (by assumption)
        · cases ho
          have e0 : s 0 = _ := hs 0 (by decide) (by kernel_rfl)
          obtain ⟨x, y, h3, e3⟩ := hs 3 (by decide) (by kernel_rfl)
          simp only [e0, e3] at hK ⊢
          simp only [Act.put, List.setIfInBounds_toArray, List.set_cons_zero, List.set_cons_succ] at hK
          clear hs
          go_simp
          all_goals (try go_wp2_with (first | (go_at_call 40; with_reducible refine (minus_n _ ha hc_).mono ?_; rintro e w' ⟨x, y, h3, rfl, hb1⟩) | (go_at_call 40; with_reducible refine (minus_n _ hb_ hc_).mono ?_; rintro e w' ⟨x, y, h8, rfl, hb1⟩) | (go_at_call 49; with_reducible refine (cross_n _ hf h3).mono ?_; rintro e w' ⟨r, h4, rfl, hb1⟩) | (go_at_call 49; with_reducible refine (cross_n _ hf h8).mono ?_; rintro e w' ⟨r, h9, rfl, hb1⟩)))
          all_goals first | exact hK.out _ _ ⟨_, _, h3, rfl⟩ hb1 | exact hK.out _ _ ⟨_, _, h8, rfl⟩ hb1 | exact hK.out _ _ ⟨_, h4, rfl⟩ hb1 | exact hK.out _ _ ⟨_, h9, rfl⟩ hb1 | exact hK.out _ _ ⟨_, h4, rfl⟩ (bl_refl _) | exact hK.out _ _ ⟨_, h9, rfl⟩ (bl_refl _) | exact hK.out _ _ rfl (bl_refl _) | exact hK.out _ _ rfl (by assumption) | exact hK.out _ _ (by assumption) (by assumption)
        · cases ho
          simp only [Act.put, List.setIfInBounds_toArray, List.set_cons_zero, List.set_cons_succ] at hK
          clear hs
          go_simp
          all_goals (try go_wp2_with (first | (go_at_call 40; with_reducible refine (minus_n _ ha hc_).mono ?_; rintro e w' ⟨x, y, h3, rfl, hb1⟩) | (go_at_call 40; with_reducible refine (minus_n _ hb_ hc_).mono ?_; rintro e w' ⟨x, y, h8, rfl, hb1⟩) | (go_at_call 49; with_reducible refine (cross_n _ hf h3).mono ?_; rintro e w' ⟨r, h4, rfl, hb1⟩) | (go_at_call 49; with_reducible refine (cross_n _ hf h8).mono ?_; rintro e w' ⟨r, h9, rfl, hb1⟩)))
          all_goals first | exact hK.out _ _ ⟨_, _, h3, rfl⟩ hb1 | exact hK.out _ _ ⟨_, _, h8, rfl⟩ hb1 | exact hK.out _ _ ⟨_, h4, rfl⟩ hb1 | exact hK.out _ _ ⟨_, h9, rfl⟩ hb1 | exact hK.out _ _ ⟨_, h4, rfl⟩ (bl_refl _) | exact hK.out _ _ ⟨_, h9, rfl⟩ (bl_refl _) | exact hK.out _ _ rfl (bl_refl _) | exact hK.out _ _ rfl (by assumption) | exact hK.out _ _ (by assumption) (by assumption)
        · cases ho
          simp only [Act.put, List.setIfInBounds_toArray, List.set_cons_zero, List.set_cons_succ] at hK
          clear hs
          go_simp
          all_goals (try go_wp2_with (first | (go_at_call 40; with_reducible refine (minus_n _ ha hc_).mono ?_; rintro e w' ⟨x, y, h3, rfl, hb1⟩) | (go_at_call 40; with_reducible refine (minus_n _ hb_ hc_).mono ?_; rintro e w' ⟨x, y, h8, rfl, hb1⟩) | (go_at_call 49; with_reducible refine (cross_n _ hf h3).mono ?_; rintro e w' ⟨r, h4, rfl, hb1⟩) | (go_at_call 49; with_reducible refine (cross_n _ hf h8).mono ?_; rintro e w' ⟨r, h9, rfl, hb1⟩)))
          all_goals first | exact hK.out _ _ ⟨_, _, h3, rfl⟩ hb1 | exact hK.out _ _ ⟨_, _, h8, rfl⟩ hb1 | exact hK.out _ _ ⟨_, h4, rfl⟩ hb1 | exact hK.out _ _ ⟨_, h9, rfl⟩ hb1 | exact hK.out _ _ ⟨_, h4, rfl⟩ (bl_refl _) | exact hK.out _ _ ⟨_, h9, rfl⟩ (bl_refl _) | exact hK.out _ _ rfl (bl_refl _) | exact hK.out _ _ rfl (by assumption) | exact hK.out _ _ (by assumption) (by assumption)
        · cases ho
          simp only [Act.put, List.setIfInBounds_toArray, List.set_cons_zero, List.set_cons_succ] at hK
          clear hs
          go_simp
          all_goals (try go_wp2_with (first | (go_at_call 40; with_reducible refine (minus_n _ ha hc_).mono ?_; rintro e w' ⟨x, y, h3, rfl, hb1⟩) | (go_at_call 40; with_reducible refine (minus_n _ hb_ hc_).mono ?_; rintro e w' ⟨x, y, h8, rfl, hb1⟩) | (go_at_call 49; with_reducible refine (cross_n _ hf h3).mono ?_; rintro e w' ⟨r, h4, rfl, hb1⟩) | (go_at_call 49; with_reducible refine (cross_n _ hf h8).mono ?_; rintro e w' ⟨r, h9, rfl, hb1⟩)))
          all_goals first | exact hK.out _ _ ⟨_, _, h3, rfl⟩ hb1 | exact hK.out _ _ ⟨_, _, h8, rfl⟩ hb1 | exact hK.out _ _ ⟨_, h4, rfl⟩ hb1 | exact hK.out _ _ ⟨_, h9, rfl⟩ hb1 | exact hK.out _ _ ⟨_, h4, rfl⟩ (bl_refl _) | exact hK.out _ _ ⟨_, h9, rfl⟩ (bl_refl _) | exact hK.out _ _ rfl (bl_refl _) | exact hK.out _ _ rfl (by assumption) | exact hK.out _ _ (by assumption) (by assumption)
        · cases ho
          have e6 : s 6 = _ := hs 6 (by decide) (by kernel_rfl)
          have e7 : s 7 = _ := hs 7 (by decide) (by kernel_rfl)
          simp only [e6, e7] at hK ⊢
          simp only [Act.put, List.setIfInBounds_toArray, List.set_cons_zero, List.set_cons_succ] at hK
          clear hs
          go_simp
          all_goals (try go_wp2_with (first | (go_at_call 40; with_reducible refine (minus_n _ ha hc_).mono ?_; rintro e w' ⟨x, y, h3, rfl, hb1⟩) | (go_at_call 40; with_reducible refine (minus_n _ hb_ hc_).mono ?_; rintro e w' ⟨x, y, h8, rfl, hb1⟩) | (go_at_call 49; with_reducible refine (cross_n _ hf h3).mono ?_; rintro e w' ⟨r, h4, rfl, hb1⟩) | (go_at_call 49; with_reducible refine (cross_n _ hf h8).mono ?_; rintro e w' ⟨r, h9, rfl, hb1⟩)))
          all_goals first | exact hK.out _ _ ⟨_, _, h3, rfl⟩ hb1 | exact hK.out _ _ ⟨_, _, h8, rfl⟩ hb1 | exact hK.out _ _ ⟨_, h4, rfl⟩ hb1 | exact hK.out _ _ ⟨_, h9, rfl⟩ hb1 | exact hK.out _ _ ⟨_, h4, rfl⟩ (bl_refl _) | exact hK.out _ _ ⟨_, h9, rfl⟩ (bl_refl _) | exact hK.out _ _ rfl (bl_refl _) | exact hK.out _ _ rfl (by assumption) | exact hK.out _ _ (by assumption) (by assumption)
        · cases ho
          have e5 : s 5 = _ := hs 5 (by decide) (by kernel_rfl)
          obtain ⟨x, y, h8, e8⟩ := hs 8 (by decide) (by kernel_rfl)
          simp only [e5, e8] at hK ⊢
          simp only [Act.put, List.setIfInBounds_toArray, List.set_cons_zero, List.set_cons_succ] at hK
          clear hs
          go_simp
          all_goals (try go_wp2_with (first | (go_at_call 40; with_reducible refine (minus_n _ ha hc_).mono ?_; rintro e w' ⟨x, y, h3, rfl, hb1⟩) | (go_at_call 40; with_reducible refine (minus_n _ hb_ hc_).mono ?_; rintro e w' ⟨x, y, h8, rfl, hb1⟩) | (go_at_call 49; with_reducible refine (cross_n _ hf h3).mono ?_; rintro e w' ⟨r, h4, rfl, hb1⟩) | (go_at_call 49; with_reducible refine (cross_n _ hf h8).mono ?_; rintro e w' ⟨r, h9, rfl, hb1⟩)))
          all_goals first | exact hK.out _ _ ⟨_, _, h3, rfl⟩ hb1 | exact hK.out _ _ ⟨_, _, h8, rfl⟩ hb1 | exact hK.out _ _ ⟨_, h4, rfl⟩ hb1 | exact hK.out _ _ ⟨_, h9, rfl⟩ hb1 | exact hK.out _ _ ⟨_, h4, rfl⟩ (bl_refl _) | exact hK.out _ _ ⟨_, h9, rfl⟩ (bl_refl _) | exact hK.out _ _ rfl (bl_refl _) | exact hK.out _ _ rfl (by assumption) | exact hK.out _ _ (by assumption) (by assumption)
        · cases ho
          obtain ⟨r, h4, e4⟩ := hs 4 (by decide) (by kernel_rfl)
          simp only [e4] at hK ⊢
          simp only [Act.put, List.setIfInBounds_toArray, List.set_cons_zero, List.set_cons_succ] at hK
          clear hs
          go_simp
          all_goals (try go_wp2_with (first | (go_at_call 40; with_reducible refine (minus_n _ ha hc_).mono ?_; rintro e w' ⟨x, y, h3, rfl, hb1⟩) | (go_at_call 40; with_reducible refine (minus_n _ hb_ hc_).mono ?_; rintro e w' ⟨x, y, h8, rfl, hb1⟩) | (go_at_call 49; with_reducible refine (cross_n _ hf h3).mono ?_; rintro e w' ⟨r, h4, rfl, hb1⟩) | (go_at_call 49; with_reducible refine (cross_n _ hf h8).mono ?_; rintro e w' ⟨r, h9, rfl, hb1⟩)))
          all_goals first | exact hK.out _ _ ⟨_, _, h3, rfl⟩ hb1 | exact hK.out _ _ ⟨_, _, h8, rfl⟩ hb1 | exact hK.out _ _ ⟨_, h4, rfl⟩ hb1 | exact hK.out _ _ ⟨_, h9, rfl⟩ hb1 | exact hK.out _ _ ⟨_, h4, rfl⟩ (bl_refl _) | exact hK.out _ _ ⟨_, h9, rfl⟩ (bl_refl _) | exact hK.out _ _ rfl (bl_refl _) | exact hK.out _ _ rfl (by assumption) | exact hK.out _ _ (by assumption) (by assumption)
        · cases ho
          obtain ⟨r, h9, e9⟩ := hs 9 (by decide) (by kernel_rfl)
          simp only [e9] at hK ⊢
          simp only [Act.put, List.setIfInBounds_toArray, List.set_cons_zero, List.set_cons_succ] at hK
          clear hs
          go_simp
          all_goals (try go_wp2_with (first | (go_at_call 40; with_reducible refine (minus_n _ ha hc_).mono ?_; rintro e w' ⟨x, y, h3, rfl, hb1⟩) | (go_at_call 40; with_reducible refine (minus_n _ hb_ hc_).mono ?_; rintro e w' ⟨x, y, h8, rfl, hb1⟩) | (go_at_call 49; with_reducible refine (cross_n _ hf h3).mono ?_; rintro e w' ⟨r, h4, rfl, hb1⟩) | (go_at_call 49; with_reducible refine (cross_n _ hf h8).mono ?_; rintro e w' ⟨r, h9, rfl, hb1⟩)))
          all_goals first | exact hK.out _ _ ⟨_, _, h3, rfl⟩ hb1 | exact hK.out _ _ ⟨_, _, h8, rfl⟩ hb1 | exact hK.out _ _ ⟨_, h4, rfl⟩ hb1 | exact hK.out _ _ ⟨_, h9, rfl⟩ hb1 | exact hK.out _ _ ⟨_, h4, rfl⟩ (bl_refl _) | exact hK.out _ _ ⟨_, h9, rfl⟩ (bl_refl _) | exact hK.out _ _ rfl (bl_refl _) | exact hK.out _ _ rfl (by assumption) | exact hK.out _ _ (by assumption) (by assumption)
      case ht_wt =>
        intro s W3 hs hb
        have e0 : s 0 = _ := hs 0 (by decide)
        have e1 : s 1 = _ := hs 1 (by decide)
        have e2 : s 2 = _ := hs 2 (by decide)
        obtain ⟨_, _, _, e3⟩ := hs 3 (by decide)
        obtain ⟨_, _, e4⟩ := hs 4 (by decide)
        have e5 : s 5 = _ := hs 5 (by decide)
        have e6 : s 6 = _ := hs 6 (by decide)
        have e7 : s 7 = _ := hs 7 (by decide)
        obtain ⟨_, _, _, e8⟩ := hs 8 (by decide)
        obtain ⟨_, _, e9⟩ := hs 9 (by decide)
        obtain ⟨u0, hu0, e10⟩ := hs 10 (by decide)
        obtain ⟨v0, hv0, e11⟩ := hs 11 (by decide)
        simp only [e0, e1, e2, e3, e4, e5, e6, e7, e8, e9, e10, e11]
        clear hs e0 e1 e2 e3 e4 e5 e6 e7 e8 e9 e10 e11
        replace z0_0 := keep hb z0_0; replace z0_1 := keep hb z0_1; replace z1_0 := keep hb z1_0; replace z1_1 := keep hb z1_1; replace z2_0 := keep hb z2_0; replace z2_1 := keep hb z2_1; replace z3_0 := keep hb z3_0; replace z3_1 := keep hb z3_1; replace z4_0 := keep hb z4_0; replace z4_1 := keep hb z4_1; replace z4_2 := keep hb z4_2; replace z4_3 := keep hb z4_3; replace z4_4 := keep hb z4_4; replace k_p6_0 := keep hb k_p6_0; replace k_p6_1 := keep hb k_p6_1; replace k_p7_0 := keep hb k_p7_0; replace k_p7_1 := keep hb k_p7_1
        replace BF := bl_trans BF hb
        clear hb
        have d_ := run_sub Try.prog
        have d4 := run_quo Try.prog
        cases q1 : opF (crF (suF B A) (suF C A)) (crF (suF B A) (suF D A)) <;> cases q2 : opF (crF (suF D C) (suF A C)) (crF (suF D C) (suF B C))
        rotate_left 3
        · have e0 : segF A B C D = (0, atF A B C D, atF A B C D) := by unfold segF acF; rw [q1, q2]; rfl
          go_wp2_with (first | (go_at_call 50; with_reducible refine (across_n _ hs0 ht0).mono ?_; rintro e w' ⟨rfl, rfl⟩; rw [q1]) | (go_at_call 50; with_reducible refine (across_n _ hu0 hv0).mono ?_; rintro e w' ⟨rfl, rfl⟩; rw [q2]) | (go_at_call 43; refine (more_n _ ha (o_is _ hu0 (o_is _ hu0 hv0)) he).mono ?_; rintro e w7 ⟨x, y, h9, rfl, hb⟩; replace z4_0 : w7.cell? ⟨w.heap.size + 1 + 1 + 1 + 1, 0, none⟩ = some (.float .f64 0) := keep hb (by first | exact z4_0 | go_keep); replace z4_1 : w7.cell? ⟨w.heap.size + 1 + 1 + 1 + 1, 1, none⟩ = some (.float .f64 0) := keep hb (by first | exact z4_1 | go_keep); replace z4_2 : w7.cell? ⟨w.heap.size + 1 + 1 + 1 + 1, 2, none⟩ = some (.float .f64 0) := keep hb (by first | exact z4_2 | go_keep); replace z4_3 : w7.cell? ⟨w.heap.size + 1 + 1 + 1 + 1, 3, none⟩ = some (.float .f64 0) := keep hb (by first | exact z4_3 | go_keep); replace z4_4 : w7.cell? ⟨w.heap.size + 1 + 1 + 1 + 1, 4, none⟩ = some (.float .f64 0) := keep hb (by first | exact z4_4 | go_keep); replace BF := bl_trans (by repeat (first | exact BF | apply bl_drewN)) hb; clear hb; have hz := BF.size; simp only [World.size_alloc] at hz; have l4 : w.heap.size + 1 + 1 + 1 + 1 < w7.heap.size := (by omega); have fE : ∀ o, w7.frozen? ⟨w.heap.size + 1 + 1 + 1 + 1, o, none⟩ = false := fun o => (BF.2 _).trans (fR o)))
          obtain ⟨X, hX, r0, r1, r2, r3, r4, -, bX⟩ := put5_all (p := .float .f64 0) (q := .float .f64 x) (r := .float .f64 y) (s := .float .f64 x) (t := .float .f64 y) z4_0 z4_1 z4_2 z4_3 z4_4
          rw [← hX]
          replace r0 := keep (bl_alloc (bl_refl X) #[.float .f64 x, .float .f64 y] 24) r0; replace r1 := keep (bl_alloc (bl_refl X) #[.float .f64 x, .float .f64 y] 24) r1; replace r2 := keep (bl_alloc (bl_refl X) #[.float .f64 x, .float .f64 y] 24) r2; replace r3 := keep (bl_alloc (bl_refl X) #[.float .f64 x, .float .f64 y] 24) r3; replace r4 := keep (bl_alloc (bl_refl X) #[.float .f64 x, .float .f64 y] 24) r4
          refine bodyPost_ret (v := .agg #[.float .f64 0, .float .f64 x, .float .f64 y, .float .f64 x, .float .f64 y]) (by simp [r0, r1, r2, r3, r4, results, Try.results14, go_sem] <;> (first | exact ⟨rfl, rfl, rfl, rfl, rfl⟩ | rfl)) rfl ⟨_, _, _, _, _, by rw [e0]; exact ⟨isF_zero, h9, h9⟩, rfl, bl_alloc (bX _ (bl_trans B0 BF) (by omega)) _ _⟩
        · have e0 : segF A B C D = endF A B C D := by unfold segF acF; rw [q1, q2]; rfl
          clear k_p6_0 k_p6_1 k_p7_0 k_p7_1
          go_wp2_with (first | (go_at_call 50; with_reducible refine (across_n _ hs0 ht0).mono ?_; rintro e w' ⟨rfl, rfl⟩; rw [q1]) | (go_at_call 50; with_reducible refine (across_n _ hu0 hv0).mono ?_; rintro e w' ⟨rfl, rfl⟩; rw [q2]) | (go_at_call 9; with_reducible refine (rpoint_n _ hc_ hd_ ha).mono ?_; rintro e w1 ⟨x1, y1, t1, hq1, ht1, rfl, hb⟩; replace z0_0 : w1.cell? ⟨w.heap.size, 0, none⟩ = some (.float .f64 ax) := keep hb (by first | exact z0_0 | go_keep); replace z0_1 : w1.cell? ⟨w.heap.size, 1, none⟩ = some (.float .f64 ay) := keep hb (by first | exact z0_1 | go_keep); replace z1_0 : w1.cell? ⟨w.heap.size + 1, 0, none⟩ = some (.float .f64 bx) := keep hb (by first | exact z1_0 | go_keep); replace z1_1 : w1.cell? ⟨w.heap.size + 1, 1, none⟩ = some (.float .f64 b_y) := keep hb (by first | exact z1_1 | go_keep); replace z2_0 : w1.cell? ⟨w.heap.size + 1 + 1, 0, none⟩ = some (.float .f64 cx) := keep hb (by first | exact z2_0 | go_keep); replace z2_1 : w1.cell? ⟨w.heap.size + 1 + 1, 1, none⟩ = some (.float .f64 cy) := keep hb (by first | exact z2_1 | go_keep); replace z3_0 : w1.cell? ⟨w.heap.size + 1 + 1 + 1, 0, none⟩ = some (.float .f64 dx) := keep hb (by first | exact z3_0 | go_keep); replace z3_1 : w1.cell? ⟨w.heap.size + 1 + 1 + 1, 1, none⟩ = some (.float .f64 dy) := keep hb (by first | exact z3_1 | go_keep); replace z4_0 : w1.cell? ⟨w.heap.size + 1 + 1 + 1 + 1, 0, none⟩ = some (.float .f64 0) := keep hb (by first | exact z4_0 | go_keep); replace z4_1 : w1.cell? ⟨w.heap.size + 1 + 1 + 1 + 1, 1, none⟩ = some (.float .f64 0) := keep hb (by first | exact z4_1 | go_keep); replace z4_2 : w1.cell? ⟨w.heap.size + 1 + 1 + 1 + 1, 2, none⟩ = some (.float .f64 0) := keep hb (by first | exact z4_2 | go_keep); replace z4_3 : w1.cell? ⟨w.heap.size + 1 + 1 + 1 + 1, 3, none⟩ = some (.float .f64 0) := keep hb (by first | exact z4_3 | go_keep); replace z4_4 : w1.cell? ⟨w.heap.size + 1 + 1 + 1 + 1, 4, none⟩ = some (.float .f64 0) := keep hb (by first | exact z4_4 | go_keep); replace BF := bl_trans (by repeat (first | exact BF | apply bl_alloc | refine bl_set ?_ (by (try simp only [World.size_alloc]); omega))) hb; clear hb; have hz1 := BF.size; simp only [World.size_alloc] at hz1; have l10 : w.heap.size < w1.heap.size := (by omega); have l11 : w.heap.size + 1 < w1.heap.size := (by omega); have l12 : w.heap.size + 1 + 1 < w1.heap.size := (by omega); have l13 : w.heap.size + 1 + 1 + 1 < w1.heap.size := (by omega); have l14 : w.heap.size + 1 + 1 + 1 + 1 < w1.heap.size := (by omega)) | (go_at_call 9; with_reducible refine (rpoint_n _ hc_ hd_ hb_).mono ?_; rintro e w2 ⟨x2, y2, t2, hq2, ht2, rfl, hb⟩; replace z0_0 : w2.cell? ⟨w.heap.size, 0, none⟩ = some (.float .f64 ax) := keep hb (by first | exact z0_0 | go_keep); replace z0_1 : w2.cell? ⟨w.heap.size, 1, none⟩ = some (.float .f64 ay) := keep hb (by first | exact z0_1 | go_keep); replace z1_0 : w2.cell? ⟨w.heap.size + 1, 0, none⟩ = some (.float .f64 bx) := keep hb (by first | exact z1_0 | go_keep); replace z1_1 : w2.cell? ⟨w.heap.size + 1, 1, none⟩ = some (.float .f64 b_y) := keep hb (by first | exact z1_1 | go_keep); replace z2_0 : w2.cell? ⟨w.heap.size + 1 + 1, 0, none⟩ = some (.float .f64 cx) := keep hb (by first | exact z2_0 | go_keep); replace z2_1 : w2.cell? ⟨w.heap.size + 1 + 1, 1, none⟩ = some (.float .f64 cy) := keep hb (by first | exact z2_1 | go_keep); replace z3_0 : w2.cell? ⟨w.heap.size + 1 + 1 + 1, 0, none⟩ = some (.float .f64 dx) := keep hb (by first | exact z3_0 | go_keep); replace z3_1 : w2.cell? ⟨w.heap.size + 1 + 1 + 1, 1, none⟩ = some (.float .f64 dy) := keep hb (by first | exact z3_1 | go_keep); replace z4_0 : w2.cell? ⟨w.heap.size + 1 + 1 + 1 + 1, 0, none⟩ = some (.float .f64 0) := keep hb (by first | exact z4_0 | go_keep); replace z4_1 : w2.cell? ⟨w.heap.size + 1 + 1 + 1 + 1, 1, none⟩ = some (.float .f64 0) := keep hb (by first | exact z4_1 | go_keep); replace z4_2 : w2.cell? ⟨w.heap.size + 1 + 1 + 1 + 1, 2, none⟩ = some (.float .f64 0) := keep hb (by first | exact z4_2 | go_keep); replace z4_3 : w2.cell? ⟨w.heap.size + 1 + 1 + 1 + 1, 3, none⟩ = some (.float .f64 0) := keep hb (by first | exact z4_3 | go_keep); replace z4_4 : w2.cell? ⟨w.heap.size + 1 + 1 + 1 + 1, 4, none⟩ = some (.float .f64 0) := keep hb (by first | exact z4_4 | go_keep); have K1_0 : w2.cell? ⟨w1.heap.size, 0, none⟩ = some (.float .f64 x1) := keep hb (by go_keep); have K1_1 : w2.cell? ⟨w1.heap.size, 1, none⟩ = some (.float .f64 y1) := keep hb (by go_keep); replace BF := bl_trans (by repeat (first | exact BF | apply bl_alloc | refine bl_set ?_ (by (try simp only [World.size_alloc]); omega))) hb; clear hb; have hz2 := BF.size; simp only [World.size_alloc] at hz2; have l20 : w.heap.size < w2.heap.size := (by omega); have l21 : w.heap.size + 1 < w2.heap.size := (by omega); have l22 : w.heap.size + 1 + 1 < w2.heap.size := (by omega); have l23 : w.heap.size + 1 + 1 + 1 < w2.heap.size := (by omega); have l24 : w.heap.size + 1 + 1 + 1 + 1 < w2.heap.size := (by omega); have m21 := World.block_lt_of_cell? _ _ K1_0; simp only at m21) | (go_at_call 9; with_reducible refine (rpoint_n _ ha hb_ hc_).mono ?_; rintro e w3 ⟨x3, y3, t3, hq3, ht3, rfl, hb⟩; replace z0_0 : w3.cell? ⟨w.heap.size, 0, none⟩ = some (.float .f64 ax) := keep hb (by first | exact z0_0 | go_keep); replace z0_1 : w3.cell? ⟨w.heap.size, 1, none⟩ = some (.float .f64 ay) := keep hb (by first | exact z0_1 | go_keep); replace z1_0 : w3.cell? ⟨w.heap.size + 1, 0, none⟩ = some (.float .f64 bx) := keep hb (by first | exact z1_0 | go_keep); replace z1_1 : w3.cell? ⟨w.heap.size + 1, 1, none⟩ = some (.float .f64 b_y) := keep hb (by first | exact z1_1 | go_keep); replace z2_0 : w3.cell? ⟨w.heap.size + 1 + 1, 0, none⟩ = some (.float .f64 cx) := keep hb (by first | exact z2_0 | go_keep); replace z2_1 : w3.cell? ⟨w.heap.size + 1 + 1, 1, none⟩ = some (.float .f64 cy) := keep hb (by first | exact z2_1 | go_keep); replace z3_0 : w3.cell? ⟨w.heap.size + 1 + 1 + 1, 0, none⟩ = some (.float .f64 dx) := keep hb (by first | exact z3_0 | go_keep); replace z3_1 : w3.cell? ⟨w.heap.size + 1 + 1 + 1, 1, none⟩ = some (.float .f64 dy) := keep hb (by first | exact z3_1 | go_keep); replace z4_0 : w3.cell? ⟨w.heap.size + 1 + 1 + 1 + 1, 0, none⟩ = some (.float .f64 0) := keep hb (by first | exact z4_0 | go_keep); replace z4_1 : w3.cell? ⟨w.heap.size + 1 + 1 + 1 + 1, 1, none⟩ = some (.float .f64 0) := keep hb (by first | exact z4_1 | go_keep); replace z4_2 : w3.cell? ⟨w.heap.size + 1 + 1 + 1 + 1, 2, none⟩ = some (.float .f64 0) := keep hb (by first | exact z4_2 | go_keep); replace z4_3 : w3.cell? ⟨w.heap.size + 1 + 1 + 1 + 1, 3, none⟩ = some (.float .f64 0) := keep hb (by first | exact z4_3 | go_keep); replace z4_4 : w3.cell? ⟨w.heap.size + 1 + 1 + 1 + 1, 4, none⟩ = some (.float .f64 0) := keep hb (by first | exact z4_4 | go_keep); replace K1_0 : w3.cell? ⟨w1.heap.size, 0, none⟩ = some (.float .f64 x1) := keep hb (by first | exact K1_0 | go_keep); replace K1_1 : w3.cell? ⟨w1.heap.size, 1, none⟩ = some (.float .f64 y1) := keep hb (by first | exact K1_1 | go_keep); have K2_0 : w3.cell? ⟨w2.heap.size, 0, none⟩ = some (.float .f64 x2) := keep hb (by go_keep); have K2_1 : w3.cell? ⟨w2.heap.size, 1, none⟩ = some (.float .f64 y2) := keep hb (by go_keep); replace BF := bl_trans (by repeat (first | exact BF | apply bl_alloc | refine bl_set ?_ (by (try simp only [World.size_alloc]); omega))) hb; clear hb; have hz3 := BF.size; simp only [World.size_alloc] at hz3; have l30 : w.heap.size < w3.heap.size := (by omega); have l31 : w.heap.size + 1 < w3.heap.size := (by omega); have l32 : w.heap.size + 1 + 1 < w3.heap.size := (by omega); have l33 : w.heap.size + 1 + 1 + 1 < w3.heap.size := (by omega); have l34 : w.heap.size + 1 + 1 + 1 + 1 < w3.heap.size := (by omega); have m31 := World.block_lt_of_cell? _ _ K1_0; simp only at m31; have m32 := World.block_lt_of_cell? _ _ K2_0; simp only at m32) | (go_at_call 9; with_reducible refine (rpoint_n _ ha hb_ hd_).mono ?_; rintro e w4 ⟨x4, y4, t4, hq4, ht4, rfl, hb⟩; replace z0_0 : w4.cell? ⟨w.heap.size, 0, none⟩ = some (.float .f64 ax) := keep hb (by first | exact z0_0 | go_keep); replace z0_1 : w4.cell? ⟨w.heap.size, 1, none⟩ = some (.float .f64 ay) := keep hb (by first | exact z0_1 | go_keep); replace z1_0 : w4.cell? ⟨w.heap.size + 1, 0, none⟩ = some (.float .f64 bx) := keep hb (by first | exact z1_0 | go_keep); replace z1_1 : w4.cell? ⟨w.heap.size + 1, 1, none⟩ = some (.float .f64 b_y) := keep hb (by first | exact z1_1 | go_keep); replace z2_0 : w4.cell? ⟨w.heap.size + 1 + 1, 0, none⟩ = some (.float .f64 cx) := keep hb (by first | exact z2_0 | go_keep); replace z2_1 : w4.cell? ⟨w.heap.size + 1 + 1, 1, none⟩ = some (.float .f64 cy) := keep hb (by first | exact z2_1 | go_keep); replace z3_0 : w4.cell? ⟨w.heap.size + 1 + 1 + 1, 0, none⟩ = some (.float .f64 dx) := keep hb (by first | exact z3_0 | go_keep); replace z3_1 : w4.cell? ⟨w.heap.size + 1 + 1 + 1, 1, none⟩ = some (.float .f64 dy) := keep hb (by first | exact z3_1 | go_keep); replace z4_0 : w4.cell? ⟨w.heap.size + 1 + 1 + 1 + 1, 0, none⟩ = some (.float .f64 0) := keep hb (by first | exact z4_0 | go_keep); replace z4_1 : w4.cell? ⟨w.heap.size + 1 + 1 + 1 + 1, 1, none⟩ = some (.float .f64 0) := keep hb (by first | exact z4_1 | go_keep); replace z4_2 : w4.cell? ⟨w.heap.size + 1 + 1 + 1 + 1, 2, none⟩ = some (.float .f64 0) := keep hb (by first | exact z4_2 | go_keep); replace z4_3 : w4.cell? ⟨w.heap.size + 1 + 1 + 1 + 1, 3, none⟩ = some (.float .f64 0) := keep hb (by first | exact z4_3 | go_keep); replace z4_4 : w4.cell? ⟨w.heap.size + 1 + 1 + 1 + 1, 4, none⟩ = some (.float .f64 0) := keep hb (by first | exact z4_4 | go_keep); replace K1_0 : w4.cell? ⟨w1.heap.size, 0, none⟩ = some (.float .f64 x1) := keep hb (by first | exact K1_0 | go_keep); replace K1_1 : w4.cell? ⟨w1.heap.size, 1, none⟩ = some (.float .f64 y1) := keep hb (by first | exact K1_1 | go_keep); replace K2_0 : w4.cell? ⟨w2.heap.size, 0, none⟩ = some (.float .f64 x2) := keep hb (by first | exact K2_0 | go_keep); replace K2_1 : w4.cell? ⟨w2.heap.size, 1, none⟩ = some (.float .f64 y2) := keep hb (by first | exact K2_1 | go_keep); have K3_0 : w4.cell? ⟨w3.heap.size, 0, none⟩ = some (.float .f64 x3) := keep hb (by go_keep); have K3_1 : w4.cell? ⟨w3.heap.size, 1, none⟩ = some (.float .f64 y3) := keep hb (by go_keep); replace BF := bl_trans (by repeat (first | exact BF | apply bl_alloc | refine bl_set ?_ (by (try simp only [World.size_alloc]); omega))) hb; clear hb; have hz4 := BF.size; simp only [World.size_alloc] at hz4; have l40 : w.heap.size < w4.heap.size := (by omega); have l41 : w.heap.size + 1 < w4.heap.size := (by omega); have l42 : w.heap.size + 1 + 1 < w4.heap.size := (by omega); have l43 : w.heap.size + 1 + 1 + 1 < w4.heap.size := (by omega); have l44 : w.heap.size + 1 + 1 + 1 + 1 < w4.heap.size := (by omega); have m41 := World.block_lt_of_cell? _ _ K1_0; simp only at m41; have m42 := World.block_lt_of_cell? _ _ K2_0; simp only at m42; have m43 := World.block_lt_of_cell? _ _ K3_0; simp only at m43))
          have eG : (w4.alloc (.cells #[.float .f64 x4, .float .f64 y4] 24)).heap.size = w4.heap.size + 1 := World.size_alloc _ _
          have hT : ∀ q, q < 4 → ((w4.alloc (.cells #[.float .f64 x4, .float .f64 y4] 24)).alloc (.cells #[.float .f64 0, .float .f64 ax, .float .f64 ay, .float .f64 x1, .float .f64 y1, .float .f64 0, .float .f64 bx, .float .f64 b_y, .float .f64 x2, .float .f64 y2, .float .f64 0, .float .f64 x3, .float .f64 y3, .float .f64 cx, .float .f64 cy, .float .f64 0, .float .f64 x4, .float .f64 y4, .float .f64 dx, .float .f64 dy] 33)).cell? ⟨w4.heap.size + 1, q * 5 + 1, none⟩ = some (.float .f64 (sel4 ax bx x3 x4 q)) ∧ ((w4.alloc (.cells #[.float .f64 x4, .float .f64 y4] 24)).alloc (.cells #[.float .f64 0, .float .f64 ax, .float .f64 ay, .float .f64 x1, .float .f64 y1, .float .f64 0, .float .f64 bx, .float .f64 b_y, .float .f64 x2, .float .f64 y2, .float .f64 0, .float .f64 x3, .float .f64 y3, .float .f64 cx, .float .f64 cy, .float .f64 0, .float .f64 x4, .float .f64 y4, .float .f64 dx, .float .f64 dy] 33)).cell? ⟨w4.heap.size + 1, q * 5 + 2, none⟩ = some (.float .f64 (sel4 ay b_y y3 y4 q)) ∧ ((w4.alloc (.cells #[.float .f64 x4, .float .f64 y4] 24)).alloc (.cells #[.float .f64 0, .float .f64 ax, .float .f64 ay, .float .f64 x1, .float .f64 y1, .float .f64 0, .float .f64 bx, .float .f64 b_y, .float .f64 x2, .float .f64 y2, .float .f64 0, .float .f64 x3, .float .f64 y3, .float .f64 cx, .float .f64 cy, .float .f64 0, .float .f64 x4, .float .f64 y4, .float .f64 dx, .float .f64 dy] 33)).cell? ⟨w4.heap.size + 1, q * 5 + 3, none⟩ = some (.float .f64 (sel4 x1 x2 cx dx q)) ∧ ((w4.alloc (.cells #[.float .f64 x4, .float .f64 y4] 24)).alloc (.cells #[.float .f64 0, .float .f64 ax, .float .f64 ay, .float .f64 x1, .float .f64 y1, .float .f64 0, .float .f64 bx, .float .f64 b_y, .float .f64 x2, .float .f64 y2, .float .f64 0, .float .f64 x3, .float .f64 y3, .float .f64 cx, .float .f64 cy, .float .f64 0, .float .f64 x4, .float .f64 y4, .float .f64 dx, .float .f64 dy] 33)).cell? ⟨w4.heap.size + 1, q * 5 + 4, none⟩ = some (.float .f64 (sel4 y1 y2 cy dy q)) := fun q hq => by
            rw [← eG]
            rcases (show q = 0 ∨ q = 1 ∨ q = 2 ∨ q = 3 by omega) with rfl | rfl | rfl | rfl <;> (simp only [World.cell?_alloc_new]; exact ⟨rfl, rfl, rfl, rfl⟩)
          have hF : ∀ q, q < 4 → ((w4.alloc (.cells #[.float .f64 x4, .float .f64 y4] 24)).alloc (.cells #[.float .f64 0, .float .f64 ax, .float .f64 ay, .float .f64 x1, .float .f64 y1, .float .f64 0, .float .f64 bx, .float .f64 b_y, .float .f64 x2, .float .f64 y2, .float .f64 0, .float .f64 x3, .float .f64 y3, .float .f64 cx, .float .f64 cy, .float .f64 0, .float .f64 x4, .float .f64 y4, .float .f64 dx, .float .f64 dy] 33)).cell? ⟨w4.heap.size + 1, q * 5, none⟩ = some (.float .f64 (0)) := fun q hq => by
            rw [← eG]
            rcases (show q = 0 ∨ q = 1 ∨ q = 2 ∨ q = 3 by omega) with rfl | rfl | rfl | rfl <;> (simp only [World.cell?_alloc_new]; rfl)
          have hPP : ∀ q, q < 4 → isP (sel4 ax bx x3 x4 q) (sel4 ay b_y y3 y4 q) (sel4 A B (ptF A B C).1 (ptF A B D).1 q) ∧ isP (sel4 x1 x2 cx dx q) (sel4 y1 y2 cy dy q) (sel4 (ptF C D A).1 (ptF C D B).1 C D q) := fun q hq => by
            rcases (show q = 0 ∨ q = 1 ∨ q = 2 ∨ q = 3 by omega) with rfl | rfl | rfl | rfl
            · exact ⟨ha, hq1⟩
            · exact ⟨hb_, hq2⟩
            · exact ⟨hq3, hc_⟩
            · exact ⟨hq4, hd_⟩
          replace z4_0 := keep (bl_alloc (bl_refl w4) #[.float .f64 x4, .float .f64 y4] 24) z4_0; replace z4_1 := keep (bl_alloc (bl_refl w4) #[.float .f64 x4, .float .f64 y4] 24) z4_1; replace z4_2 := keep (bl_alloc (bl_refl w4) #[.float .f64 x4, .float .f64 y4] 24) z4_2; replace z4_3 := keep (bl_alloc (bl_refl w4) #[.float .f64 x4, .float .f64 y4] 24) z4_3; replace z4_4 := keep (bl_alloc (bl_refl w4) #[.float .f64 x4, .float .f64 y4] 24) z4_4
          replace BF : Bel _ (w4.alloc (.cells #[.float .f64 x4, .float .f64 y4] 24)) := bl_alloc BF _ _
          clear z0_0 z0_1 z1_0 z1_1 z2_0 z2_1 z3_0 z3_1 K1_0 K1_1 K2_0 K2_1 K3_0 K3_1
          go_loopw [25, 26] (fun b' i' wr => ∃ (β k : Nat) (fa : Nat → Nat), k ≤ 4 ∧ β < 4 ∧ b' = .int .i64 β ∧ i' = .int .i64 k ∧ Bel (w4.alloc (.cells #[.float .f64 x4, .float .f64 y4] 24)) wr ∧ (∀ q, q < 4 → wr.cell? ⟨w4.heap.size + 1, q * 5 + 1, none⟩ = some (.float .f64 (sel4 ax bx x3 x4 q)) ∧ wr.cell? ⟨w4.heap.size + 1, q * 5 + 2, none⟩ = some (.float .f64 (sel4 ay b_y y3 y4 q)) ∧ wr.cell? ⟨w4.heap.size + 1, q * 5 + 3, none⟩ = some (.float .f64 (sel4 x1 x2 cx dx q)) ∧ wr.cell? ⟨w4.heap.size + 1, q * 5 + 4, none⟩ = some (.float .f64 (sel4 y1 y2 cy dy q))) ∧ (∀ q, q < 4 → wr.cell? ⟨w4.heap.size + 1, q * 5, none⟩ = some (.float .f64 (fa q))) ∧ (k = 0 → β = 0) ∧ (∀ m, k = m + 1 → β < k ∧ isN (fa β) (sel4 ax bx x3 x4 β) (sel4 ay b_y y3 y4 β) (sel4 x1 x2 cx dx β) (sel4 y1 y2 cy dy β) (bF A B C D m))) (fun _ i' _ => 4 - (intOf i').toNat)
          case atStart => exact ⟨0, 0, fun _ => 0, by omega, by omega, rfl, rfl, bl_alloc (bl_refl _) _ _, hT, hF, fun _ => rfl, fun m hm => by omega⟩
          case round =>
            clear hT hF
            obtain ⟨β, k, fa, hk, hβ, rfl, rfl, hB, hT, hF, hz0, hzz⟩ := hrel
            have hlb := fun m hm => (hzz m hm).1
            have hz1 := fun m hm => (hzz m hm).2
            clear hzz
            by_cases hlt : k < 4
            · obtain ⟨hp1, hp2⟩ := hPP k hlt
              obtain ⟨a1, a2, a3, a4⟩ := hT k hlt
              have fE : ∀ o, wr.frozen? ⟨w4.heap.size + 1, o, none⟩ = false := fun o => (hB.2 _).trans (fresh_frozen (by simp only [World.size_alloc]; exact Nat.le_refl _))
              have lk := World.block_lt_of_cell? _ _ a1
              simp only at lk
              have kI : (k : Int) < 4 := by omega
              have kb : (β : Int) < 4 := by omega
              go_wp2
              refine wp_region_ret 17 16 13 rfl (fun i v => match i with | 0 => v = .slice (some ⟨w4.heap.size + 1, 0, none⟩) 4 4 | 1 => v = .int .i64 (k : Int) | 2 => v = .slice (some ⟨w4.heap.size + 1, 0, none⟩) 4 4 | 3 => v = .int .i64 (k : Int) | 4 => v = .pointer (some ⟨w4.heap.size + 1, k * 5, none⟩) | 5 => v = .pointer (some ⟨w4.heap.size + 1, k * 5 + 3, none⟩) | 6 => v = .agg #[.float .f64 (sel4 x1 x2 cx dx k), .float .f64 (sel4 y1 y2 cy dy k)] | 7 => v = .slice (some ⟨w4.heap.size + 1, 0, none⟩) 4 4 | 8 => v = .int .i64 (k : Int) | 9 => v = .pointer (some ⟨w4.heap.size + 1, k * 5, none⟩) | 10 => v = .pointer (some ⟨w4.heap.size + 1, k * 5 + 1, none⟩) | 11 => v = .agg #[.float .f64 (sel4 ax bx x3 x4 k), .float .f64 (sel4 ay b_y y3 y4 k)] | 12 => ∃ x y, isP x y (suF (sel4 (ptF C D A).1 (ptF C D B).1 C D k) (sel4 A B (ptF A B C).1 (ptF A B D).1 k)) ∧ v = .agg #[.float .f64 x, .float .f64 y] | 13 => ∃ r, isF r (lnF (suF (sel4 (ptF C D A).1 (ptF C D B).1 C D k) (sel4 A B (ptF A B C).1 (ptF A B D).1 k))) ∧ v = .float .f64 r | 14 => v = .pointer (some ⟨w4.heap.size + 1, k * 5, none⟩) | 15 => v = .pointer (some ⟨w4.heap.size + 1, k * 5, none⟩) | _ => False) (put1 (w4.heap.size + 1) (k * 5)) ?A_wo0 (by kernel_rfl) (by kernel_rfl) (by kernel_rfl) (by decide) (by decide) ?hA_wo0 ?hst_wo0 ?hq_wo0 ?ht_wo0
              case hA_wo0 =>
                intro s
                simp only [putL, dstO, Act.put, List.getElem?_toArray, List.getElem?_cons_zero, List.getElem?_cons_succ, Option.bind_some, List.setIfInBounds_toArray, List.set_cons_zero, List.set_cons_succ, if_true]
                all_goals exact rfl
              case hst_wo0 =>
                intro o ho s hs W hb K hK
                cases ho
                have u0 := keep hb (hF k hlt); have u9 := fun o => (hb.2 ⟨w4.heap.size + 1, o, none⟩).trans (fE o)
                have e15 : s 15 = _ := hs 15 (by decide) (by kernel_rfl)
                obtain ⟨r, h13, e13⟩ := hs 13 (by decide) (by kernel_rfl)
                simp only [e15, e13] at hK ⊢
                clear hs
                go_simp
                exact hK.out
              case hq_wo0 =>
                intro i o hi hne ho s hs W hb K hK
                have u1 := once_keep1 hb a1 (.inr (by simp only; omega)); have u2 := once_keep1 hb a2 (.inr (by simp only; omega)); have u3 := once_keep1 hb a3 (.inr (by simp only; omega)); have u4 := once_keep1 hb a4 (.inr (by simp only; omega)); have lW := World.block_lt_of_cell? _ _ u1; simp only at lW
                rcases (show i = 0 ∨ i = 1 ∨ i = 2 ∨ i = 3 ∨ i = 4 ∨ i = 5 ∨ i = 6 ∨ i = 7 ∨ i = 8 ∨ i = 9 ∨ i = 10 ∨ i = 11 ∨ i = 12 ∨ i = 13 ∨ i = 14 ∨ i = 15 ∨ i = 16 by omega) with rfl | rfl | rfl | rfl | rfl | rfl | rfl | rfl | rfl | rfl | rfl | rfl | rfl | rfl | rfl | rfl | rfl
                · cases ho
                  simp only [Act.put, List.setIfInBounds_toArray, List.set_cons_zero, List.set_cons_succ] at hK
                  clear hs hne
                  go_simp
                  all_goals (try go_wp2_with (first | (go_at_call 40; refine (minus_n _ hp2 hp1).mono ?_; rintro e w' ⟨x, y, h12, rfl, hb1⟩) | (go_at_call 51; refine (length_n _ h12).mono ?_; rintro e w' ⟨r, h13, rfl, hb1⟩)))
                  all_goals first | exact hK.out _ _ ⟨_, _, h12, rfl⟩ hb1 | exact hK.out _ _ ⟨_, h13, rfl⟩ hb1 | exact hK.out _ _ rfl (bl_refl _) | exact hK.out _ _ rfl (by assumption) | exact hK.out _ _ (by assumption) (by assumption)
                · cases ho
                  simp only [Act.put, List.setIfInBounds_toArray, List.set_cons_zero, List.set_cons_succ] at hK
                  clear hs hne
                  go_simp
                  all_goals (try go_wp2_with (first | (go_at_call 40; refine (minus_n _ hp2 hp1).mono ?_; rintro e w' ⟨x, y, h12, rfl, hb1⟩) | (go_at_call 51; refine (length_n _ h12).mono ?_; rintro e w' ⟨r, h13, rfl, hb1⟩)))
                  all_goals first | exact hK.out _ _ ⟨_, _, h12, rfl⟩ hb1 | exact hK.out _ _ ⟨_, h13, rfl⟩ hb1 | exact hK.out _ _ rfl (bl_refl _) | exact hK.out _ _ rfl (by assumption) | exact hK.out _ _ (by assumption) (by assumption)
                · cases ho
                  simp only [Act.put, List.setIfInBounds_toArray, List.set_cons_zero, List.set_cons_succ] at hK
                  clear hs hne
                  go_simp
                  all_goals (try go_wp2_with (first | (go_at_call 40; refine (minus_n _ hp2 hp1).mono ?_; rintro e w' ⟨x, y, h12, rfl, hb1⟩) | (go_at_call 51; refine (length_n _ h12).mono ?_; rintro e w' ⟨r, h13, rfl, hb1⟩)))
                  all_goals first | exact hK.out _ _ ⟨_, _, h12, rfl⟩ hb1 | exact hK.out _ _ ⟨_, h13, rfl⟩ hb1 | exact hK.out _ _ rfl (bl_refl _) | exact hK.out _ _ rfl (by assumption) | exact hK.out _ _ (by assumption) (by assumption)
                · cases ho
                  simp only [Act.put, List.setIfInBounds_toArray, List.set_cons_zero, List.set_cons_succ] at hK
                  clear hs hne
                  go_simp
                  all_goals (try go_wp2_with (first | (go_at_call 40; refine (minus_n _ hp2 hp1).mono ?_; rintro e w' ⟨x, y, h12, rfl, hb1⟩) | (go_at_call 51; refine (length_n _ h12).mono ?_; rintro e w' ⟨r, h13, rfl, hb1⟩)))
                  all_goals first | exact hK.out _ _ ⟨_, _, h12, rfl⟩ hb1 | exact hK.out _ _ ⟨_, h13, rfl⟩ hb1 | exact hK.out _ _ rfl (bl_refl _) | exact hK.out _ _ rfl (by assumption) | exact hK.out _ _ (by assumption) (by assumption)
                · cases ho
                  have e2 : s 2 = _ := hs 2 (by decide) (by decide) (by kernel_rfl)
                  have e3 : s 3 = _ := hs 3 (by decide) (by decide) (by kernel_rfl)
                  simp only [e2, e3] at hK ⊢
                  simp only [Act.put, List.setIfInBounds_toArray, List.set_cons_zero, List.set_cons_succ] at hK
                  clear hs hne
                  go_simp
                  all_goals (try go_wp2_with (first | (go_at_call 40; refine (minus_n _ hp2 hp1).mono ?_; rintro e w' ⟨x, y, h12, rfl, hb1⟩) | (go_at_call 51; refine (length_n _ h12).mono ?_; rintro e w' ⟨r, h13, rfl, hb1⟩)))
                  all_goals first | exact hK.out _ _ ⟨_, _, h12, rfl⟩ hb1 | exact hK.out _ _ ⟨_, h13, rfl⟩ hb1 | exact hK.out _ _ rfl (bl_refl _) | exact hK.out _ _ rfl (by assumption) | exact hK.out _ _ (by assumption) (by assumption)
                · cases ho
                  have e4 : s 4 = _ := hs 4 (by decide) (by decide) (by kernel_rfl)
                  simp only [e4] at hK ⊢
                  simp only [Act.put, List.setIfInBounds_toArray, List.set_cons_zero, List.set_cons_succ] at hK
                  clear hs hne
                  go_simp
                  all_goals (try go_wp2_with (first | (go_at_call 40; refine (minus_n _ hp2 hp1).mono ?_; rintro e w' ⟨x, y, h12, rfl, hb1⟩) | (go_at_call 51; refine (length_n _ h12).mono ?_; rintro e w' ⟨r, h13, rfl, hb1⟩)))
                  all_goals first | exact hK.out _ _ ⟨_, _, h12, rfl⟩ hb1 | exact hK.out _ _ ⟨_, h13, rfl⟩ hb1 | exact hK.out _ _ rfl (bl_refl _) | exact hK.out _ _ rfl (by assumption) | exact hK.out _ _ (by assumption) (by assumption)
                · cases ho
                  have e5 : s 5 = _ := hs 5 (by decide) (by decide) (by kernel_rfl)
                  simp only [e5] at hK ⊢
                  simp only [Act.put, List.setIfInBounds_toArray, List.set_cons_zero, List.set_cons_succ] at hK
                  clear hs hne
                  go_simp
                  all_goals (try go_wp2_with (first | (go_at_call 40; refine (minus_n _ hp2 hp1).mono ?_; rintro e w' ⟨x, y, h12, rfl, hb1⟩) | (go_at_call 51; refine (length_n _ h12).mono ?_; rintro e w' ⟨r, h13, rfl, hb1⟩)))
                  all_goals first | exact hK.out _ _ ⟨_, _, h12, rfl⟩ hb1 | exact hK.out _ _ ⟨_, h13, rfl⟩ hb1 | exact hK.out _ _ rfl (bl_refl _) | exact hK.out _ _ rfl (by assumption) | exact hK.out _ _ (by assumption) (by assumption)
                · cases ho
                  simp only [Act.put, List.setIfInBounds_toArray, List.set_cons_zero, List.set_cons_succ] at hK
                  clear hs hne
                  go_simp
                  all_goals (try go_wp2_with (first | (go_at_call 40; refine (minus_n _ hp2 hp1).mono ?_; rintro e w' ⟨x, y, h12, rfl, hb1⟩) | (go_at_call 51; refine (length_n _ h12).mono ?_; rintro e w' ⟨r, h13, rfl, hb1⟩)))
                  all_goals first | exact hK.out _ _ ⟨_, _, h12, rfl⟩ hb1 | exact hK.out _ _ ⟨_, h13, rfl⟩ hb1 | exact hK.out _ _ rfl (bl_refl _) | exact hK.out _ _ rfl (by assumption) | exact hK.out _ _ (by assumption) (by assumption)
                · cases ho
                  simp only [Act.put, List.setIfInBounds_toArray, List.set_cons_zero, List.set_cons_succ] at hK
                  clear hs hne
                  go_simp
                  all_goals (try go_wp2_with (first | (go_at_call 40; refine (minus_n _ hp2 hp1).mono ?_; rintro e w' ⟨x, y, h12, rfl, hb1⟩) | (go_at_call 51; refine (length_n _ h12).mono ?_; rintro e w' ⟨r, h13, rfl, hb1⟩)))
                  all_goals first | exact hK.out _ _ ⟨_, _, h12, rfl⟩ hb1 | exact hK.out _ _ ⟨_, h13, rfl⟩ hb1 | exact hK.out _ _ rfl (bl_refl _) | exact hK.out _ _ rfl (by assumption) | exact hK.out _ _ (by assumption) (by assumption)
                · cases ho
                  have e7 : s 7 = _ := hs 7 (by decide) (by decide) (by kernel_rfl)
                  have e8 : s 8 = _ := hs 8 (by decide) (by decide) (by kernel_rfl)
                  simp only [e7, e8] at hK ⊢
                  simp only [Act.put, List.setIfInBounds_toArray, List.set_cons_zero, List.set_cons_succ] at hK
                  clear hs hne
                  go_simp
                  all_goals (try go_wp2_with (first | (go_at_call 40; refine (minus_n _ hp2 hp1).mono ?_; rintro e w' ⟨x, y, h12, rfl, hb1⟩) | (go_at_call 51; refine (length_n _ h12).mono ?_; rintro e w' ⟨r, h13, rfl, hb1⟩)))
                  all_goals first | exact hK.out _ _ ⟨_, _, h12, rfl⟩ hb1 | exact hK.out _ _ ⟨_, h13, rfl⟩ hb1 | exact hK.out _ _ rfl (bl_refl _) | exact hK.out _ _ rfl (by assumption) | exact hK.out _ _ (by assumption) (by assumption)
                · cases ho
                  have e9 : s 9 = _ := hs 9 (by decide) (by decide) (by kernel_rfl)
                  simp only [e9] at hK ⊢
                  simp only [Act.put, List.setIfInBounds_toArray, List.set_cons_zero, List.set_cons_succ] at hK
                  clear hs hne
                  go_simp
                  all_goals (try go_wp2_with (first | (go_at_call 40; refine (minus_n _ hp2 hp1).mono ?_; rintro e w' ⟨x, y, h12, rfl, hb1⟩) | (go_at_call 51; refine (length_n _ h12).mono ?_; rintro e w' ⟨r, h13, rfl, hb1⟩)))
                  all_goals first | exact hK.out _ _ ⟨_, _, h12, rfl⟩ hb1 | exact hK.out _ _ ⟨_, h13, rfl⟩ hb1 | exact hK.out _ _ rfl (bl_refl _) | exact hK.out _ _ rfl (by assumption) | exact hK.out _ _ (by assumption) (by assumption)
                · cases ho
                  have e10 : s 10 = _ := hs 10 (by decide) (by decide) (by kernel_rfl)
                  simp only [e10] at hK ⊢
                  simp only [Act.put, List.setIfInBounds_toArray, List.set_cons_zero, List.set_cons_succ] at hK
                  clear hs hne
                  go_simp
                  all_goals (try go_wp2_with (first | (go_at_call 40; refine (minus_n _ hp2 hp1).mono ?_; rintro e w' ⟨x, y, h12, rfl, hb1⟩) | (go_at_call 51; refine (length_n _ h12).mono ?_; rintro e w' ⟨r, h13, rfl, hb1⟩)))
                  all_goals first | exact hK.out _ _ ⟨_, _, h12, rfl⟩ hb1 | exact hK.out _ _ ⟨_, h13, rfl⟩ hb1 | exact hK.out _ _ rfl (bl_refl _) | exact hK.out _ _ rfl (by assumption) | exact hK.out _ _ (by assumption) (by assumption)
                · cases ho
                  have e6 : s 6 = _ := hs 6 (by decide) (by decide) (by kernel_rfl)
                  have e11 : s 11 = _ := hs 11 (by decide) (by decide) (by kernel_rfl)
                  simp only [e6, e11] at hK ⊢
                  simp only [Act.put, List.setIfInBounds_toArray, List.set_cons_zero, List.set_cons_succ] at hK
                  clear hs hne
                  go_simp
                  all_goals (try go_wp2_with (first | (go_at_call 40; refine (minus_n _ hp2 hp1).mono ?_; rintro e w' ⟨x, y, h12, rfl, hb1⟩) | (go_at_call 51; refine (length_n _ h12).mono ?_; rintro e w' ⟨r, h13, rfl, hb1⟩)))
                  all_goals first | exact hK.out _ _ ⟨_, _, h12, rfl⟩ hb1 | exact hK.out _ _ ⟨_, h13, rfl⟩ hb1 | exact hK.out _ _ rfl (bl_refl _) | exact hK.out _ _ rfl (by assumption) | exact hK.out _ _ (by assumption) (by assumption)
                · cases ho
                  obtain ⟨x, y, h12, e12⟩ := hs 12 (by decide) (by decide) (by kernel_rfl)
                  simp only [e12] at hK ⊢
                  simp only [Act.put, List.setIfInBounds_toArray, List.set_cons_zero, List.set_cons_succ] at hK
                  clear hs hne
                  go_simp
                  all_goals (try go_wp2_with (first | (go_at_call 40; refine (minus_n _ hp2 hp1).mono ?_; rintro e w' ⟨x, y, h12, rfl, hb1⟩) | (go_at_call 51; refine (length_n _ h12).mono ?_; rintro e w' ⟨r, h13, rfl, hb1⟩)))
                  all_goals first | exact hK.out _ _ ⟨_, _, h12, rfl⟩ hb1 | exact hK.out _ _ ⟨_, h13, rfl⟩ hb1 | exact hK.out _ _ rfl (bl_refl _) | exact hK.out _ _ rfl (by assumption) | exact hK.out _ _ (by assumption) (by assumption)
                · cases ho
                  have e0 : s 0 = _ := hs 0 (by decide) (by decide) (by kernel_rfl)
                  have e1 : s 1 = _ := hs 1 (by decide) (by decide) (by kernel_rfl)
                  simp only [e0, e1] at hK ⊢
                  simp only [Act.put, List.setIfInBounds_toArray, List.set_cons_zero, List.set_cons_succ] at hK
                  clear hs hne
                  go_simp
                  all_goals (try go_wp2_with (first | (go_at_call 40; refine (minus_n _ hp2 hp1).mono ?_; rintro e w' ⟨x, y, h12, rfl, hb1⟩) | (go_at_call 51; refine (length_n _ h12).mono ?_; rintro e w' ⟨r, h13, rfl, hb1⟩)))
                  all_goals first | exact hK.out _ _ ⟨_, _, h12, rfl⟩ hb1 | exact hK.out _ _ ⟨_, h13, rfl⟩ hb1 | exact hK.out _ _ rfl (bl_refl _) | exact hK.out _ _ rfl (by assumption) | exact hK.out _ _ (by assumption) (by assumption)
                · cases ho
                  have e14 : s 14 = _ := hs 14 (by decide) (by decide) (by kernel_rfl)
                  simp only [e14] at hK ⊢
                  simp only [Act.put, List.setIfInBounds_toArray, List.set_cons_zero, List.set_cons_succ] at hK
                  clear hs hne
                  go_simp
                  all_goals (try go_wp2_with (first | (go_at_call 40; refine (minus_n _ hp2 hp1).mono ?_; rintro e w' ⟨x, y, h12, rfl, hb1⟩) | (go_at_call 51; refine (length_n _ h12).mono ?_; rintro e w' ⟨r, h13, rfl, hb1⟩)))
                  all_goals first | exact hK.out _ _ ⟨_, _, h12, rfl⟩ hb1 | exact hK.out _ _ ⟨_, h13, rfl⟩ hb1 | exact hK.out _ _ rfl (bl_refl _) | exact hK.out _ _ rfl (by assumption) | exact hK.out _ _ (by assumption) (by assumption)
                · exact absurd rfl hne
              case ht_wo0 =>
                intro s hs W0 W hb0 hb
                have e0 : s 0 = _ := hs 0 (by decide) (by decide)
                have e1 : s 1 = _ := hs 1 (by decide) (by decide)
                have e2 : s 2 = _ := hs 2 (by decide) (by decide)
                have e3 : s 3 = _ := hs 3 (by decide) (by decide)
                have e4 : s 4 = _ := hs 4 (by decide) (by decide)
                have e5 : s 5 = _ := hs 5 (by decide) (by decide)
                have e6 : s 6 = _ := hs 6 (by decide) (by decide)
                have e7 : s 7 = _ := hs 7 (by decide) (by decide)
                have e8 : s 8 = _ := hs 8 (by decide) (by decide)
                have e9 : s 9 = _ := hs 9 (by decide) (by decide)
                have e10 : s 10 = _ := hs 10 (by decide) (by decide)
                have e11 : s 11 = _ := hs 11 (by decide) (by decide)
                obtain ⟨_, _, _, e12⟩ := hs 12 (by decide) (by decide)
                obtain ⟨r, h13, e13⟩ := hs 13 (by decide) (by decide)
                have e14 : s 14 = _ := hs 14 (by decide) (by decide)
                have e15 : s 15 = _ := hs 15 (by decide) (by decide)
                simp only [e0, e1, e2, e3, e4, e5, e6, e7, e8, e9, e10, e11, e12, e13, e14, e15]
                rw [e13] at hb
                clear hs e0 e1 e2 e3 e4 e5 e6 e7 e8 e9 e10 e11 e12 e13 e14 e15
                have hk0 : Bel (w4.alloc (.cells #[.float .f64 x4, .float .f64 y4] 24)) W := bl_trans (put1_bel (bl_trans hB hb0) (by simp only [World.size_alloc]; omega)) hb
                have hT1 : ∀ q, q < 4 → W.cell? ⟨w4.heap.size + 1, q * 5 + 1, none⟩ = some (.float .f64 (sel4 ax bx x3 x4 q)) ∧ W.cell? ⟨w4.heap.size + 1, q * 5 + 2, none⟩ = some (.float .f64 (sel4 ay b_y y3 y4 q)) ∧ W.cell? ⟨w4.heap.size + 1, q * 5 + 3, none⟩ = some (.float .f64 (sel4 x1 x2 cx dx q)) ∧ W.cell? ⟨w4.heap.size + 1, q * 5 + 4, none⟩ = some (.float .f64 (sel4 y1 y2 cy dy q)) := fun q hq => by
                  obtain ⟨a1, a2, a3, a4⟩ := hT q hq
                  exact ⟨keep hb ((put1_far (.inr (by simp only; omega))).trans (keep hb0 a1)), keep hb ((put1_far (.inr (by simp only; omega))).trans (keep hb0 a2)), keep hb ((put1_far (.inr (by simp only; omega))).trans (keep hb0 a3)), keep hb ((put1_far (.inr (by simp only; omega))).trans (keep hb0 a4))⟩
                have hF1 : ∀ q, q < 4 → W.cell? ⟨w4.heap.size + 1, q * 5, none⟩ = some (.float .f64 (if q = k then r else fa q)) := fun q hq => by
                  by_cases e : q = k
                  · subst e
                    rw [if_pos rfl]
                    exact keep hb (World.cell?_setCell_same _ _ _ (keep hb0 (hF q hq)))
                  · rw [if_neg e]
                    exact keep hb ((put1_far (.inr (by simp only; omega))).trans (keep hb0 (hF q hq)))
                clear hb hb0 hB hT hF
                generalize hg : (fun q => if q = k then r else fa q) = fb at hF1
                have hkr : fb k = r := by rw [← hg]; simp
                have hbo : ∀ q, q ≠ k → fb q = fa q := fun q h => by rw [← hg]; simp [h]
                replace hF1 : ∀ q, q < 4 → W.cell? ⟨w4.heap.size + 1, q * 5, none⟩ = some (.float .f64 (fb q)) := fun q hq => by rw [hF1 q hq, ← hg]
                clear hg
                subst hkr
                have cK := hF1 k hlt
                have cB := hF1 β hβ
                have lW := World.block_lt_of_cell? _ _ cK
                simp only at lW
                go_wp2
                refine wp_region_mono 11 rfl (fun i W v => match i with | 0 => v = .slice (some ⟨w4.heap.size + 1, 0, none⟩) 4 4 | 1 => v = .int .i64 (k : Int) | 2 => v = .pointer (some ⟨w4.heap.size + 1, k * 5, none⟩) | 3 => v = .pointer (some ⟨w4.heap.size + 1, k * 5, none⟩) | 4 => v = .float .f64 (fb k) | 5 => v = .slice (some ⟨w4.heap.size + 1, 0, none⟩) 4 4 | 6 => v = .int .i64 (β : Int) | 7 => v = .pointer (some ⟨w4.heap.size + 1, β * 5, none⟩) | 8 => v = .pointer (some ⟨w4.heap.size + 1, β * 5, none⟩) | 9 => v = .float .f64 (fb β) | 10 => v = .bool (ltK .f64 (fb k) (fb β)) | _ => False) ?A_wz0 (by kernel_rfl) (by kernel_rfl) ?hA_wz0 ?hmo_wz0 ?hq_wz0 ?ht_wz0
                case hA_wz0 =>
                  intro s
                  simp only [putL, dstO, Act.put, List.getElem?_toArray, List.getElem?_cons_zero, List.getElem?_cons_succ, Option.bind_some, List.setIfInBounds_toArray, List.set_cons_zero, List.set_cons_succ, if_true]
                  all_goals exact rfl
                case hmo_wz0 =>
                  intro i W W' v hi hb h
                  rcases (show i = 0 ∨ i = 1 ∨ i = 2 ∨ i = 3 ∨ i = 4 ∨ i = 5 ∨ i = 6 ∨ i = 7 ∨ i = 8 ∨ i = 9 ∨ i = 10 by omega) with rfl | rfl | rfl | rfl | rfl | rfl | rfl | rfl | rfl | rfl | rfl
                  all_goals first | exact h
                case hq_wz0 =>
                  intro i o hi ho s W hs hb K hK
                  have c2 := cmp_lt .f64; have uK := keep hb cK; have uB := keep hb cB; have lZ := World.block_lt_of_cell? _ _ uK; simp only at lZ
                  rcases (show i = 0 ∨ i = 1 ∨ i = 2 ∨ i = 3 ∨ i = 4 ∨ i = 5 ∨ i = 6 ∨ i = 7 ∨ i = 8 ∨ i = 9 ∨ i = 10 by omega) with rfl | rfl | rfl | rfl | rfl | rfl | rfl | rfl | rfl | rfl | rfl
                  · cases ho
                    simp only [Act.put, List.setIfInBounds_toArray, List.set_cons_zero, List.set_cons_succ] at hK
                    clear hs
                    go_simp
                    all_goals first | exact hK.out _ _ rfl (bl_refl _) | exact hK.out _ _ rfl (by assumption) | exact hK.out _ _ (by assumption) (by assumption)
                  · cases ho
                    simp only [Act.put, List.setIfInBounds_toArray, List.set_cons_zero, List.set_cons_succ] at hK
                    clear hs
                    go_simp
                    all_goals first | exact hK.out _ _ rfl (bl_refl _) | exact hK.out _ _ rfl (by assumption) | exact hK.out _ _ (by assumption) (by assumption)
                  · cases ho
                    have e0 : s 0 = _ := hs 0 (by decide) (by kernel_rfl)
                    have e1 : s 1 = _ := hs 1 (by decide) (by kernel_rfl)
                    simp only [e0, e1] at hK ⊢
                    simp only [Act.put, List.setIfInBounds_toArray, List.set_cons_zero, List.set_cons_succ] at hK
                    clear hs
                    go_simp
                    all_goals first | exact hK.out _ _ rfl (bl_refl _) | exact hK.out _ _ rfl (by assumption) | exact hK.out _ _ (by assumption) (by assumption)
                  · cases ho
                    have e2 : s 2 = _ := hs 2 (by decide) (by kernel_rfl)
                    simp only [e2] at hK ⊢
                    simp only [Act.put, List.setIfInBounds_toArray, List.set_cons_zero, List.set_cons_succ] at hK
                    clear hs
                    go_simp
                    all_goals first | exact hK.out _ _ rfl (bl_refl _) | exact hK.out _ _ rfl (by assumption) | exact hK.out _ _ (by assumption) (by assumption)
                  · cases ho
                    have e3 : s 3 = _ := hs 3 (by decide) (by kernel_rfl)
                    simp only [e3] at hK ⊢
                    simp only [Act.put, List.setIfInBounds_toArray, List.set_cons_zero, List.set_cons_succ] at hK
                    clear hs
                    go_simp
                    all_goals first | exact hK.out _ _ rfl (bl_refl _) | exact hK.out _ _ rfl (by assumption) | exact hK.out _ _ (by assumption) (by assumption)
                  · cases ho
                    simp only [Act.put, List.setIfInBounds_toArray, List.set_cons_zero, List.set_cons_succ] at hK
                    clear hs
                    go_simp
                    all_goals first | exact hK.out _ _ rfl (bl_refl _) | exact hK.out _ _ rfl (by assumption) | exact hK.out _ _ (by assumption) (by assumption)
                  · cases ho
                    simp only [Act.put, List.setIfInBounds_toArray, List.set_cons_zero, List.set_cons_succ] at hK
                    clear hs
                    go_simp
                    all_goals first | exact hK.out _ _ rfl (bl_refl _) | exact hK.out _ _ rfl (by assumption) | exact hK.out _ _ (by assumption) (by assumption)
                  · cases ho
                    have e5 : s 5 = _ := hs 5 (by decide) (by kernel_rfl)
                    have e6 : s 6 = _ := hs 6 (by decide) (by kernel_rfl)
                    simp only [e5, e6] at hK ⊢
                    simp only [Act.put, List.setIfInBounds_toArray, List.set_cons_zero, List.set_cons_succ] at hK
                    clear hs
                    go_simp
                    all_goals first | exact hK.out _ _ rfl (bl_refl _) | exact hK.out _ _ rfl (by assumption) | exact hK.out _ _ (by assumption) (by assumption)
                  · cases ho
                    have e7 : s 7 = _ := hs 7 (by decide) (by kernel_rfl)
                    simp only [e7] at hK ⊢
                    simp only [Act.put, List.setIfInBounds_toArray, List.set_cons_zero, List.set_cons_succ] at hK
                    clear hs
                    go_simp
                    all_goals first | exact hK.out _ _ rfl (bl_refl _) | exact hK.out _ _ rfl (by assumption) | exact hK.out _ _ (by assumption) (by assumption)
                  · cases ho
                    have e8 : s 8 = _ := hs 8 (by decide) (by kernel_rfl)
                    simp only [e8] at hK ⊢
                    simp only [Act.put, List.setIfInBounds_toArray, List.set_cons_zero, List.set_cons_succ] at hK
                    clear hs
                    go_simp
                    all_goals first | exact hK.out _ _ rfl (bl_refl _) | exact hK.out _ _ rfl (by assumption) | exact hK.out _ _ (by assumption) (by assumption)
                  · cases ho
                    have e4 : s 4 = _ := hs 4 (by decide) (by kernel_rfl)
                    have e9 : s 9 = _ := hs 9 (by decide) (by kernel_rfl)
                    simp only [e4, e9] at hK ⊢
                    simp only [Act.put, List.setIfInBounds_toArray, List.set_cons_zero, List.set_cons_succ] at hK
                    clear hs
                    go_simp
                    all_goals first | exact hK.out _ _ rfl (bl_refl _) | exact hK.out _ _ rfl (by assumption) | exact hK.out _ _ (by assumption) (by assumption)
                case ht_wz0 =>
                  intro s Wz hs hb
                  have e0 : s 0 = _ := hs 0 (by decide)
                  have e1 : s 1 = _ := hs 1 (by decide)
                  have e2 : s 2 = _ := hs 2 (by decide)
                  have e3 : s 3 = _ := hs 3 (by decide)
                  have e4 : s 4 = _ := hs 4 (by decide)
                  have e5 : s 5 = _ := hs 5 (by decide)
                  have e6 : s 6 = _ := hs 6 (by decide)
                  have e7 : s 7 = _ := hs 7 (by decide)
                  have e8 : s 8 = _ := hs 8 (by decide)
                  have e9 : s 9 = _ := hs 9 (by decide)
                  have e10 : s 10 = _ := hs 10 (by decide)
                  simp only [e0, e1, e2, e3, e4, e5, e6, e7, e8, e9, e10]
                  clear hs e0 e1 e2 e3 e4 e5 e6 e7 e8 e9 e10
                  have hB := bl_trans hk0 hb
                  have hT2 : ∀ q, q < 4 → Wz.cell? ⟨w4.heap.size + 1, q * 5 + 1, none⟩ = some (.float .f64 (sel4 ax bx x3 x4 q)) ∧ Wz.cell? ⟨w4.heap.size + 1, q * 5 + 2, none⟩ = some (.float .f64 (sel4 ay b_y y3 y4 q)) ∧ Wz.cell? ⟨w4.heap.size + 1, q * 5 + 3, none⟩ = some (.float .f64 (sel4 x1 x2 cx dx q)) ∧ Wz.cell? ⟨w4.heap.size + 1, q * 5 + 4, none⟩ = some (.float .f64 (sel4 y1 y2 cy dy q)) := fun q hq => by
                    obtain ⟨a1, a2, a3, a4⟩ := hT1 q hq
                    exact ⟨keep hb a1, keep hb a2, keep hb a3, keep hb a4⟩
                  have hF2 : ∀ q, q < 4 → Wz.cell? ⟨w4.heap.size + 1, q * 5, none⟩ = some (.float .f64 (fb q)) := fun q hq => keep hb (hF1 q hq)
                  clear hb hk0 hT1 hF1 cK cB
                  have hNk : isN (fb k) (sel4 ax bx x3 x4 k) (sel4 ay b_y y3 y4 k) (sel4 x1 x2 cx dx k) (sel4 y1 y2 cy dy k) (apN (sel4 A B (ptF A B C).1 (ptF A B D).1 k) (sel4 (ptF C D A).1 (ptF C D B).1 C D k)) := ⟨h13, hp1, hp2⟩
                  by_cases hk0 : k = 0
                  · subst hk0
                    have hb0 := hz0 rfl
                    subst hb0
                    have hlf : ltK .f64 (fb 0) (fb 0) = false := by unfold ltK; simp
                    rw [hlf]
                    go_wp2
                    refine ⟨⟨0, 1, fb, by omega, by omega, by go_num, by go_num, hB, hT2, hF2, by omega, fun m hm => ?_⟩, by simp [intOf]⟩
                    obtain rfl : m = 0 := by omega
                    exact ⟨by omega, hNk⟩
                  · obtain ⟨m, rfl⟩ : ∃ m, k = m + 1 := ⟨k - 1, by omega⟩
                    have hbk : β ≠ m + 1 := by have := hlb m rfl; omega
                    have hNb := hz1 m rfl
                    rw [← hbo β hbk] at hNb
                    obtain ⟨g1, g2⟩ := isN_nr hNb hNk
                    rw [← bF_step m (by omega)] at g1 g2
                    cases hl : ltK .f64 (fb (m + 1)) (fb β)
                    · go_wp2
                      refine ⟨⟨β, m + 1 + 1, fb, by omega, by omega, by go_num, by go_num, hB, hT2, hF2, by omega, fun m' hm => ?_⟩, by simp [intOf]; omega⟩
                      obtain rfl : m' = m + 1 := by omega
                      exact ⟨by have := hlb m rfl; omega, g2 hl⟩
                    · go_wp2
                      refine ⟨⟨m + 1, m + 1 + 1, fb, by omega, by omega, by go_num, by go_num, hB, hT2, hF2, by omega, fun m' hm => ?_⟩, by simp [intOf]; omega⟩
                      obtain rfl : m' = m + 1 := by omega
                      exact ⟨by omega, g1 hl⟩
            · obtain rfl : k = 4 := by omega
              have hN := hz1 3 rfl
              obtain ⟨a1, a2, a3, a4⟩ := hT β hβ
              have a0 := hF β hβ
              have lk := World.block_lt_of_cell? _ _ a1
              simp only at lk
              have kb : (β : Int) < 4 := by omega
              replace z4_0 := keep hB z4_0; replace z4_1 := keep hB z4_1; replace z4_2 := keep hB z4_2; replace z4_3 := keep hB z4_3; replace z4_4 := keep hB z4_4
              have fE : ∀ o, wr.frozen? ⟨w.heap.size + 1 + 1 + 1 + 1, o, none⟩ = false := fun o => (hB.2 _).trans ((BF.2 _).trans (fR o))
              replace BF := bl_trans BF hB
              go_wp2
              obtain ⟨X, hX, r0, r1, r2, r3, r4, -, bX⟩ := put5_all (p := .float .f64 (fa β)) (q := .float .f64 (sel4 ax bx x3 x4 β)) (r := .float .f64 (sel4 ay b_y y3 y4 β)) (s := .float .f64 (sel4 x1 x2 cx dx β)) (t := .float .f64 (sel4 y1 y2 cy dy β)) z4_0 z4_1 z4_2 z4_3 z4_4
              rw [← hX]
              refine bodyPost_ret (v := .agg #[.float .f64 (fa β), .float .f64 (sel4 ax bx x3 x4 β), .float .f64 (sel4 ay b_y y3 y4 β), .float .f64 (sel4 x1 x2 cx dx β), .float .f64 (sel4 y1 y2 cy dy β)]) (by simp [r0, r1, r2, r3, r4, results, Try.results14, go_sem] <;> (first | exact ⟨rfl, rfl, rfl, rfl, rfl⟩ | rfl)) rfl ⟨_, _, _, _, _, by rw [e0]; exact hN, rfl, bX _ (bl_trans B0 BF) (by omega)⟩
        · have e0 : segF A B C D = endF A B C D := by unfold segF acF; rw [q1, q2]; rfl
          clear k_p6_0 k_p6_1 k_p7_0 k_p7_1
          go_wp2_with (first | (go_at_call 50; with_reducible refine (across_n _ hs0 ht0).mono ?_; rintro e w' ⟨rfl, rfl⟩; rw [q1]) | (go_at_call 50; with_reducible refine (across_n _ hu0 hv0).mono ?_; rintro e w' ⟨rfl, rfl⟩; rw [q2]) | (go_at_call 9; with_reducible refine (rpoint_n _ hc_ hd_ ha).mono ?_; rintro e w1 ⟨x1, y1, t1, hq1, ht1, rfl, hb⟩; replace z0_0 : w1.cell? ⟨w.heap.size, 0, none⟩ = some (.float .f64 ax) := keep hb (by first | exact z0_0 | go_keep); replace z0_1 : w1.cell? ⟨w.heap.size, 1, none⟩ = some (.float .f64 ay) := keep hb (by first | exact z0_1 | go_keep); replace z1_0 : w1.cell? ⟨w.heap.size + 1, 0, none⟩ = some (.float .f64 bx) := keep hb (by first | exact z1_0 | go_keep); replace z1_1 : w1.cell? ⟨w.heap.size + 1, 1, none⟩ = some (.float .f64 b_y) := keep hb (by first | exact z1_1 | go_keep); replace z2_0 : w1.cell? ⟨w.heap.size + 1 + 1, 0, none⟩ = some (.float .f64 cx) := keep hb (by first | exact z2_0 | go_keep); replace z2_1 : w1.cell? ⟨w.heap.size + 1 + 1, 1, none⟩ = some (.float .f64 cy) := keep hb (by first | exact z2_1 | go_keep); replace z3_0 : w1.cell? ⟨w.heap.size + 1 + 1 + 1, 0, none⟩ = some (.float .f64 dx) := keep hb (by first | exact z3_0 | go_keep); replace z3_1 : w1.cell? ⟨w.heap.size + 1 + 1 + 1, 1, none⟩ = some (.float .f64 dy) := keep hb (by first | exact z3_1 | go_keep); replace z4_0 : w1.cell? ⟨w.heap.size + 1 + 1 + 1 + 1, 0, none⟩ = some (.float .f64 0) := keep hb (by first | exact z4_0 | go_keep); replace z4_1 : w1.cell? ⟨w.heap.size + 1 + 1 + 1 + 1, 1, none⟩ = some (.float .f64 0) := keep hb (by first | exact z4_1 | go_keep); replace z4_2 : w1.cell? ⟨w.heap.size + 1 + 1 + 1 + 1, 2, none⟩ = some (.float .f64 0) := keep hb (by first | exact z4_2 | go_keep); replace z4_3 : w1.cell? ⟨w.heap.size + 1 + 1 + 1 + 1, 3, none⟩ = some (.float .f64 0) := keep hb (by first | exact z4_3 | go_keep); replace z4_4 : w1.cell? ⟨w.heap.size + 1 + 1 + 1 + 1, 4, none⟩ = some (.float .f64 0) := keep hb (by first | exact z4_4 | go_keep); replace BF := bl_trans (by repeat (first | exact BF | apply bl_alloc | refine bl_set ?_ (by (try simp only [World.size_alloc]); omega))) hb; clear hb; have hz1 := BF.size; simp only [World.size_alloc] at hz1; have l10 : w.heap.size < w1.heap.size := (by omega); have l11 : w.heap.size + 1 < w1.heap.size := (by omega); have l12 : w.heap.size + 1 + 1 < w1.heap.size := (by omega); have l13 : w.heap.size + 1 + 1 + 1 < w1.heap.size := (by omega); have l14 : w.heap.size + 1 + 1 + 1 + 1 < w1.heap.size := (by omega)) | (go_at_call 9; with_reducible refine (rpoint_n _ hc_ hd_ hb_).mono ?_; rintro e w2 ⟨x2, y2, t2, hq2, ht2, rfl, hb⟩; replace z0_0 : w2.cell? ⟨w.heap.size, 0, none⟩ = some (.float .f64 ax) := keep hb (by first | exact z0_0 | go_keep); replace z0_1 : w2.cell? ⟨w.heap.size, 1, none⟩ = some (.float .f64 ay) := keep hb (by first | exact z0_1 | go_keep); replace z1_0 : w2.cell? ⟨w.heap.size + 1, 0, none⟩ = some (.float .f64 bx) := keep hb (by first | exact z1_0 | go_keep); replace z1_1 : w2.cell? ⟨w.heap.size + 1, 1, none⟩ = some (.float .f64 b_y) := keep hb (by first | exact z1_1 | go_keep); replace z2_0 : w2.cell? ⟨w.heap.size + 1 + 1, 0, none⟩ = some (.float .f64 cx) := keep hb (by first | exact z2_0 | go_keep); replace z2_1 : w2.cell? ⟨w.heap.size + 1 + 1, 1, none⟩ = some (.float .f64 cy) := keep hb (by first | exact z2_1 | go_keep); replace z3_0 : w2.cell? ⟨w.heap.size + 1 + 1 + 1, 0, none⟩ = some (.float .f64 dx) := keep hb (by first | exact z3_0 | go_keep); replace z3_1 : w2.cell? ⟨w.heap.size + 1 + 1 + 1, 1, none⟩ = some (.float .f64 dy) := keep hb (by first | exact z3_1 | go_keep); replace z4_0 : w2.cell? ⟨w.heap.size + 1 + 1 + 1 + 1, 0, none⟩ = some (.float .f64 0) := keep hb (by first | exact z4_0 | go_keep); replace z4_1 : w2.cell? ⟨w.heap.size + 1 + 1 + 1 + 1, 1, none⟩ = some (.float .f64 0) := keep hb (by first | exact z4_1 | go_keep); replace z4_2 : w2.cell? ⟨w.heap.size + 1 + 1 + 1 + 1, 2, none⟩ = some (.float .f64 0) := keep hb (by first | exact z4_2 | go_keep); replace z4_3 : w2.cell? ⟨w.heap.size + 1 + 1 + 1 + 1, 3, none⟩ = some (.float .f64 0) := keep hb (by first | exact z4_3 | go_keep); replace z4_4 : w2.cell? ⟨w.heap.size + 1 + 1 + 1 + 1, 4, none⟩ = some (.float .f64 0) := keep hb (by first | exact z4_4 | go_keep); have K1_0 : w2.cell? ⟨w1.heap.size, 0, none⟩ = some (.float .f64 x1) := keep hb (by go_keep); have K1_1 : w2.cell? ⟨w1.heap.size, 1, none⟩ = some (.float .f64 y1) := keep hb (by go_keep); replace BF := bl_trans (by repeat (first | exact BF | apply bl_alloc | refine bl_set ?_ (by (try simp only [World.size_alloc]); omega))) hb; clear hb; have hz2 := BF.size; simp only [World.size_alloc] at hz2; have l20 : w.heap.size < w2.heap.size := (by omega); have l21 : w.heap.size + 1 < w2.heap.size := (by omega); have l22 : w.heap.size + 1 + 1 < w2.heap.size := (by omega); have l23 : w.heap.size + 1 + 1 + 1 < w2.heap.size := (by omega); have l24 : w.heap.size + 1 + 1 + 1 + 1 < w2.heap.size := (by omega); have m21 := World.block_lt_of_cell? _ _ K1_0; simp only at m21) | (go_at_call 9; with_reducible refine (rpoint_n _ ha hb_ hc_).mono ?_; rintro e w3 ⟨x3, y3, t3, hq3, ht3, rfl, hb⟩; replace z0_0 : w3.cell? ⟨w.heap.size, 0, none⟩ = some (.float .f64 ax) := keep hb (by first | exact z0_0 | go_keep); replace z0_1 : w3.cell? ⟨w.heap.size, 1, none⟩ = some (.float .f64 ay) := keep hb (by first | exact z0_1 | go_keep); replace z1_0 : w3.cell? ⟨w.heap.size + 1, 0, none⟩ = some (.float .f64 bx) := keep hb (by first | exact z1_0 | go_keep); replace z1_1 : w3.cell? ⟨w.heap.size + 1, 1, none⟩ = some (.float .f64 b_y) := keep hb (by first | exact z1_1 | go_keep); replace z2_0 : w3.cell? ⟨w.heap.size + 1 + 1, 0, none⟩ = some (.float .f64 cx) := keep hb (by first | exact z2_0 | go_keep); replace z2_1 : w3.cell? ⟨w.heap.size + 1 + 1, 1, none⟩ = some (.float .f64 cy) := keep hb (by first | exact z2_1 | go_keep); replace z3_0 : w3.cell? ⟨w.heap.size + 1 + 1 + 1, 0, none⟩ = some (.float .f64 dx) := keep hb (by first | exact z3_0 | go_keep); replace z3_1 : w3.cell? ⟨w.heap.size + 1 + 1 + 1, 1, none⟩ = some (.float .f64 dy) := keep hb (by first | exact z3_1 | go_keep); replace z4_0 : w3.cell? ⟨w.heap.size + 1 + 1 + 1 + 1, 0, none⟩ = some (.float .f64 0) := keep hb (by first | exact z4_0 | go_keep); replace z4_1 : w3.cell? ⟨w.heap.size + 1 + 1 + 1 + 1, 1, none⟩ = some (.float .f64 0) := keep hb (by first | exact z4_1 | go_keep); replace z4_2 : w3.cell? ⟨w.heap.size + 1 + 1 + 1 + 1, 2, none⟩ = some (.float .f64 0) := keep hb (by first | exact z4_2 | go_keep); replace z4_3 : w3.cell? ⟨w.heap.size + 1 + 1 + 1 + 1, 3, none⟩ = some (.float .f64 0) := keep hb (by first | exact z4_3 | go_keep); replace z4_4 : w3.cell? ⟨w.heap.size + 1 + 1 + 1 + 1, 4, none⟩ = some (.float .f64 0) := keep hb (by first | exact z4_4 | go_keep); replace K1_0 : w3.cell? ⟨w1.heap.size, 0, none⟩ = some (.float .f64 x1) := keep hb (by first | exact K1_0 | go_keep); replace K1_1 : w3.cell? ⟨w1.heap.size, 1, none⟩ = some (.float .f64 y1) := keep hb (by first | exact K1_1 | go_keep); have K2_0 : w3.cell? ⟨w2.heap.size, 0, none⟩ = some (.float .f64 x2) := keep hb (by go_keep); have K2_1 : w3.cell? ⟨w2.heap.size, 1, none⟩ = some (.float .f64 y2) := keep hb (by go_keep); replace BF := bl_trans (by repeat (first | exact BF | apply bl_alloc | refine bl_set ?_ (by (try simp only [World.size_alloc]); omega))) hb; clear hb; have hz3 := BF.size; simp only [World.size_alloc] at hz3; have l30 : w.heap.size < w3.heap.size := (by omega); have l31 : w.heap.size + 1 < w3.heap.size := (by omega); have l32 : w.heap.size + 1 + 1 < w3.heap.size := (by omega); have l33 : w.heap.size + 1 + 1 + 1 < w3.heap.size := (by omega); have l34 : w.heap.size + 1 + 1 + 1 + 1 < w3.heap.size := (by omega); have m31 := World.block_lt_of_cell? _ _ K1_0; simp only at m31; have m32 := World.block_lt_of_cell? _ _ K2_0; simp only at m32) | (go_at_call 9; with_reducible refine (rpoint_n _ ha hb_ hd_).mono ?_; rintro e w4 ⟨x4, y4, t4, hq4, ht4, rfl, hb⟩; replace z0_0 : w4.cell? ⟨w.heap.size, 0, none⟩ = some (.float .f64 ax) := keep hb (by first | exact z0_0 | go_keep); replace z0_1 : w4.cell? ⟨w.heap.size, 1, none⟩ = some (.float .f64 ay) := keep hb (by first | exact z0_1 | go_keep); replace z1_0 : w4.cell? ⟨w.heap.size + 1, 0, none⟩ = some (.float .f64 bx) := keep hb (by first | exact z1_0 | go_keep); replace z1_1 : w4.cell? ⟨w.heap.size + 1, 1, none⟩ = some (.float .f64 b_y) := keep hb (by first | exact z1_1 | go_keep); replace z2_0 : w4.cell? ⟨w.heap.size + 1 + 1, 0, none⟩ = some (.float .f64 cx) := keep hb (by first | exact z2_0 | go_keep); replace z2_1 : w4.cell? ⟨w.heap.size + 1 + 1, 1, none⟩ = some (.float .f64 cy) := keep hb (by first | exact z2_1 | go_keep); replace z3_0 : w4.cell? ⟨w.heap.size + 1 + 1 + 1, 0, none⟩ = some (.float .f64 dx) := keep hb (by first | exact z3_0 | go_keep); replace z3_1 : w4.cell? ⟨w.heap.size + 1 + 1 + 1, 1, none⟩ = some (.float .f64 dy) := keep hb (by first | exact z3_1 | go_keep); replace z4_0 : w4.cell? ⟨w.heap.size + 1 + 1 + 1 + 1, 0, none⟩ = some (.float .f64 0) := keep hb (by first | exact z4_0 | go_keep); replace z4_1 : w4.cell? ⟨w.heap.size + 1 + 1 + 1 + 1, 1, none⟩ = some (.float .f64 0) := keep hb (by first | exact z4_1 | go_keep); replace z4_2 : w4.cell? ⟨w.heap.size + 1 + 1 + 1 + 1, 2, none⟩ = some (.float .f64 0) := keep hb (by first | exact z4_2 | go_keep); replace z4_3 : w4.cell? ⟨w.heap.size + 1 + 1 + 1 + 1, 3, none⟩ = some (.float .f64 0) := keep hb (by first | exact z4_3 | go_keep); replace z4_4 : w4.cell? ⟨w.heap.size + 1 + 1 + 1 + 1, 4, none⟩ = some (.float .f64 0) := keep hb (by first | exact z4_4 | go_keep); replace K1_0 : w4.cell? ⟨w1.heap.size, 0, none⟩ = some (.float .f64 x1) := keep hb (by first | exact K1_0 | go_keep); replace K1_1 : w4.cell? ⟨w1.heap.size, 1, none⟩ = some (.float .f64 y1) := keep hb (by first | exact K1_1 | go_keep); replace K2_0 : w4.cell? ⟨w2.heap.size, 0, none⟩ = some (.float .f64 x2) := keep hb (by first | exact K2_0 | go_keep); replace K2_1 : w4.cell? ⟨w2.heap.size, 1, none⟩ = some (.float .f64 y2) := keep hb (by first | exact K2_1 | go_keep); have K3_0 : w4.cell? ⟨w3.heap.size, 0, none⟩ = some (.float .f64 x3) := keep hb (by go_keep); have K3_1 : w4.cell? ⟨w3.heap.size, 1, none⟩ = some (.float .f64 y3) := keep hb (by go_keep); replace BF := bl_trans (by repeat (first | exact BF | apply bl_alloc | refine bl_set ?_ (by (try simp only [World.size_alloc]); omega))) hb; clear hb; have hz4 := BF.size; simp only [World.size_alloc] at hz4; have l40 : w.heap.size < w4.heap.size := (by omega); have l41 : w.heap.size + 1 < w4.heap.size := (by omega); have l42 : w.heap.size + 1 + 1 < w4.heap.size := (by omega); have l43 : w.heap.size + 1 + 1 + 1 < w4.heap.size := (by omega); have l44 : w.heap.size + 1 + 1 + 1 + 1 < w4.heap.size := (by omega); have m41 := World.block_lt_of_cell? _ _ K1_0; simp only at m41; have m42 := World.block_lt_of_cell? _ _ K2_0; simp only at m42; have m43 := World.block_lt_of_cell? _ _ K3_0; simp only at m43))
          have eG : (w4.alloc (.cells #[.float .f64 x4, .float .f64 y4] 24)).heap.size = w4.heap.size + 1 := World.size_alloc _ _
          have hT : ∀ q, q < 4 → ((w4.alloc (.cells #[.float .f64 x4, .float .f64 y4] 24)).alloc (.cells #[.float .f64 0, .float .f64 ax, .float .f64 ay, .float .f64 x1, .float .f64 y1, .float .f64 0, .float .f64 bx, .float .f64 b_y, .float .f64 x2, .float .f64 y2, .float .f64 0, .float .f64 x3, .float .f64 y3, .float .f64 cx, .float .f64 cy, .float .f64 0, .float .f64 x4, .float .f64 y4, .float .f64 dx, .float .f64 dy] 33)).cell? ⟨w4.heap.size + 1, q * 5 + 1, none⟩ = some (.float .f64 (sel4 ax bx x3 x4 q)) ∧ ((w4.alloc (.cells #[.float .f64 x4, .float .f64 y4] 24)).alloc (.cells #[.float .f64 0, .float .f64 ax, .float .f64 ay, .float .f64 x1, .float .f64 y1, .float .f64 0, .float .f64 bx, .float .f64 b_y, .float .f64 x2, .float .f64 y2, .float .f64 0, .float .f64 x3, .float .f64 y3, .float .f64 cx, .float .f64 cy, .float .f64 0, .float .f64 x4, .float .f64 y4, .float .f64 dx, .float .f64 dy] 33)).cell? ⟨w4.heap.size + 1, q * 5 + 2, none⟩ = some (.float .f64 (sel4 ay b_y y3 y4 q)) ∧ ((w4.alloc (.cells #[.float .f64 x4, .float .f64 y4] 24)).alloc (.cells #[.float .f64 0, .float .f64 ax, .float .f64 ay, .float .f64 x1, .float .f64 y1, .float .f64 0, .float .f64 bx, .float .f64 b_y, .float .f64 x2, .float .f64 y2, .float .f64 0, .float .f64 x3, .float .f64 y3, .float .f64 cx, .float .f64 cy, .float .f64 0, .float .f64 x4, .float .f64 y4, .float .f64 dx, .float .f64 dy] 33)).cell? ⟨w4.heap.size + 1, q * 5 + 3, none⟩ = some (.float .f64 (sel4 x1 x2 cx dx q)) ∧ ((w4.alloc (.cells #[.float .f64 x4, .float .f64 y4] 24)).alloc (.cells #[.float .f64 0, .float .f64 ax, .float .f64 ay, .float .f64 x1, .float .f64 y1, .float .f64 0, .float .f64 bx, .float .f64 b_y, .float .f64 x2, .float .f64 y2, .float .f64 0, .float .f64 x3, .float .f64 y3, .float .f64 cx, .float .f64 cy, .float .f64 0, .float .f64 x4, .float .f64 y4, .float .f64 dx, .float .f64 dy] 33)).cell? ⟨w4.heap.size + 1, q * 5 + 4, none⟩ = some (.float .f64 (sel4 y1 y2 cy dy q)) := fun q hq => by
            rw [← eG]
            rcases (show q = 0 ∨ q = 1 ∨ q = 2 ∨ q = 3 by omega) with rfl | rfl | rfl | rfl <;> (simp only [World.cell?_alloc_new]; exact ⟨rfl, rfl, rfl, rfl⟩)
          have hF : ∀ q, q < 4 → ((w4.alloc (.cells #[.float .f64 x4, .float .f64 y4] 24)).alloc (.cells #[.float .f64 0, .float .f64 ax, .float .f64 ay, .float .f64 x1, .float .f64 y1, .float .f64 0, .float .f64 bx, .float .f64 b_y, .float .f64 x2, .float .f64 y2, .float .f64 0, .float .f64 x3, .float .f64 y3, .float .f64 cx, .float .f64 cy, .float .f64 0, .float .f64 x4, .float .f64 y4, .float .f64 dx, .float .f64 dy] 33)).cell? ⟨w4.heap.size + 1, q * 5, none⟩ = some (.float .f64 (0)) := fun q hq => by
            rw [← eG]
            rcases (show q = 0 ∨ q = 1 ∨ q = 2 ∨ q = 3 by omega) with rfl | rfl | rfl | rfl <;> (simp only [World.cell?_alloc_new]; rfl)
          have hPP : ∀ q, q < 4 → isP (sel4 ax bx x3 x4 q) (sel4 ay b_y y3 y4 q) (sel4 A B (ptF A B C).1 (ptF A B D).1 q) ∧ isP (sel4 x1 x2 cx dx q) (sel4 y1 y2 cy dy q) (sel4 (ptF C D A).1 (ptF C D B).1 C D q) := fun q hq => by
            rcases (show q = 0 ∨ q = 1 ∨ q = 2 ∨ q = 3 by omega) with rfl | rfl | rfl | rfl
            · exact ⟨ha, hq1⟩
            · exact ⟨hb_, hq2⟩
            · exact ⟨hq3, hc_⟩
            · exact ⟨hq4, hd_⟩
          replace z4_0 := keep (bl_alloc (bl_refl w4) #[.float .f64 x4, .float .f64 y4] 24) z4_0; replace z4_1 := keep (bl_alloc (bl_refl w4) #[.float .f64 x4, .float .f64 y4] 24) z4_1; replace z4_2 := keep (bl_alloc (bl_refl w4) #[.float .f64 x4, .float .f64 y4] 24) z4_2; replace z4_3 := keep (bl_alloc (bl_refl w4) #[.float .f64 x4, .float .f64 y4] 24) z4_3; replace z4_4 := keep (bl_alloc (bl_refl w4) #[.float .f64 x4, .float .f64 y4] 24) z4_4
          replace BF : Bel _ (w4.alloc (.cells #[.float .f64 x4, .float .f64 y4] 24)) := bl_alloc BF _ _
          clear z0_0 z0_1 z1_0 z1_1 z2_0 z2_1 z3_0 z3_1 K1_0 K1_1 K2_0 K2_1 K3_0 K3_1
          go_loopw [25, 26] (fun b' i' wr => ∃ (β k : Nat) (fa : Nat → Nat), k ≤ 4 ∧ β < 4 ∧ b' = .int .i64 β ∧ i' = .int .i64 k ∧ Bel (w4.alloc (.cells #[.float .f64 x4, .float .f64 y4] 24)) wr ∧ (∀ q, q < 4 → wr.cell? ⟨w4.heap.size + 1, q * 5 + 1, none⟩ = some (.float .f64 (sel4 ax bx x3 x4 q)) ∧ wr.cell? ⟨w4.heap.size + 1, q * 5 + 2, none⟩ = some (.float .f64 (sel4 ay b_y y3 y4 q)) ∧ wr.cell? ⟨w4.heap.size + 1, q * 5 + 3, none⟩ = some (.float .f64 (sel4 x1 x2 cx dx q)) ∧ wr.cell? ⟨w4.heap.size + 1, q * 5 + 4, none⟩ = some (.float .f64 (sel4 y1 y2 cy dy q))) ∧ (∀ q, q < 4 → wr.cell? ⟨w4.heap.size + 1, q * 5, none⟩ = some (.float .f64 (fa q))) ∧ (k = 0 → β = 0) ∧ (∀ m, k = m + 1 → β < k ∧ isN (fa β) (sel4 ax bx x3 x4 β) (sel4 ay b_y y3 y4 β) (sel4 x1 x2 cx dx β) (sel4 y1 y2 cy dy β) (bF A B C D m))) (fun _ i' _ => 4 - (intOf i').toNat)
          case atStart => exact ⟨0, 0, fun _ => 0, by omega, by omega, rfl, rfl, bl_alloc (bl_refl _) _ _, hT, hF, fun _ => rfl, fun m hm => by omega⟩
          case round =>
            clear hT hF
            obtain ⟨β, k, fa, hk, hβ, rfl, rfl, hB, hT, hF, hz0, hzz⟩ := hrel
            have hlb := fun m hm => (hzz m hm).1
            have hz1 := fun m hm => (hzz m hm).2
            clear hzz
            by_cases hlt : k < 4
            · obtain ⟨hp1, hp2⟩ := hPP k hlt
              obtain ⟨a1, a2, a3, a4⟩ := hT k hlt
              have fE : ∀ o, wr.frozen? ⟨w4.heap.size + 1, o, none⟩ = false := fun o => (hB.2 _).trans (fresh_frozen (by simp only [World.size_alloc]; exact Nat.le_refl _))
              have lk := World.block_lt_of_cell? _ _ a1
              simp only at lk
              have kI : (k : Int) < 4 := by omega
              have kb : (β : Int) < 4 := by omega
              go_wp2
              refine wp_region_ret 17 16 13 rfl (fun i v => match i with | 0 => v = .slice (some ⟨w4.heap.size + 1, 0, none⟩) 4 4 | 1 => v = .int .i64 (k : Int) | 2 => v = .slice (some ⟨w4.heap.size + 1, 0, none⟩) 4 4 | 3 => v = .int .i64 (k : Int) | 4 => v = .pointer (some ⟨w4.heap.size + 1, k * 5, none⟩) | 5 => v = .pointer (some ⟨w4.heap.size + 1, k * 5 + 3, none⟩) | 6 => v = .agg #[.float .f64 (sel4 x1 x2 cx dx k), .float .f64 (sel4 y1 y2 cy dy k)] | 7 => v = .slice (some ⟨w4.heap.size + 1, 0, none⟩) 4 4 | 8 => v = .int .i64 (k : Int) | 9 => v = .pointer (some ⟨w4.heap.size + 1, k * 5, none⟩) | 10 => v = .pointer (some ⟨w4.heap.size + 1, k * 5 + 1, none⟩) | 11 => v = .agg #[.float .f64 (sel4 ax bx x3 x4 k), .float .f64 (sel4 ay b_y y3 y4 k)] | 12 => ∃ x y, isP x y (suF (sel4 (ptF C D A).1 (ptF C D B).1 C D k) (sel4 A B (ptF A B C).1 (ptF A B D).1 k)) ∧ v = .agg #[.float .f64 x, .float .f64 y] | 13 => ∃ r, isF r (lnF (suF (sel4 (ptF C D A).1 (ptF C D B).1 C D k) (sel4 A B (ptF A B C).1 (ptF A B D).1 k))) ∧ v = .float .f64 r | 14 => v = .pointer (some ⟨w4.heap.size + 1, k * 5, none⟩) | 15 => v = .pointer (some ⟨w4.heap.size + 1, k * 5, none⟩) | _ => False) (put1 (w4.heap.size + 1) (k * 5)) ?A_wo1 (by kernel_rfl) (by kernel_rfl) (by kernel_rfl) (by decide) (by decide) ?hA_wo1 ?hst_wo1 ?hq_wo1 ?ht_wo1
              case hA_wo1 =>
                intro s
                simp only [putL, dstO, Act.put, List.getElem?_toArray, List.getElem?_cons_zero, List.getElem?_cons_succ, Option.bind_some, List.setIfInBounds_toArray, List.set_cons_zero, List.set_cons_succ, if_true]
                all_goals exact rfl
              case hst_wo1 =>
                intro o ho s hs W hb K hK
                cases ho
                have u0 := keep hb (hF k hlt); have u9 := fun o => (hb.2 ⟨w4.heap.size + 1, o, none⟩).trans (fE o)
                have e15 : s 15 = _ := hs 15 (by decide) (by kernel_rfl)
                obtain ⟨r, h13, e13⟩ := hs 13 (by decide) (by kernel_rfl)
                simp only [e15, e13] at hK ⊢
                clear hs
                go_simp
                exact hK.out
              case hq_wo1 =>
                intro i o hi hne ho s hs W hb K hK
                have u1 := once_keep1 hb a1 (.inr (by simp only; omega)); have u2 := once_keep1 hb a2 (.inr (by simp only; omega)); have u3 := once_keep1 hb a3 (.inr (by simp only; omega)); have u4 := once_keep1 hb a4 (.inr (by simp only; omega)); have lW := World.block_lt_of_cell? _ _ u1; simp only at lW
                rcases (show i = 0 ∨ i = 1 ∨ i = 2 ∨ i = 3 ∨ i = 4 ∨ i = 5 ∨ i = 6 ∨ i = 7 ∨ i = 8 ∨ i = 9 ∨ i = 10 ∨ i = 11 ∨ i = 12 ∨ i = 13 ∨ i = 14 ∨ i = 15 ∨ i = 16 by omega) with rfl | rfl | rfl | rfl | rfl | rfl | rfl | rfl | rfl | rfl | rfl | rfl | rfl | rfl | rfl | rfl | rfl
                · cases ho
                  simp only [Act.put, List.setIfInBounds_toArray, List.set_cons_zero, List.set_cons_succ] at hK
                  clear hs hne
                  go_simp
                  all_goals (try go_wp2_with (first | (go_at_call 40; refine (minus_n _ hp2 hp1).mono ?_; rintro e w' ⟨x, y, h12, rfl, hb1⟩) | (go_at_call 51; refine (length_n _ h12).mono ?_; rintro e w' ⟨r, h13, rfl, hb1⟩)))
                  all_goals first | exact hK.out _ _ ⟨_, _, h12, rfl⟩ hb1 | exact hK.out _ _ ⟨_, h13, rfl⟩ hb1 | exact hK.out _ _ rfl (bl_refl _) | exact hK.out _ _ rfl (by assumption) | exact hK.out _ _ (by assumption) (by assumption)
                · cases ho
                  simp only [Act.put, List.setIfInBounds_toArray, List.set_cons_zero, List.set_cons_succ] at hK
                  clear hs hne
                  go_simp
                  all_goals (try go_wp2_with (first | (go_at_call 40; refine (minus_n _ hp2 hp1).mono ?_; rintro e w' ⟨x, y, h12, rfl, hb1⟩) | (go_at_call 51; refine (length_n _ h12).mono ?_; rintro e w' ⟨r, h13, rfl, hb1⟩)))
                  all_goals first | exact hK.out _ _ ⟨_, _, h12, rfl⟩ hb1 | exact hK.out _ _ ⟨_, h13, rfl⟩ hb1 | exact hK.out _ _ rfl (bl_refl _) | exact hK.out _ _ rfl (by assumption) | exact hK.out _ _ (by assumption) (by assumption)
                · cases ho
                  simp only [Act.put, List.setIfInBounds_toArray, List.set_cons_zero, List.set_cons_succ] at hK
                  clear hs hne
                  go_simp
                  all_goals (try go_wp2_with (first | (go_at_call 40; refine (minus_n _ hp2 hp1).mono ?_; rintro e w' ⟨x, y, h12, rfl, hb1⟩) | (go_at_call 51; refine (length_n _ h12).mono ?_; rintro e w' ⟨r, h13, rfl, hb1⟩)))
                  all_goals first | exact hK.out _ _ ⟨_, _, h12, rfl⟩ hb1 | exact hK.out _ _ ⟨_, h13, rfl⟩ hb1 | exact hK.out _ _ rfl (bl_refl _) | exact hK.out _ _ rfl (by assumption) | exact hK.out _ _ (by assumption) (by assumption)
                · cases ho
                  simp only [Act.put, List.setIfInBounds_toArray, List.set_cons_zero, List.set_cons_succ] at hK
                  clear hs hne
                  go_simp
                  all_goals (try go_wp2_with (first | (go_at_call 40; refine (minus_n _ hp2 hp1).mono ?_; rintro e w' ⟨x, y, h12, rfl, hb1⟩) | (go_at_call 51; refine (length_n _ h12).mono ?_; rintro e w' ⟨r, h13, rfl, hb1⟩)))
                  all_goals first | exact hK.out _ _ ⟨_, _, h12, rfl⟩ hb1 | exact hK.out _ _ ⟨_, h13, rfl⟩ hb1 | exact hK.out _ _ rfl (bl_refl _) | exact hK.out _ _ rfl (by assumption) | exact hK.out _ _ (by assumption) (by assumption)
                · cases ho
                  have e2 : s 2 = _ := hs 2 (by decide) (by decide) (by kernel_rfl)
                  have e3 : s 3 = _ := hs 3 (by decide) (by decide) (by kernel_rfl)
                  simp only [e2, e3] at hK ⊢
                  simp only [Act.put, List.setIfInBounds_toArray, List.set_cons_zero, List.set_cons_succ] at hK
                  clear hs hne
                  go_simp
                  all_goals (try go_wp2_with (first | (go_at_call 40; refine (minus_n _ hp2 hp1).mono ?_; rintro e w' ⟨x, y, h12, rfl, hb1⟩) | (go_at_call 51; refine (length_n _ h12).mono ?_; rintro e w' ⟨r, h13, rfl, hb1⟩)))
                  all_goals first | exact hK.out _ _ ⟨_, _, h12, rfl⟩ hb1 | exact hK.out _ _ ⟨_, h13, rfl⟩ hb1 | exact hK.out _ _ rfl (bl_refl _) | exact hK.out _ _ rfl (by assumption) | exact hK.out _ _ (by assumption) (by assumption)
                · cases ho
                  have e4 : s 4 = _ := hs 4 (by decide) (by decide) (by kernel_rfl)
                  simp only [e4] at hK ⊢
                  simp only [Act.put, List.setIfInBounds_toArray, List.set_cons_zero, List.set_cons_succ] at hK
                  clear hs hne
                  go_simp
                  all_goals (try go_wp2_with (first | (go_at_call 40; refine (minus_n _ hp2 hp1).mono ?_; rintro e w' ⟨x, y, h12, rfl, hb1⟩) | (go_at_call 51; refine (length_n _ h12).mono ?_; rintro e w' ⟨r, h13, rfl, hb1⟩)))
                  all_goals first | exact hK.out _ _ ⟨_, _, h12, rfl⟩ hb1 | exact hK.out _ _ ⟨_, h13, rfl⟩ hb1 | exact hK.out _ _ rfl (bl_refl _) | exact hK.out _ _ rfl (by assumption) | exact hK.out _ _ (by assumption) (by assumption)
                · cases ho
                  have e5 : s 5 = _ := hs 5 (by decide) (by decide) (by kernel_rfl)
                  simp only [e5] at hK ⊢
                  simp only [Act.put, List.setIfInBounds_toArray, List.set_cons_zero, List.set_cons_succ] at hK
                  clear hs hne
                  go_simp
                  all_goals (try go_wp2_with (first | (go_at_call 40; refine (minus_n _ hp2 hp1).mono ?_; rintro e w' ⟨x, y, h12, rfl, hb1⟩) | (go_at_call 51; refine (length_n _ h12).mono ?_; rintro e w' ⟨r, h13, rfl, hb1⟩)))
                  all_goals first | exact hK.out _ _ ⟨_, _, h12, rfl⟩ hb1 | exact hK.out _ _ ⟨_, h13, rfl⟩ hb1 | exact hK.out _ _ rfl (bl_refl _) | exact hK.out _ _ rfl (by assumption) | exact hK.out _ _ (by assumption) (by assumption)
                · cases ho
                  simp only [Act.put, List.setIfInBounds_toArray, List.set_cons_zero, List.set_cons_succ] at hK
                  clear hs hne
                  go_simp
                  all_goals (try go_wp2_with (first | (go_at_call 40; refine (minus_n _ hp2 hp1).mono ?_; rintro e w' ⟨x, y, h12, rfl, hb1⟩) | (go_at_call 51; refine (length_n _ h12).mono ?_; rintro e w' ⟨r, h13, rfl, hb1⟩)))
                  all_goals first | exact hK.out _ _ ⟨_, _, h12, rfl⟩ hb1 | exact hK.out _ _ ⟨_, h13, rfl⟩ hb1 | exact hK.out _ _ rfl (bl_refl _) | exact hK.out _ _ rfl (by assumption) | exact hK.out _ _ (by assumption) (by assumption)
                · cases ho
                  simp only [Act.put, List.setIfInBounds_toArray, List.set_cons_zero, List.set_cons_succ] at hK
                  clear hs hne
                  go_simp
                  all_goals (try go_wp2_with (first | (go_at_call 40; refine (minus_n _ hp2 hp1).mono ?_; rintro e w' ⟨x, y, h12, rfl, hb1⟩) | (go_at_call 51; refine (length_n _ h12).mono ?_; rintro e w' ⟨r, h13, rfl, hb1⟩)))
                  all_goals first | exact hK.out _ _ ⟨_, _, h12, rfl⟩ hb1 | exact hK.out _ _ ⟨_, h13, rfl⟩ hb1 | exact hK.out _ _ rfl (bl_refl _) | exact hK.out _ _ rfl (by assumption) | exact hK.out _ _ (by assumption) (by assumption)
                · cases ho
                  have e7 : s 7 = _ := hs 7 (by decide) (by decide) (by kernel_rfl)
                  have e8 : s 8 = _ := hs 8 (by decide) (by decide) (by kernel_rfl)
                  simp only [e7, e8] at hK ⊢
                  simp only [Act.put, List.setIfInBounds_toArray, List.set_cons_zero, List.set_cons_succ] at hK
                  clear hs hne
                  go_simp
                  all_goals (try go_wp2_with (first | (go_at_call 40; refine (minus_n _ hp2 hp1).mono ?_; rintro e w' ⟨x, y, h12, rfl, hb1⟩) | (go_at_call 51; refine (length_n _ h12).mono ?_; rintro e w' ⟨r, h13, rfl, hb1⟩)))
                  all_goals first | exact hK.out _ _ ⟨_, _, h12, rfl⟩ hb1 | exact hK.out _ _ ⟨_, h13, rfl⟩ hb1 | exact hK.out _ _ rfl (bl_refl _) | exact hK.out _ _ rfl (by assumption) | exact hK.out _ _ (by assumption) (by assumption)
                · cases ho
                  have e9 : s 9 = _ := hs 9 (by decide) (by decide) (by kernel_rfl)
                  simp only [e9] at hK ⊢
                  simp only [Act.put, List.setIfInBounds_toArray, List.set_cons_zero, List.set_cons_succ] at hK
                  clear hs hne
                  go_simp
                  all_goals (try go_wp2_with (first | (go_at_call 40; refine (minus_n _ hp2 hp1).mono ?_; rintro e w' ⟨x, y, h12, rfl, hb1⟩) | (go_at_call 51; refine (length_n _ h12).mono ?_; rintro e w' ⟨r, h13, rfl, hb1⟩)))
                  all_goals first | exact hK.out _ _ ⟨_, _, h12, rfl⟩ hb1 | exact hK.out _ _ ⟨_, h13, rfl⟩ hb1 | exact hK.out _ _ rfl (bl_refl _) | exact hK.out _ _ rfl (by assumption) | exact hK.out _ _ (by assumption) (by assumption)
                · cases ho
                  have e10 : s 10 = _ := hs 10 (by decide) (by decide) (by kernel_rfl)
                  simp only [e10] at hK ⊢
                  simp only [Act.put, List.setIfInBounds_toArray, List.set_cons_zero, List.set_cons_succ] at hK
                  clear hs hne
                  go_simp
                  all_goals (try go_wp2_with (first | (go_at_call 40; refine (minus_n _ hp2 hp1).mono ?_; rintro e w' ⟨x, y, h12, rfl, hb1⟩) | (go_at_call 51; refine (length_n _ h12).mono ?_; rintro e w' ⟨r, h13, rfl, hb1⟩)))
                  all_goals first | exact hK.out _ _ ⟨_, _, h12, rfl⟩ hb1 | exact hK.out _ _ ⟨_, h13, rfl⟩ hb1 | exact hK.out _ _ rfl (bl_refl _) | exact hK.out _ _ rfl (by assumption) | exact hK.out _ _ (by assumption) (by assumption)
                · cases ho
                  have e6 : s 6 = _ := hs 6 (by decide) (by decide) (by kernel_rfl)
                  have e11 : s 11 = _ := hs 11 (by decide) (by decide) (by kernel_rfl)
                  simp only [e6, e11] at hK ⊢
                  simp only [Act.put, List.setIfInBounds_toArray, List.set_cons_zero, List.set_cons_succ] at hK
                  clear hs hne
                  go_simp
                  all_goals (try go_wp2_with (first | (go_at_call 40; refine (minus_n _ hp2 hp1).mono ?_; rintro e w' ⟨x, y, h12, rfl, hb1⟩) | (go_at_call 51; refine (length_n _ h12).mono ?_; rintro e w' ⟨r, h13, rfl, hb1⟩)))
                  all_goals first | exact hK.out _ _ ⟨_, _, h12, rfl⟩ hb1 | exact hK.out _ _ ⟨_, h13, rfl⟩ hb1 | exact hK.out _ _ rfl (bl_refl _) | exact hK.out _ _ rfl (by assumption) | exact hK.out _ _ (by assumption) (by assumption)
                · cases ho
                  obtain ⟨x, y, h12, e12⟩ := hs 12 (by decide) (by decide) (by kernel_rfl)
                  simp only [e12] at hK ⊢
                  simp only [Act.put, List.setIfInBounds_toArray, List.set_cons_zero, List.set_cons_succ] at hK
                  clear hs hne
                  go_simp
                  all_goals (try go_wp2_with (first | (go_at_call 40; refine (minus_n _ hp2 hp1).mono ?_; rintro e w' ⟨x, y, h12, rfl, hb1⟩) | (go_at_call 51; refine (length_n _ h12).mono ?_; rintro e w' ⟨r, h13, rfl, hb1⟩)))
                  all_goals first | exact hK.out _ _ ⟨_, _, h12, rfl⟩ hb1 | exact hK.out _ _ ⟨_, h13, rfl⟩ hb1 | exact hK.out _ _ rfl (bl_refl _) | exact hK.out _ _ rfl (by assumption) | exact hK.out _ _ (by assumption) (by assumption)
                · cases ho
                  have e0 : s 0 = _ := hs 0 (by decide) (by decide) (by kernel_rfl)
                  have e1 : s 1 = _ := hs 1 (by decide) (by decide) (by kernel_rfl)
                  simp only [e0, e1] at hK ⊢
                  simp only [Act.put, List.setIfInBounds_toArray, List.set_cons_zero, List.set_cons_succ] at hK
                  clear hs hne
                  go_simp
                  all_goals (try go_wp2_with (first | (go_at_call 40; refine (minus_n _ hp2 hp1).mono ?_; rintro e w' ⟨x, y, h12, rfl, hb1⟩) | (go_at_call 51; refine (length_n _ h12).mono ?_; rintro e w' ⟨r, h13, rfl, hb1⟩)))
                  all_goals first | exact hK.out _ _ ⟨_, _, h12, rfl⟩ hb1 | exact hK.out _ _ ⟨_, h13, rfl⟩ hb1 | exact hK.out _ _ rfl (bl_refl _) | exact hK.out _ _ rfl (by assumption) | exact hK.out _ _ (by assumption) (by assumption)
                · cases ho
                  have e14 : s 14 = _ := hs 14 (by decide) (by decide) (by kernel_rfl)
                  simp only [e14] at hK ⊢
                  simp only [Act.put, List.setIfInBounds_toArray, List.set_cons_zero, List.set_cons_succ] at hK
                  clear hs hne
                  go_simp
                  all_goals (try go_wp2_with (first | (go_at_call 40; refine (minus_n _ hp2 hp1).mono ?_; rintro e w' ⟨x, y, h12, rfl, hb1⟩) | (go_at_call 51; refine (length_n _ h12).mono ?_; rintro e w' ⟨r, h13, rfl, hb1⟩)))
                  all_goals first | exact hK.out _ _ ⟨_, _, h12, rfl⟩ hb1 | exact hK.out _ _ ⟨_, h13, rfl⟩ hb1 | exact hK.out _ _ rfl (bl_refl _) | exact hK.out _ _ rfl (by assumption) | exact hK.out _ _ (by assumption) (by assumption)
                · exact absurd rfl hne
              case ht_wo1 =>
                intro s hs W0 W hb0 hb
                have e0 : s 0 = _ := hs 0 (by decide) (by decide)
                have e1 : s 1 = _ := hs 1 (by decide) (by decide)
                have e2 : s 2 = _ := hs 2 (by decide) (by decide)
                have e3 : s 3 = _ := hs 3 (by decide) (by decide)
                have e4 : s 4 = _ := hs 4 (by decide) (by decide)
                have e5 : s 5 = _ := hs 5 (by decide) (by decide)
                have e6 : s 6 = _ := hs 6 (by decide) (by decide)
                have e7 : s 7 = _ := hs 7 (by decide) (by decide)
                have e8 : s 8 = _ := hs 8 (by decide) (by decide)
                have e9 : s 9 = _ := hs 9 (by decide) (by decide)
                have e10 : s 10 = _ := hs 10 (by decide) (by decide)
                have e11 : s 11 = _ := hs 11 (by decide) (by decide)
                obtain ⟨_, _, _, e12⟩ := hs 12 (by decide) (by decide)
                obtain ⟨r, h13, e13⟩ := hs 13 (by decide) (by decide)
                have e14 : s 14 = _ := hs 14 (by decide) (by decide)
                have e15 : s 15 = _ := hs 15 (by decide) (by decide)
                simp only [e0, e1, e2, e3, e4, e5, e6, e7, e8, e9, e10, e11, e12, e13, e14, e15]
                rw [e13] at hb
                clear hs e0 e1 e2 e3 e4 e5 e6 e7 e8 e9 e10 e11 e12 e13 e14 e15
                have hk0 : Bel (w4.alloc (.cells #[.float .f64 x4, .float .f64 y4] 24)) W := bl_trans (put1_bel (bl_trans hB hb0) (by simp only [World.size_alloc]; omega)) hb
                have hT1 : ∀ q, q < 4 → W.cell? ⟨w4.heap.size + 1, q * 5 + 1, none⟩ = some (.float .f64 (sel4 ax bx x3 x4 q)) ∧ W.cell? ⟨w4.heap.size + 1, q * 5 + 2, none⟩ = some (.float .f64 (sel4 ay b_y y3 y4 q)) ∧ W.cell? ⟨w4.heap.size + 1, q * 5 + 3, none⟩ = some (.float .f64 (sel4 x1 x2 cx dx q)) ∧ W.cell? ⟨w4.heap.size + 1, q * 5 + 4, none⟩ = some (.float .f64 (sel4 y1 y2 cy dy q)) := fun q hq => by
                  obtain ⟨a1, a2, a3, a4⟩ := hT q hq
                  exact ⟨keep hb ((put1_far (.inr (by simp only; omega))).trans (keep hb0 a1)), keep hb ((put1_far (.inr (by simp only; omega))).trans (keep hb0 a2)), keep hb ((put1_far (.inr (by simp only; omega))).trans (keep hb0 a3)), keep hb ((put1_far (.inr (by simp only; omega))).trans (keep hb0 a4))⟩
                have hF1 : ∀ q, q < 4 → W.cell? ⟨w4.heap.size + 1, q * 5, none⟩ = some (.float .f64 (if q = k then r else fa q)) := fun q hq => by
                  by_cases e : q = k
                  · subst e
                    rw [if_pos rfl]
                    exact keep hb (World.cell?_setCell_same _ _ _ (keep hb0 (hF q hq)))
                  · rw [if_neg e]
                    exact keep hb ((put1_far (.inr (by simp only; omega))).trans (keep hb0 (hF q hq)))
                clear hb hb0 hB hT hF
                generalize hg : (fun q => if q = k then r else fa q) = fb at hF1
                have hkr : fb k = r := by rw [← hg]; simp
                have hbo : ∀ q, q ≠ k → fb q = fa q := fun q h => by rw [← hg]; simp [h]
                replace hF1 : ∀ q, q < 4 → W.cell? ⟨w4.heap.size + 1, q * 5, none⟩ = some (.float .f64 (fb q)) := fun q hq => by rw [hF1 q hq, ← hg]
                clear hg
                subst hkr
                have cK := hF1 k hlt
                have cB := hF1 β hβ
                have lW := World.block_lt_of_cell? _ _ cK
                simp only at lW
                go_wp2
                refine wp_region_mono 11 rfl (fun i W v => match i with | 0 => v = .slice (some ⟨w4.heap.size + 1, 0, none⟩) 4 4 | 1 => v = .int .i64 (k : Int) | 2 => v = .pointer (some ⟨w4.heap.size + 1, k * 5, none⟩) | 3 => v = .pointer (some ⟨w4.heap.size + 1, k * 5, none⟩) | 4 => v = .float .f64 (fb k) | 5 => v = .slice (some ⟨w4.heap.size + 1, 0, none⟩) 4 4 | 6 => v = .int .i64 (β : Int) | 7 => v = .pointer (some ⟨w4.heap.size + 1, β * 5, none⟩) | 8 => v = .pointer (some ⟨w4.heap.size + 1, β * 5, none⟩) | 9 => v = .float .f64 (fb β) | 10 => v = .bool (ltK .f64 (fb k) (fb β)) | _ => False) ?A_wz1 (by kernel_rfl) (by kernel_rfl) ?hA_wz1 ?hmo_wz1 ?hq_wz1 ?ht_wz1
                case hA_wz1 =>
                  intro s
                  simp only [putL, dstO, Act.put, List.getElem?_toArray, List.getElem?_cons_zero, List.getElem?_cons_succ, Option.bind_some, List.setIfInBounds_toArray, List.set_cons_zero, List.set_cons_succ, if_true]
                  all_goals exact rfl
                case hmo_wz1 =>
                  intro i W W' v hi hb h
                  rcases (show i = 0 ∨ i = 1 ∨ i = 2 ∨ i = 3 ∨ i = 4 ∨ i = 5 ∨ i = 6 ∨ i = 7 ∨ i = 8 ∨ i = 9 ∨ i = 10 by omega) with rfl | rfl | rfl | rfl | rfl | rfl | rfl | rfl | rfl | rfl | rfl
                  all_goals first | exact h
                case hq_wz1 =>
                  intro i o hi ho s W hs hb K hK
                  have c2 := cmp_lt .f64; have uK := keep hb cK; have uB := keep hb cB; have lZ := World.block_lt_of_cell? _ _ uK; simp only at lZ
                  rcases (show i = 0 ∨ i = 1 ∨ i = 2 ∨ i = 3 ∨ i = 4 ∨ i = 5 ∨ i = 6 ∨ i = 7 ∨ i = 8 ∨ i = 9 ∨ i = 10 by omega) with rfl | rfl | rfl | rfl | rfl | rfl | rfl | rfl | rfl | rfl | rfl
                  · cases ho
                    simp only [Act.put, List.setIfInBounds_toArray, List.set_cons_zero, List.set_cons_succ] at hK
                    clear hs
                    go_simp
                    all_goals first | exact hK.out _ _ rfl (bl_refl _) | exact hK.out _ _ rfl (by assumption) | exact hK.out _ _ (by assumption) (by assumption)
                  · cases ho
                    simp only [Act.put, List.setIfInBounds_toArray, List.set_cons_zero, List.set_cons_succ] at hK
                    clear hs
                    go_simp
                    all_goals first | exact hK.out _ _ rfl (bl_refl _) | exact hK.out _ _ rfl (by assumption) | exact hK.out _ _ (by assumption) (by assumption)
                  · cases ho
                    have e0 : s 0 = _ := hs 0 (by decide) (by kernel_rfl)
                    have e1 : s 1 = _ := hs 1 (by decide) (by kernel_rfl)
                    simp only [e0, e1] at hK ⊢
                    simp only [Act.put, List.setIfInBounds_toArray, List.set_cons_zero, List.set_cons_succ] at hK
                    clear hs
                    go_simp
                    all_goals first | exact hK.out _ _ rfl (bl_refl _) | exact hK.out _ _ rfl (by assumption) | exact hK.out _ _ (by assumption) (by assumption)
                  · cases ho
                    have e2 : s 2 = _ := hs 2 (by decide) (by kernel_rfl)
                    simp only [e2] at hK ⊢
                    simp only [Act.put, List.setIfInBounds_toArray, List.set_cons_zero, List.set_cons_succ] at hK
                    clear hs
                    go_simp
                    all_goals first | exact hK.out _ _ rfl (bl_refl _) | exact hK.out _ _ rfl (by assumption) | exact hK.out _ _ (by assumption) (by assumption)
                  · cases ho
                    have e3 : s 3 = _ := hs 3 (by decide) (by kernel_rfl)
                    simp only [e3] at hK ⊢
                    simp only [Act.put, List.setIfInBounds_toArray, List.set_cons_zero, List.set_cons_succ] at hK
                    clear hs
                    go_simp
                    all_goals first | exact hK.out _ _ rfl (bl_refl _) | exact hK.out _ _ rfl (by assumption) | exact hK.out _ _ (by assumption) (by assumption)
                  · cases ho
                    simp only [Act.put, List.setIfInBounds_toArray, List.set_cons_zero, List.set_cons_succ] at hK
                    clear hs
                    go_simp
                    all_goals first | exact hK.out _ _ rfl (bl_refl _) | exact hK.out _ _ rfl (by assumption) | exact hK.out _ _ (by assumption) (by assumption)
                  · cases ho
                    simp only [Act.put, List.setIfInBounds_toArray, List.set_cons_zero, List.set_cons_succ] at hK
                    clear hs
                    go_simp
                    all_goals first | exact hK.out _ _ rfl (bl_refl _) | exact hK.out _ _ rfl (by assumption) | exact hK.out _ _ (by assumption) (by assumption)
                  · cases ho
                    have e5 : s 5 = _ := hs 5 (by decide) (by kernel_rfl)
                    have e6 : s 6 = _ := hs 6 (by decide) (by kernel_rfl)
                    simp only [e5, e6] at hK ⊢
                    simp only [Act.put, List.setIfInBounds_toArray, List.set_cons_zero, List.set_cons_succ] at hK
                    clear hs
                    go_simp
                    all_goals first | exact hK.out _ _ rfl (bl_refl _) | exact hK.out _ _ rfl (by assumption) | exact hK.out _ _ (by assumption) (by assumption)
                  · cases ho
                    have e7 : s 7 = _ := hs 7 (by decide) (by kernel_rfl)
                    simp only [e7] at hK ⊢
                    simp only [Act.put, List.setIfInBounds_toArray, List.set_cons_zero, List.set_cons_succ] at hK
                    clear hs
                    go_simp
                    all_goals first | exact hK.out _ _ rfl (bl_refl _) | exact hK.out _ _ rfl (by assumption) | exact hK.out _ _ (by assumption) (by assumption)
                  · cases ho
                    have e8 : s 8 = _ := hs 8 (by decide) (by kernel_rfl)
                    simp only [e8] at hK ⊢
                    simp only [Act.put, List.setIfInBounds_toArray, List.set_cons_zero, List.set_cons_succ] at hK
                    clear hs
                    go_simp
                    all_goals first | exact hK.out _ _ rfl (bl_refl _) | exact hK.out _ _ rfl (by assumption) | exact hK.out _ _ (by assumption) (by assumption)
                  · cases ho
                    have e4 : s 4 = _ := hs 4 (by decide) (by kernel_rfl)
                    have e9 : s 9 = _ := hs 9 (by decide) (by kernel_rfl)
                    simp only [e4, e9] at hK ⊢
                    simp only [Act.put, List.setIfInBounds_toArray, List.set_cons_zero, List.set_cons_succ] at hK
                    clear hs
                    go_simp
                    all_goals first | exact hK.out _ _ rfl (bl_refl _) | exact hK.out _ _ rfl (by assumption) | exact hK.out _ _ (by assumption) (by assumption)
                case ht_wz1 =>
                  intro s Wz hs hb
                  have e0 : s 0 = _ := hs 0 (by decide)
                  have e1 : s 1 = _ := hs 1 (by decide)
                  have e2 : s 2 = _ := hs 2 (by decide)
                  have e3 : s 3 = _ := hs 3 (by decide)
                  have e4 : s 4 = _ := hs 4 (by decide)
                  have e5 : s 5 = _ := hs 5 (by decide)
                  have e6 : s 6 = _ := hs 6 (by decide)
                  have e7 : s 7 = _ := hs 7 (by decide)
                  have e8 : s 8 = _ := hs 8 (by decide)
                  have e9 : s 9 = _ := hs 9 (by decide)
                  have e10 : s 10 = _ := hs 10 (by decide)
                  simp only [e0, e1, e2, e3, e4, e5, e6, e7, e8, e9, e10]
                  clear hs e0 e1 e2 e3 e4 e5 e6 e7 e8 e9 e10
                  have hB := bl_trans hk0 hb
                  have hT2 : ∀ q, q < 4 → Wz.cell? ⟨w4.heap.size + 1, q * 5 + 1, none⟩ = some (.float .f64 (sel4 ax bx x3 x4 q)) ∧ Wz.cell? ⟨w4.heap.size + 1, q * 5 + 2, none⟩ = some (.float .f64 (sel4 ay b_y y3 y4 q)) ∧ Wz.cell? ⟨w4.heap.size + 1, q * 5 + 3, none⟩ = some (.float .f64 (sel4 x1 x2 cx dx q)) ∧ Wz.cell? ⟨w4.heap.size + 1, q * 5 + 4, none⟩ = some (.float .f64 (sel4 y1 y2 cy dy q)) := fun q hq => by
                    obtain ⟨a1, a2, a3, a4⟩ := hT1 q hq
                    exact ⟨keep hb a1, keep hb a2, keep hb a3, keep hb a4⟩
                  have hF2 : ∀ q, q < 4 → Wz.cell? ⟨w4.heap.size + 1, q * 5, none⟩ = some (.float .f64 (fb q)) := fun q hq => keep hb (hF1 q hq)
                  clear hb hk0 hT1 hF1 cK cB
                  have hNk : isN (fb k) (sel4 ax bx x3 x4 k) (sel4 ay b_y y3 y4 k) (sel4 x1 x2 cx dx k) (sel4 y1 y2 cy dy k) (apN (sel4 A B (ptF A B C).1 (ptF A B D).1 k) (sel4 (ptF C D A).1 (ptF C D B).1 C D k)) := ⟨h13, hp1, hp2⟩
                  by_cases hk0 : k = 0
                  · subst hk0
                    have hb0 := hz0 rfl
                    subst hb0
                    have hlf : ltK .f64 (fb 0) (fb 0) = false := by unfold ltK; simp
                    rw [hlf]
                    go_wp2
                    refine ⟨⟨0, 1, fb, by omega, by omega, by go_num, by go_num, hB, hT2, hF2, by omega, fun m hm => ?_⟩, by simp [intOf]⟩
                    obtain rfl : m = 0 := by omega
                    exact ⟨by omega, hNk⟩
                  · obtain ⟨m, rfl⟩ : ∃ m, k = m + 1 := ⟨k - 1, by omega⟩
                    have hbk : β ≠ m + 1 := by have := hlb m rfl; omega
                    have hNb := hz1 m rfl
                    rw [← hbo β hbk] at hNb
                    obtain ⟨g1, g2⟩ := isN_nr hNb hNk
                    rw [← bF_step m (by omega)] at g1 g2
                    cases hl : ltK .f64 (fb (m + 1)) (fb β)
                    · go_wp2
                      refine ⟨⟨β, m + 1 + 1, fb, by omega, by omega, by go_num, by go_num, hB, hT2, hF2, by omega, fun m' hm => ?_⟩, by simp [intOf]; omega⟩
                      obtain rfl : m' = m + 1 := by omega
                      exact ⟨by have := hlb m rfl; omega, g2 hl⟩
                    · go_wp2
                      refine ⟨⟨m + 1, m + 1 + 1, fb, by omega, by omega, by go_num, by go_num, hB, hT2, hF2, by omega, fun m' hm => ?_⟩, by simp [intOf]; omega⟩
                      obtain rfl : m' = m + 1 := by omega
                      exact ⟨by omega, g1 hl⟩
            · obtain rfl : k = 4 := by omega
              have hN := hz1 3 rfl
              obtain ⟨a1, a2, a3, a4⟩ := hT β hβ
              have a0 := hF β hβ
              have lk := World.block_lt_of_cell? _ _ a1
              simp only at lk
              have kb : (β : Int) < 4 := by omega
              replace z4_0 := keep hB z4_0; replace z4_1 := keep hB z4_1; replace z4_2 := keep hB z4_2; replace z4_3 := keep hB z4_3; replace z4_4 := keep hB z4_4
              have fE : ∀ o, wr.frozen? ⟨w.heap.size + 1 + 1 + 1 + 1, o, none⟩ = false := fun o => (hB.2 _).trans ((BF.2 _).trans (fR o))
              replace BF := bl_trans BF hB
              go_wp2
              obtain ⟨X, hX, r0, r1, r2, r3, r4, -, bX⟩ := put5_all (p := .float .f64 (fa β)) (q := .float .f64 (sel4 ax bx x3 x4 β)) (r := .float .f64 (sel4 ay b_y y3 y4 β)) (s := .float .f64 (sel4 x1 x2 cx dx β)) (t := .float .f64 (sel4 y1 y2 cy dy β)) z4_0 z4_1 z4_2 z4_3 z4_4
              rw [← hX]
              refine bodyPost_ret (v := .agg #[.float .f64 (fa β), .float .f64 (sel4 ax bx x3 x4 β), .float .f64 (sel4 ay b_y y3 y4 β), .float .f64 (sel4 x1 x2 cx dx β), .float .f64 (sel4 y1 y2 cy dy β)]) (by simp [r0, r1, r2, r3, r4, results, Try.results14, go_sem] <;> (first | exact ⟨rfl, rfl, rfl, rfl, rfl⟩ | rfl)) rfl ⟨_, _, _, _, _, by rw [e0]; exact hN, rfl, bX _ (bl_trans B0 BF) (by omega)⟩
        · have e0 : segF A B C D = endF A B C D := by unfold segF acF; rw [q1, q2]; rfl
          clear k_p6_0 k_p6_1 k_p7_0 k_p7_1
          go_wp2_with (first | (go_at_call 50; with_reducible refine (across_n _ hs0 ht0).mono ?_; rintro e w' ⟨rfl, rfl⟩; rw [q1]) | (go_at_call 50; with_reducible refine (across_n _ hu0 hv0).mono ?_; rintro e w' ⟨rfl, rfl⟩; rw [q2]) | (go_at_call 9; with_reducible refine (rpoint_n _ hc_ hd_ ha).mono ?_; rintro e w1 ⟨x1, y1, t1, hq1, ht1, rfl, hb⟩; replace z0_0 : w1.cell? ⟨w.heap.size, 0, none⟩ = some (.float .f64 ax) := keep hb (by first | exact z0_0 | go_keep); replace z0_1 : w1.cell? ⟨w.heap.size, 1, none⟩ = some (.float .f64 ay) := keep hb (by first | exact z0_1 | go_keep); replace z1_0 : w1.cell? ⟨w.heap.size + 1, 0, none⟩ = some (.float .f64 bx) := keep hb (by first | exact z1_0 | go_keep); replace z1_1 : w1.cell? ⟨w.heap.size + 1, 1, none⟩ = some (.float .f64 b_y) := keep hb (by first | exact z1_1 | go_keep); replace z2_0 : w1.cell? ⟨w.heap.size + 1 + 1, 0, none⟩ = some (.float .f64 cx) := keep hb (by first | exact z2_0 | go_keep); replace z2_1 : w1.cell? ⟨w.heap.size + 1 + 1, 1, none⟩ = some (.float .f64 cy) := keep hb (by first | exact z2_1 | go_keep); replace z3_0 : w1.cell? ⟨w.heap.size + 1 + 1 + 1, 0, none⟩ = some (.float .f64 dx) := keep hb (by first | exact z3_0 | go_keep); replace z3_1 : w1.cell? ⟨w.heap.size + 1 + 1 + 1, 1, none⟩ = some (.float .f64 dy) := keep hb (by first | exact z3_1 | go_keep); replace z4_0 : w1.cell? ⟨w.heap.size + 1 + 1 + 1 + 1, 0, none⟩ = some (.float .f64 0) := keep hb (by first | exact z4_0 | go_keep); replace z4_1 : w1.cell? ⟨w.heap.size + 1 + 1 + 1 + 1, 1, none⟩ = some (.float .f64 0) := keep hb (by first | exact z4_1 | go_keep); replace z4_2 : w1.cell? ⟨w.heap.size + 1 + 1 + 1 + 1, 2, none⟩ = some (.float .f64 0) := keep hb (by first | exact z4_2 | go_keep); replace z4_3 : w1.cell? ⟨w.heap.size + 1 + 1 + 1 + 1, 3, none⟩ = some (.float .f64 0) := keep hb (by first | exact z4_3 | go_keep); replace z4_4 : w1.cell? ⟨w.heap.size + 1 + 1 + 1 + 1, 4, none⟩ = some (.float .f64 0) := keep hb (by first | exact z4_4 | go_keep); replace BF := bl_trans (by repeat (first | exact BF | apply bl_alloc | refine bl_set ?_ (by (try simp only [World.size_alloc]); omega))) hb; clear hb; have hz1 := BF.size; simp only [World.size_alloc] at hz1; have l10 : w.heap.size < w1.heap.size := (by omega); have l11 : w.heap.size + 1 < w1.heap.size := (by omega); have l12 : w.heap.size + 1 + 1 < w1.heap.size := (by omega); have l13 : w.heap.size + 1 + 1 + 1 < w1.heap.size := (by omega); have l14 : w.heap.size + 1 + 1 + 1 + 1 < w1.heap.size := (by omega)) | (go_at_call 9; with_reducible refine (rpoint_n _ hc_ hd_ hb_).mono ?_; rintro e w2 ⟨x2, y2, t2, hq2, ht2, rfl, hb⟩; replace z0_0 : w2.cell? ⟨w.heap.size, 0, none⟩ = some (.float .f64 ax) := keep hb (by first | exact z0_0 | go_keep); replace z0_1 : w2.cell? ⟨w.heap.size, 1, none⟩ = some (.float .f64 ay) := keep hb (by first | exact z0_1 | go_keep); replace z1_0 : w2.cell? ⟨w.heap.size + 1, 0, none⟩ = some (.float .f64 bx) := keep hb (by first | exact z1_0 | go_keep); replace z1_1 : w2.cell? ⟨w.heap.size + 1, 1, none⟩ = some (.float .f64 b_y) := keep hb (by first | exact z1_1 | go_keep); replace z2_0 : w2.cell? ⟨w.heap.size + 1 + 1, 0, none⟩ = some (.float .f64 cx) := keep hb (by first | exact z2_0 | go_keep); replace z2_1 : w2.cell? ⟨w.heap.size + 1 + 1, 1, none⟩ = some (.float .f64 cy) := keep hb (by first | exact z2_1 | go_keep); replace z3_0 : w2.cell? ⟨w.heap.size + 1 + 1 + 1, 0, none⟩ = some (.float .f64 dx) := keep hb (by first | exact z3_0 | go_keep); replace z3_1 : w2.cell? ⟨w.heap.size + 1 + 1 + 1, 1, none⟩ = some (.float .f64 dy) := keep hb (by first | exact z3_1 | go_keep); replace z4_0 : w2.cell? ⟨w.heap.size + 1 + 1 + 1 + 1, 0, none⟩ = some (.float .f64 0) := keep hb (by first | exact z4_0 | go_keep); replace z4_1 : w2.cell? ⟨w.heap.size + 1 + 1 + 1 + 1, 1, none⟩ = some (.float .f64 0) := keep hb (by first | exact z4_1 | go_keep); replace z4_2 : w2.cell? ⟨w.heap.size + 1 + 1 + 1 + 1, 2, none⟩ = some (.float .f64 0) := keep hb (by first | exact z4_2 | go_keep); replace z4_3 : w2.cell? ⟨w.heap.size + 1 + 1 + 1 + 1, 3, none⟩ = some (.float .f64 0) := keep hb (by first | exact z4_3 | go_keep); replace z4_4 : w2.cell? ⟨w.heap.size + 1 + 1 + 1 + 1, 4, none⟩ = some (.float .f64 0) := keep hb (by first | exact z4_4 | go_keep); have K1_0 : w2.cell? ⟨w1.heap.size, 0, none⟩ = some (.float .f64 x1) := keep hb (by go_keep); have K1_1 : w2.cell? ⟨w1.heap.size, 1, none⟩ = some (.float .f64 y1) := keep hb (by go_keep); replace BF := bl_trans (by repeat (first | exact BF | apply bl_alloc | refine bl_set ?_ (by (try simp only [World.size_alloc]); omega))) hb; clear hb; have hz2 := BF.size; simp only [World.size_alloc] at hz2; have l20 : w.heap.size < w2.heap.size := (by omega); have l21 : w.heap.size + 1 < w2.heap.size := (by omega); have l22 : w.heap.size + 1 + 1 < w2.heap.size := (by omega); have l23 : w.heap.size + 1 + 1 + 1 < w2.heap.size := (by omega); have l24 : w.heap.size + 1 + 1 + 1 + 1 < w2.heap.size := (by omega); have m21 := World.block_lt_of_cell? _ _ K1_0; simp only at m21) | (go_at_call 9; with_reducible refine (rpoint_n _ ha hb_ hc_).mono ?_; rintro e w3 ⟨x3, y3, t3, hq3, ht3, rfl, hb⟩; replace z0_0 : w3.cell? ⟨w.heap.size, 0, none⟩ = some (.float .f64 ax) := keep hb (by first | exact z0_0 | go_keep); replace z0_1 : w3.cell? ⟨w.heap.size, 1, none⟩ = some (.float .f64 ay) := keep hb (by first | exact z0_1 | go_keep); replace z1_0 : w3.cell? ⟨w.heap.size + 1, 0, none⟩ = some (.float .f64 bx) := keep hb (by first | exact z1_0 | go_keep); replace z1_1 : w3.cell? ⟨w.heap.size + 1, 1, none⟩ = some (.float .f64 b_y) := keep hb (by first | exact z1_1 | go_keep); replace z2_0 : w3.cell? ⟨w.heap.size + 1 + 1, 0, none⟩ = some (.float .f64 cx) := keep hb (by first | exact z2_0 | go_keep); replace z2_1 : w3.cell? ⟨w.heap.size + 1 + 1, 1, none⟩ = some (.float .f64 cy) := keep hb (by first | exact z2_1 | go_keep); replace z3_0 : w3.cell? ⟨w.heap.size + 1 + 1 + 1, 0, none⟩ = some (.float .f64 dx) := keep hb (by first | exact z3_0 | go_keep); replace z3_1 : w3.cell? ⟨w.heap.size + 1 + 1 + 1, 1, none⟩ = some (.float .f64 dy) := keep hb (by first | exact z3_1 | go_keep); replace z4_0 : w3.cell? ⟨w.heap.size + 1 + 1 + 1 + 1, 0, none⟩ = some (.float .f64 0) := keep hb (by first | exact z4_0 | go_keep); replace z4_1 : w3.cell? ⟨w.heap.size + 1 + 1 + 1 + 1, 1, none⟩ = some (.float .f64 0) := keep hb (by first | exact z4_1 | go_keep); replace z4_2 : w3.cell? ⟨w.heap.size + 1 + 1 + 1 + 1, 2, none⟩ = some (.float .f64 0) := keep hb (by first | exact z4_2 | go_keep); replace z4_3 : w3.cell? ⟨w.heap.size + 1 + 1 + 1 + 1, 3, none⟩ = some (.float .f64 0) := keep hb (by first | exact z4_3 | go_keep); replace z4_4 : w3.cell? ⟨w.heap.size + 1 + 1 + 1 + 1, 4, none⟩ = some (.float .f64 0) := keep hb (by first | exact z4_4 | go_keep); replace K1_0 : w3.cell? ⟨w1.heap.size, 0, none⟩ = some (.float .f64 x1) := keep hb (by first | exact K1_0 | go_keep); replace K1_1 : w3.cell? ⟨w1.heap.size, 1, none⟩ = some (.float .f64 y1) := keep hb (by first | exact K1_1 | go_keep); have K2_0 : w3.cell? ⟨w2.heap.size, 0, none⟩ = some (.float .f64 x2) := keep hb (by go_keep); have K2_1 : w3.cell? ⟨w2.heap.size, 1, none⟩ = some (.float .f64 y2) := keep hb (by go_keep); replace BF := bl_trans (by repeat (first | exact BF | apply bl_alloc | refine bl_set ?_ (by (try simp only [World.size_alloc]); omega))) hb; clear hb; have hz3 := BF.size; simp only [World.size_alloc] at hz3; have l30 : w.heap.size < w3.heap.size := (by omega); have l31 : w.heap.size + 1 < w3.heap.size := (by omega); have l32 : w.heap.size + 1 + 1 < w3.heap.size := (by omega); have l33 : w.heap.size + 1 + 1 + 1 < w3.heap.size := (by omega); have l34 : w.heap.size + 1 + 1 + 1 + 1 < w3.heap.size := (by omega); have m31 := World.block_lt_of_cell? _ _ K1_0; simp only at m31; have m32 := World.block_lt_of_cell? _ _ K2_0; simp only at m32) | (go_at_call 9; with_reducible refine (rpoint_n _ ha hb_ hd_).mono ?_; rintro e w4 ⟨x4, y4, t4, hq4, ht4, rfl, hb⟩; replace z0_0 : w4.cell? ⟨w.heap.size, 0, none⟩ = some (.float .f64 ax) := keep hb (by first | exact z0_0 | go_keep); replace z0_1 : w4.cell? ⟨w.heap.size, 1, none⟩ = some (.float .f64 ay) := keep hb (by first | exact z0_1 | go_keep); replace z1_0 : w4.cell? ⟨w.heap.size + 1, 0, none⟩ = some (.float .f64 bx) := keep hb (by first | exact z1_0 | go_keep); replace z1_1 : w4.cell? ⟨w.heap.size + 1, 1, none⟩ = some (.float .f64 b_y) := keep hb (by first | exact z1_1 | go_keep); replace z2_0 : w4.cell? ⟨w.heap.size + 1 + 1, 0, none⟩ = some (.float .f64 cx) := keep hb (by first | exact z2_0 | go_keep); replace z2_1 : w4.cell? ⟨w.heap.size + 1 + 1, 1, none⟩ = some (.float .f64 cy) := keep hb (by first | exact z2_1 | go_keep); replace z3_0 : w4.cell? ⟨w.heap.size + 1 + 1 + 1, 0, none⟩ = some (.float .f64 dx) := keep hb (by first | exact z3_0 | go_keep); replace z3_1 : w4.cell? ⟨w.heap.size + 1 + 1 + 1, 1, none⟩ = some (.float .f64 dy) := keep hb (by first | exact z3_1 | go_keep); replace z4_0 : w4.cell? ⟨w.heap.size + 1 + 1 + 1 + 1, 0, none⟩ = some (.float .f64 0) := keep hb (by first | exact z4_0 | go_keep); replace z4_1 : w4.cell? ⟨w.heap.size + 1 + 1 + 1 + 1, 1, none⟩ = some (.float .f64 0) := keep hb (by first | exact z4_1 | go_keep); replace z4_2 : w4.cell? ⟨w.heap.size + 1 + 1 + 1 + 1, 2, none⟩ = some (.float .f64 0) := keep hb (by first | exact z4_2 | go_keep); replace z4_3 : w4.cell? ⟨w.heap.size + 1 + 1 + 1 + 1, 3, none⟩ = some (.float .f64 0) := keep hb (by first | exact z4_3 | go_keep); replace z4_4 : w4.cell? ⟨w.heap.size + 1 + 1 + 1 + 1, 4, none⟩ = some (.float .f64 0) := keep hb (by first | exact z4_4 | go_keep); replace K1_0 : w4.cell? ⟨w1.heap.size, 0, none⟩ = some (.float .f64 x1) := keep hb (by first | exact K1_0 | go_keep); replace K1_1 : w4.cell? ⟨w1.heap.size, 1, none⟩ = some (.float .f64 y1) := keep hb (by first | exact K1_1 | go_keep); replace K2_0 : w4.cell? ⟨w2.heap.size, 0, none⟩ = some (.float .f64 x2) := keep hb (by first | exact K2_0 | go_keep); replace K2_1 : w4.cell? ⟨w2.heap.size, 1, none⟩ = some (.float .f64 y2) := keep hb (by first | exact K2_1 | go_keep); have K3_0 : w4.cell? ⟨w3.heap.size, 0, none⟩ = some (.float .f64 x3) := keep hb (by go_keep); have K3_1 : w4.cell? ⟨w3.heap.size, 1, none⟩ = some (.float .f64 y3) := keep hb (by go_keep); replace BF := bl_trans (by repeat (first | exact BF | apply bl_alloc | refine bl_set ?_ (by (try simp only [World.size_alloc]); omega))) hb; clear hb; have hz4 := BF.size; simp only [World.size_alloc] at hz4; have l40 : w.heap.size < w4.heap.size := (by omega); have l41 : w.heap.size + 1 < w4.heap.size := (by omega); have l42 : w.heap.size + 1 + 1 < w4.heap.size := (by omega); have l43 : w.heap.size + 1 + 1 + 1 < w4.heap.size := (by omega); have l44 : w.heap.size + 1 + 1 + 1 + 1 < w4.heap.size := (by omega); have m41 := World.block_lt_of_cell? _ _ K1_0; simp only at m41; have m42 := World.block_lt_of_cell? _ _ K2_0; simp only at m42; have m43 := World.block_lt_of_cell? _ _ K3_0; simp only at m43))
          have eG : (w4.alloc (.cells #[.float .f64 x4, .float .f64 y4] 24)).heap.size = w4.heap.size + 1 := World.size_alloc _ _
          have hT : ∀ q, q < 4 → ((w4.alloc (.cells #[.float .f64 x4, .float .f64 y4] 24)).alloc (.cells #[.float .f64 0, .float .f64 ax, .float .f64 ay, .float .f64 x1, .float .f64 y1, .float .f64 0, .float .f64 bx, .float .f64 b_y, .float .f64 x2, .float .f64 y2, .float .f64 0, .float .f64 x3, .float .f64 y3, .float .f64 cx, .float .f64 cy, .float .f64 0, .float .f64 x4, .float .f64 y4, .float .f64 dx, .float .f64 dy] 33)).cell? ⟨w4.heap.size + 1, q * 5 + 1, none⟩ = some (.float .f64 (sel4 ax bx x3 x4 q)) ∧ ((w4.alloc (.cells #[.float .f64 x4, .float .f64 y4] 24)).alloc (.cells #[.float .f64 0, .float .f64 ax, .float .f64 ay, .float .f64 x1, .float .f64 y1, .float .f64 0, .float .f64 bx, .float .f64 b_y, .float .f64 x2, .float .f64 y2, .float .f64 0, .float .f64 x3, .float .f64 y3, .float .f64 cx, .float .f64 cy, .float .f64 0, .float .f64 x4, .float .f64 y4, .float .f64 dx, .float .f64 dy] 33)).cell? ⟨w4.heap.size + 1, q * 5 + 2, none⟩ = some (.float .f64 (sel4 ay b_y y3 y4 q)) ∧ ((w4.alloc (.cells #[.float .f64 x4, .float .f64 y4] 24)).alloc (.cells #[.float .f64 0, .float .f64 ax, .float .f64 ay, .float .f64 x1, .float .f64 y1, .float .f64 0, .float .f64 bx, .float .f64 b_y, .float .f64 x2, .float .f64 y2, .float .f64 0, .float .f64 x3, .float .f64 y3, .float .f64 cx, .float .f64 cy, .float .f64 0, .float .f64 x4, .float .f64 y4, .float .f64 dx, .float .f64 dy] 33)).cell? ⟨w4.heap.size + 1, q * 5 + 3, none⟩ = some (.float .f64 (sel4 x1 x2 cx dx q)) ∧ ((w4.alloc (.cells #[.float .f64 x4, .float .f64 y4] 24)).alloc (.cells #[.float .f64 0, .float .f64 ax, .float .f64 ay, .float .f64 x1, .float .f64 y1, .float .f64 0, .float .f64 bx, .float .f64 b_y, .float .f64 x2, .float .f64 y2, .float .f64 0, .float .f64 x3, .float .f64 y3, .float .f64 cx, .float .f64 cy, .float .f64 0, .float .f64 x4, .float .f64 y4, .float .f64 dx, .float .f64 dy] 33)).cell? ⟨w4.heap.size + 1, q * 5 + 4, none⟩ = some (.float .f64 (sel4 y1 y2 cy dy q)) := fun q hq => by
            rw [← eG]
            rcases (show q = 0 ∨ q = 1 ∨ q = 2 ∨ q = 3 by omega) with rfl | rfl | rfl | rfl <;> (simp only [World.cell?_alloc_new]; exact ⟨rfl, rfl, rfl, rfl⟩)
          have hF : ∀ q, q < 4 → ((w4.alloc (.cells #[.float .f64 x4, .float .f64 y4] 24)).alloc (.cells #[.float .f64 0, .float .f64 ax, .float .f64 ay, .float .f64 x1, .float .f64 y1, .float .f64 0, .float .f64 bx, .float .f64 b_y, .float .f64 x2, .float .f64 y2, .float .f64 0, .float .f64 x3, .float .f64 y3, .float .f64 cx, .float .f64 cy, .float .f64 0, .float .f64 x4, .float .f64 y4, .float .f64 dx, .float .f64 dy] 33)).cell? ⟨w4.heap.size + 1, q * 5, none⟩ = some (.float .f64 (0)) := fun q hq => by
            rw [← eG]
            rcases (show q = 0 ∨ q = 1 ∨ q = 2 ∨ q = 3 by omega) with rfl | rfl | rfl | rfl <;> (simp only [World.cell?_alloc_new]; rfl)
          have hPP : ∀ q, q < 4 → isP (sel4 ax bx x3 x4 q) (sel4 ay b_y y3 y4 q) (sel4 A B (ptF A B C).1 (ptF A B D).1 q) ∧ isP (sel4 x1 x2 cx dx q) (sel4 y1 y2 cy dy q) (sel4 (ptF C D A).1 (ptF C D B).1 C D q) := fun q hq => by
            rcases (show q = 0 ∨ q = 1 ∨ q = 2 ∨ q = 3 by omega) with rfl | rfl | rfl | rfl
            · exact ⟨ha, hq1⟩
            · exact ⟨hb_, hq2⟩
            · exact ⟨hq3, hc_⟩
            · exact ⟨hq4, hd_⟩
          replace z4_0 := keep (bl_alloc (bl_refl w4) #[.float .f64 x4, .float .f64 y4] 24) z4_0; replace z4_1 := keep (bl_alloc (bl_refl w4) #[.float .f64 x4, .float .f64 y4] 24) z4_1; replace z4_2 := keep (bl_alloc (bl_refl w4) #[.float .f64 x4, .float .f64 y4] 24) z4_2; replace z4_3 := keep (bl_alloc (bl_refl w4) #[.float .f64 x4, .float .f64 y4] 24) z4_3; replace z4_4 := keep (bl_alloc (bl_refl w4) #[.float .f64 x4, .float .f64 y4] 24) z4_4
          replace BF : Bel _ (w4.alloc (.cells #[.float .f64 x4, .float .f64 y4] 24)) := bl_alloc BF _ _
          clear z0_0 z0_1 z1_0 z1_1 z2_0 z2_1 z3_0 z3_1 K1_0 K1_1 K2_0 K2_1 K3_0 K3_1
          go_loopw [25, 26] (fun b' i' wr => ∃ (β k : Nat) (fa : Nat → Nat), k ≤ 4 ∧ β < 4 ∧ b' = .int .i64 β ∧ i' = .int .i64 k ∧ Bel (w4.alloc (.cells #[.float .f64 x4, .float .f64 y4] 24)) wr ∧ (∀ q, q < 4 → wr.cell? ⟨w4.heap.size + 1, q * 5 + 1, none⟩ = some (.float .f64 (sel4 ax bx x3 x4 q)) ∧ wr.cell? ⟨w4.heap.size + 1, q * 5 + 2, none⟩ = some (.float .f64 (sel4 ay b_y y3 y4 q)) ∧ wr.cell? ⟨w4.heap.size + 1, q * 5 + 3, none⟩ = some (.float .f64 (sel4 x1 x2 cx dx q)) ∧ wr.cell? ⟨w4.heap.size + 1, q * 5 + 4, none⟩ = some (.float .f64 (sel4 y1 y2 cy dy q))) ∧ (∀ q, q < 4 → wr.cell? ⟨w4.heap.size + 1, q * 5, none⟩ = some (.float .f64 (fa q))) ∧ (k = 0 → β = 0) ∧ (∀ m, k = m + 1 → β < k ∧ isN (fa β) (sel4 ax bx x3 x4 β) (sel4 ay b_y y3 y4 β) (sel4 x1 x2 cx dx β) (sel4 y1 y2 cy dy β) (bF A B C D m))) (fun _ i' _ => 4 - (intOf i').toNat)
          case atStart => exact ⟨0, 0, fun _ => 0, by omega, by omega, rfl, rfl, bl_alloc (bl_refl _) _ _, hT, hF, fun _ => rfl, fun m hm => by omega⟩
          case round =>
            clear hT hF
            obtain ⟨β, k, fa, hk, hβ, rfl, rfl, hB, hT, hF, hz0, hzz⟩ := hrel
            have hlb := fun m hm => (hzz m hm).1
            have hz1 := fun m hm => (hzz m hm).2
            clear hzz
            by_cases hlt : k < 4
            · obtain ⟨hp1, hp2⟩ := hPP k hlt
              obtain ⟨a1, a2, a3, a4⟩ := hT k hlt
              have fE : ∀ o, wr.frozen? ⟨w4.heap.size + 1, o, none⟩ = false := fun o => (hB.2 _).trans (fresh_frozen (by simp only [World.size_alloc]; exact Nat.le_refl _))
              have lk := World.block_lt_of_cell? _ _ a1
              simp only at lk
              have kI : (k : Int) < 4 := by omega
              have kb : (β : Int) < 4 := by omega
              go_wp2
              refine wp_region_ret 17 16 13 rfl (fun i v => match i with | 0 => v = .slice (some ⟨w4.heap.size + 1, 0, none⟩) 4 4 | 1 => v = .int .i64 (k : Int) | 2 => v = .slice (some ⟨w4.heap.size + 1, 0, none⟩) 4 4 | 3 => v = .int .i64 (k : Int) | 4 => v = .pointer (some ⟨w4.heap.size + 1, k * 5, none⟩) | 5 => v = .pointer (some ⟨w4.heap.size + 1, k * 5 + 3, none⟩) | 6 => v = .agg #[.float .f64 (sel4 x1 x2 cx dx k), .float .f64 (sel4 y1 y2 cy dy k)] | 7 => v = .slice (some ⟨w4.heap.size + 1, 0, none⟩) 4 4 | 8 => v = .int .i64 (k : Int) | 9 => v = .pointer (some ⟨w4.heap.size + 1, k * 5, none⟩) | 10 => v = .pointer (some ⟨w4.heap.size + 1, k * 5 + 1, none⟩) | 11 => v = .agg #[.float .f64 (sel4 ax bx x3 x4 k), .float .f64 (sel4 ay b_y y3 y4 k)] | 12 => ∃ x y, isP x y (suF (sel4 (ptF C D A).1 (ptF C D B).1 C D k) (sel4 A B (ptF A B C).1 (ptF A B D).1 k)) ∧ v = .agg #[.float .f64 x, .float .f64 y] | 13 => ∃ r, isF r (lnF (suF (sel4 (ptF C D A).1 (ptF C D B).1 C D k) (sel4 A B (ptF A B C).1 (ptF A B D).1 k))) ∧ v = .float .f64 r | 14 => v = .pointer (some ⟨w4.heap.size + 1, k * 5, none⟩) | 15 => v = .pointer (some ⟨w4.heap.size + 1, k * 5, none⟩) | _ => False) (put1 (w4.heap.size + 1) (k * 5)) ?A_wo2 (by kernel_rfl) (by kernel_rfl) (by kernel_rfl) (by decide) (by decide) ?hA_wo2 ?hst_wo2 ?hq_wo2 ?ht_wo2
              case hA_wo2 =>
                intro s
                simp only [putL, dstO, Act.put, List.getElem?_toArray, List.getElem?_cons_zero, List.getElem?_cons_succ, Option.bind_some, List.setIfInBounds_toArray, List.set_cons_zero, List.set_cons_succ, if_true]
                all_goals exact rfl
              case hst_wo2 =>
                intro o ho s hs W hb K hK
                cases ho
                have u0 := keep hb (hF k hlt); have u9 := fun o => (hb.2 ⟨w4.heap.size + 1, o, none⟩).trans (fE o)
                have e15 : s 15 = _ := hs 15 (by decide) (by kernel_rfl)
                obtain ⟨r, h13, e13⟩ := hs 13 (by decide) (by kernel_rfl)
                simp only [e15, e13] at hK ⊢
                clear hs
                go_simp
                exact hK.out
              case hq_wo2 =>
                intro i o hi hne ho s hs W hb K hK
                have u1 := once_keep1 hb a1 (.inr (by simp only; omega)); have u2 := once_keep1 hb a2 (.inr (by simp only; omega)); have u3 := once_keep1 hb a3 (.inr (by simp only; omega)); have u4 := once_keep1 hb a4 (.inr (by simp only; omega)); have lW := World.block_lt_of_cell? _ _ u1; simp only at lW
                rcases (show i = 0 ∨ i = 1 ∨ i = 2 ∨ i = 3 ∨ i = 4 ∨ i = 5 ∨ i = 6 ∨ i = 7 ∨ i = 8 ∨ i = 9 ∨ i = 10 ∨ i = 11 ∨ i = 12 ∨ i = 13 ∨ i = 14 ∨ i = 15 ∨ i = 16 by omega) with rfl | rfl | rfl | rfl | rfl | rfl | rfl | rfl | rfl | rfl | rfl | rfl | rfl | rfl | rfl | rfl | rfl
                · cases ho
                  simp only [Act.put, List.setIfInBounds_toArray, List.set_cons_zero, List.set_cons_succ] at hK
                  clear hs hne
                  go_simp
                  all_goals (try go_wp2_with (first | (go_at_call 40; refine (minus_n _ hp2 hp1).mono ?_; rintro e w' ⟨x, y, h12, rfl, hb1⟩) | (go_at_call 51; refine (length_n _ h12).mono ?_; rintro e w' ⟨r, h13, rfl, hb1⟩)))
                  all_goals first | exact hK.out _ _ ⟨_, _, h12, rfl⟩ hb1 | exact hK.out _ _ ⟨_, h13, rfl⟩ hb1 | exact hK.out _ _ rfl (bl_refl _) | exact hK.out _ _ rfl (by assumption) | exact hK.out _ _ (by assumption) (by assumption)
                · cases ho
                  simp only [Act.put, List.setIfInBounds_toArray, List.set_cons_zero, List.set_cons_succ] at hK
                  clear hs hne
                  go_simp
                  all_goals (try go_wp2_with (first | (go_at_call 40; refine (minus_n _ hp2 hp1).mono ?_; rintro e w' ⟨x, y, h12, rfl, hb1⟩) | (go_at_call 51; refine (length_n _ h12).mono ?_; rintro e w' ⟨r, h13, rfl, hb1⟩)))
                  all_goals first | exact hK.out _ _ ⟨_, _, h12, rfl⟩ hb1 | exact hK.out _ _ ⟨_, h13, rfl⟩ hb1 | exact hK.out _ _ rfl (bl_refl _) | exact hK.out _ _ rfl (by assumption) | exact hK.out _ _ (by assumption) (by assumption)
                · cases ho
                  simp only [Act.put, List.setIfInBounds_toArray, List.set_cons_zero, List.set_cons_succ] at hK
                  clear hs hne
                  go_simp
                  all_goals (try go_wp2_with (first | (go_at_call 40; refine (minus_n _ hp2 hp1).mono ?_; rintro e w' ⟨x, y, h12, rfl, hb1⟩) | (go_at_call 51; refine (length_n _ h12).mono ?_; rintro e w' ⟨r, h13, rfl, hb1⟩)))
                  all_goals first | exact hK.out _ _ ⟨_, _, h12, rfl⟩ hb1 | exact hK.out _ _ ⟨_, h13, rfl⟩ hb1 | exact hK.out _ _ rfl (bl_refl _) | exact hK.out _ _ rfl (by assumption) | exact hK.out _ _ (by assumption) (by assumption)
                · cases ho
                  simp only [Act.put, List.setIfInBounds_toArray, List.set_cons_zero, List.set_cons_succ] at hK
                  clear hs hne
                  go_simp
                  all_goals (try go_wp2_with (first | (go_at_call 40; refine (minus_n _ hp2 hp1).mono ?_; rintro e w' ⟨x, y, h12, rfl, hb1⟩) | (go_at_call 51; refine (length_n _ h12).mono ?_; rintro e w' ⟨r, h13, rfl, hb1⟩)))
                  all_goals first | exact hK.out _ _ ⟨_, _, h12, rfl⟩ hb1 | exact hK.out _ _ ⟨_, h13, rfl⟩ hb1 | exact hK.out _ _ rfl (bl_refl _) | exact hK.out _ _ rfl (by assumption) | exact hK.out _ _ (by assumption) (by assumption)
                · cases ho
                  have e2 : s 2 = _ := hs 2 (by decide) (by decide) (by kernel_rfl)
                  have e3 : s 3 = _ := hs 3 (by decide) (by decide) (by kernel_rfl)
                  simp only [e2, e3] at hK ⊢
                  simp only [Act.put, List.setIfInBounds_toArray, List.set_cons_zero, List.set_cons_succ] at hK
                  clear hs hne
                  go_simp
                  all_goals (try go_wp2_with (first | (go_at_call 40; refine (minus_n _ hp2 hp1).mono ?_; rintro e w' ⟨x, y, h12, rfl, hb1⟩) | (go_at_call 51; refine (length_n _ h12).mono ?_; rintro e w' ⟨r, h13, rfl, hb1⟩)))
                  all_goals first | exact hK.out _ _ ⟨_, _, h12, rfl⟩ hb1 | exact hK.out _ _ ⟨_, h13, rfl⟩ hb1 | exact hK.out _ _ rfl (bl_refl _) | exact hK.out _ _ rfl (by assumption) | exact hK.out _ _ (by assumption) (by assumption)
                · cases ho
                  have e4 : s 4 = _ := hs 4 (by decide) (by decide) (by kernel_rfl)
                  simp only [e4] at hK ⊢
                  simp only [Act.put, List.setIfInBounds_toArray, List.set_cons_zero, List.set_cons_succ] at hK
                  clear hs hne
                  go_simp
                  all_goals (try go_wp2_with (first | (go_at_call 40; refine (minus_n _ hp2 hp1).mono ?_; rintro e w' ⟨x, y, h12, rfl, hb1⟩) | (go_at_call 51; refine (length_n _ h12).mono ?_; rintro e w' ⟨r, h13, rfl, hb1⟩)))
                  all_goals first | exact hK.out _ _ ⟨_, _, h12, rfl⟩ hb1 | exact hK.out _ _ ⟨_, h13, rfl⟩ hb1 | exact hK.out _ _ rfl (bl_refl _) | exact hK.out _ _ rfl (by assumption) | exact hK.out _ _ (by assumption) (by assumption)
                · cases ho
                  have e5 : s 5 = _ := hs 5 (by decide) (by decide) (by kernel_rfl)
                  simp only [e5] at hK ⊢
                  simp only [Act.put, List.setIfInBounds_toArray, List.set_cons_zero, List.set_cons_succ] at hK
                  clear hs hne
                  go_simp
                  all_goals (try go_wp2_with (first | (go_at_call 40; refine (minus_n _ hp2 hp1).mono ?_; rintro e w' ⟨x, y, h12, rfl, hb1⟩) | (go_at_call 51; refine (length_n _ h12).mono ?_; rintro e w' ⟨r, h13, rfl, hb1⟩)))
                  all_goals first | exact hK.out _ _ ⟨_, _, h12, rfl⟩ hb1 | exact hK.out _ _ ⟨_, h13, rfl⟩ hb1 | exact hK.out _ _ rfl (bl_refl _) | exact hK.out _ _ rfl (by assumption) | exact hK.out _ _ (by assumption) (by assumption)
                · cases ho
                  simp only [Act.put, List.setIfInBounds_toArray, List.set_cons_zero, List.set_cons_succ] at hK
                  clear hs hne
                  go_simp
                  all_goals (try go_wp2_with (first | (go_at_call 40; refine (minus_n _ hp2 hp1).mono ?_; rintro e w' ⟨x, y, h12, rfl, hb1⟩) | (go_at_call 51; refine (length_n _ h12).mono ?_; rintro e w' ⟨r, h13, rfl, hb1⟩)))
                  all_goals first | exact hK.out _ _ ⟨_, _, h12, rfl⟩ hb1 | exact hK.out _ _ ⟨_, h13, rfl⟩ hb1 | exact hK.out _ _ rfl (bl_refl _) | exact hK.out _ _ rfl (by assumption) | exact hK.out _ _ (by assumption) (by assumption)
                · cases ho
                  simp only [Act.put, List.setIfInBounds_toArray, List.set_cons_zero, List.set_cons_succ] at hK
                  clear hs hne
                  go_simp
                  all_goals (try go_wp2_with (first | (go_at_call 40; refine (minus_n _ hp2 hp1).mono ?_; rintro e w' ⟨x, y, h12, rfl, hb1⟩) | (go_at_call 51; refine (length_n _ h12).mono ?_; rintro e w' ⟨r, h13, rfl, hb1⟩)))
                  all_goals first | exact hK.out _ _ ⟨_, _, h12, rfl⟩ hb1 | exact hK.out _ _ ⟨_, h13, rfl⟩ hb1 | exact hK.out _ _ rfl (bl_refl _) | exact hK.out _ _ rfl (by assumption) | exact hK.out _ _ (by assumption) (by assumption)
                · cases ho
                  have e7 : s 7 = _ := hs 7 (by decide) (by decide) (by kernel_rfl)
                  have e8 : s 8 = _ := hs 8 (by decide) (by decide) (by kernel_rfl)
                  simp only [e7, e8] at hK ⊢
                  simp only [Act.put, List.setIfInBounds_toArray, List.set_cons_zero, List.set_cons_succ] at hK
                  clear hs hne
                  go_simp
                  all_goals (try go_wp2_with (first | (go_at_call 40; refine (minus_n _ hp2 hp1).mono ?_; rintro e w' ⟨x, y, h12, rfl, hb1⟩) | (go_at_call 51; refine (length_n _ h12).mono ?_; rintro e w' ⟨r, h13, rfl, hb1⟩)))
                  all_goals first | exact hK.out _ _ ⟨_, _, h12, rfl⟩ hb1 | exact hK.out _ _ ⟨_, h13, rfl⟩ hb1 | exact hK.out _ _ rfl (bl_refl _) | exact hK.out _ _ rfl (by assumption) | exact hK.out _ _ (by assumption) (by assumption)
                · cases ho
                  have e9 : s 9 = _ := hs 9 (by decide) (by decide) (by kernel_rfl)
                  simp only [e9] at hK ⊢
                  simp only [Act.put, List.setIfInBounds_toArray, List.set_cons_zero, List.set_cons_succ] at hK
                  clear hs hne
                  go_simp
                  all_goals (try go_wp2_with (first | (go_at_call 40; refine (minus_n _ hp2 hp1).mono ?_; rintro e w' ⟨x, y, h12, rfl, hb1⟩) | (go_at_call 51; refine (length_n _ h12).mono ?_; rintro e w' ⟨r, h13, rfl, hb1⟩)))
                  all_goals first | exact hK.out _ _ ⟨_, _, h12, rfl⟩ hb1 | exact hK.out _ _ ⟨_, h13, rfl⟩ hb1 | exact hK.out _ _ rfl (bl_refl _) | exact hK.out _ _ rfl (by assumption) | exact hK.out _ _ (by assumption) (by assumption)
                · cases ho
                  have e10 : s 10 = _ := hs 10 (by decide) (by decide) (by kernel_rfl)
                  simp only [e10] at hK ⊢
                  simp only [Act.put, List.setIfInBounds_toArray, List.set_cons_zero, List.set_cons_succ] at hK
                  clear hs hne
                  go_simp
                  all_goals (try go_wp2_with (first | (go_at_call 40; refine (minus_n _ hp2 hp1).mono ?_; rintro e w' ⟨x, y, h12, rfl, hb1⟩) | (go_at_call 51; refine (length_n _ h12).mono ?_; rintro e w' ⟨r, h13, rfl, hb1⟩)))
                  all_goals first | exact hK.out _ _ ⟨_, _, h12, rfl⟩ hb1 | exact hK.out _ _ ⟨_, h13, rfl⟩ hb1 | exact hK.out _ _ rfl (bl_refl _) | exact hK.out _ _ rfl (by assumption) | exact hK.out _ _ (by assumption) (by assumption)
                · cases ho
                  have e6 : s 6 = _ := hs 6 (by decide) (by decide) (by kernel_rfl)
                  have e11 : s 11 = _ := hs 11 (by decide) (by decide) (by kernel_rfl)
                  simp only [e6, e11] at hK ⊢
                  simp only [Act.put, List.setIfInBounds_toArray, List.set_cons_zero, List.set_cons_succ] at hK
                  clear hs hne
                  go_simp
                  all_goals (try go_wp2_with (first | (go_at_call 40; refine (minus_n _ hp2 hp1).mono ?_; rintro e w' ⟨x, y, h12, rfl, hb1⟩) | (go_at_call 51; refine (length_n _ h12).mono ?_; rintro e w' ⟨r, h13, rfl, hb1⟩)))
                  all_goals first | exact hK.out _ _ ⟨_, _, h12, rfl⟩ hb1 | exact hK.out _ _ ⟨_, h13, rfl⟩ hb1 | exact hK.out _ _ rfl (bl_refl _) | exact hK.out _ _ rfl (by assumption) | exact hK.out _ _ (by assumption) (by assumption)
                · cases ho
                  obtain ⟨x, y, h12, e12⟩ := hs 12 (by decide) (by decide) (by kernel_rfl)
                  simp only [e12] at hK ⊢
                  simp only [Act.put, List.setIfInBounds_toArray, List.set_cons_zero, List.set_cons_succ] at hK
                  clear hs hne
                  go_simp
                  all_goals (try go_wp2_with (first | (go_at_call 40; refine (minus_n _ hp2 hp1).mono ?_; rintro e w' ⟨x, y, h12, rfl, hb1⟩) | (go_at_call 51; refine (length_n _ h12).mono ?_; rintro e w' ⟨r, h13, rfl, hb1⟩)))
                  all_goals first | exact hK.out _ _ ⟨_, _, h12, rfl⟩ hb1 | exact hK.out _ _ ⟨_, h13, rfl⟩ hb1 | exact hK.out _ _ rfl (bl_refl _) | exact hK.out _ _ rfl (by assumption) | exact hK.out _ _ (by assumption) (by assumption)
                · cases ho
                  have e0 : s 0 = _ := hs 0 (by decide) (by decide) (by kernel_rfl)
                  have e1 : s 1 = _ := hs 1 (by decide) (by decide) (by kernel_rfl)
                  simp only [e0, e1] at hK ⊢
                  simp only [Act.put, List.setIfInBounds_toArray, List.set_cons_zero, List.set_cons_succ] at hK
                  clear hs hne
                  go_simp
                  all_goals (try go_wp2_with (first | (go_at_call 40; refine (minus_n _ hp2 hp1).mono ?_; rintro e w' ⟨x, y, h12, rfl, hb1⟩) | (go_at_call 51; refine (length_n _ h12).mono ?_; rintro e w' ⟨r, h13, rfl, hb1⟩)))
                  all_goals first | exact hK.out _ _ ⟨_, _, h12, rfl⟩ hb1 | exact hK.out _ _ ⟨_, h13, rfl⟩ hb1 | exact hK.out _ _ rfl (bl_refl _) | exact hK.out _ _ rfl (by assumption) | exact hK.out _ _ (by assumption) (by assumption)
                · cases ho
                  have e14 : s 14 = _ := hs 14 (by decide) (by decide) (by kernel_rfl)
                  simp only [e14] at hK ⊢
                  simp only [Act.put, List.setIfInBounds_toArray, List.set_cons_zero, List.set_cons_succ] at hK
                  clear hs hne
                  go_simp
                  all_goals (try go_wp2_with (first | (go_at_call 40; refine (minus_n _ hp2 hp1).mono ?_; rintro e w' ⟨x, y, h12, rfl, hb1⟩) | (go_at_call 51; refine (length_n _ h12).mono ?_; rintro e w' ⟨r, h13, rfl, hb1⟩)))
                  all_goals first | exact hK.out _ _ ⟨_, _, h12, rfl⟩ hb1 | exact hK.out _ _ ⟨_, h13, rfl⟩ hb1 | exact hK.out _ _ rfl (bl_refl _) | exact hK.out _ _ rfl (by assumption) | exact hK.out _ _ (by assumption) (by assumption)
                · exact absurd rfl hne
              case ht_wo2 =>
                intro s hs W0 W hb0 hb
                have e0 : s 0 = _ := hs 0 (by decide) (by decide)
                have e1 : s 1 = _ := hs 1 (by decide) (by decide)
                have e2 : s 2 = _ := hs 2 (by decide) (by decide)
                have e3 : s 3 = _ := hs 3 (by decide) (by decide)
                have e4 : s 4 = _ := hs 4 (by decide) (by decide)
                have e5 : s 5 = _ := hs 5 (by decide) (by decide)
                have e6 : s 6 = _ := hs 6 (by decide) (by decide)
                have e7 : s 7 = _ := hs 7 (by decide) (by decide)
                have e8 : s 8 = _ := hs 8 (by decide) (by decide)
                have e9 : s 9 = _ := hs 9 (by decide) (by decide)
                have e10 : s 10 = _ := hs 10 (by decide) (by decide)
                have e11 : s 11 = _ := hs 11 (by decide) (by decide)
                obtain ⟨_, _, _, e12⟩ := hs 12 (by decide) (by decide)
                obtain ⟨r, h13, e13⟩ := hs 13 (by decide) (by decide)
                have e14 : s 14 = _ := hs 14 (by decide) (by decide)
                have e15 : s 15 = _ := hs 15 (by decide) (by decide)
                simp only [e0, e1, e2, e3, e4, e5, e6, e7, e8, e9, e10, e11, e12, e13, e14, e15]
                rw [e13] at hb
                clear hs e0 e1 e2 e3 e4 e5 e6 e7 e8 e9 e10 e11 e12 e13 e14 e15
                have hk0 : Bel (w4.alloc (.cells #[.float .f64 x4, .float .f64 y4] 24)) W := bl_trans (put1_bel (bl_trans hB hb0) (by simp only [World.size_alloc]; omega)) hb
                have hT1 : ∀ q, q < 4 → W.cell? ⟨w4.heap.size + 1, q * 5 + 1, none⟩ = some (.float .f64 (sel4 ax bx x3 x4 q)) ∧ W.cell? ⟨w4.heap.size + 1, q * 5 + 2, none⟩ = some (.float .f64 (sel4 ay b_y y3 y4 q)) ∧ W.cell? ⟨w4.heap.size + 1, q * 5 + 3, none⟩ = some (.float .f64 (sel4 x1 x2 cx dx q)) ∧ W.cell? ⟨w4.heap.size + 1, q * 5 + 4, none⟩ = some (.float .f64 (sel4 y1 y2 cy dy q)) := fun q hq => by
                  obtain ⟨a1, a2, a3, a4⟩ := hT q hq
                  exact ⟨keep hb ((put1_far (.inr (by simp only; omega))).trans (keep hb0 a1)), keep hb ((put1_far (.inr (by simp only; omega))).trans (keep hb0 a2)), keep hb ((put1_far (.inr (by simp only; omega))).trans (keep hb0 a3)), keep hb ((put1_far (.inr (by simp only; omega))).trans (keep hb0 a4))⟩
                have hF1 : ∀ q, q < 4 → W.cell? ⟨w4.heap.size + 1, q * 5, none⟩ = some (.float .f64 (if q = k then r else fa q)) := fun q hq => by
                  by_cases e : q = k
                  · subst e
                    rw [if_pos rfl]
                    exact keep hb (World.cell?_setCell_same _ _ _ (keep hb0 (hF q hq)))
                  · rw [if_neg e]
                    exact keep hb ((put1_far (.inr (by simp only; omega))).trans (keep hb0 (hF q hq)))
                clear hb hb0 hB hT hF
                generalize hg : (fun q => if q = k then r else fa q) = fb at hF1
                have hkr : fb k = r := by rw [← hg]; simp
                have hbo : ∀ q, q ≠ k → fb q = fa q := fun q h => by rw [← hg]; simp [h]
                replace hF1 : ∀ q, q < 4 → W.cell? ⟨w4.heap.size + 1, q * 5, none⟩ = some (.float .f64 (fb q)) := fun q hq => by rw [hF1 q hq, ← hg]
                clear hg
                subst hkr
                have cK := hF1 k hlt
                have cB := hF1 β hβ
                have lW := World.block_lt_of_cell? _ _ cK
                simp only at lW
                go_wp2
                refine wp_region_mono 11 rfl (fun i W v => match i with | 0 => v = .slice (some ⟨w4.heap.size + 1, 0, none⟩) 4 4 | 1 => v = .int .i64 (k : Int) | 2 => v = .pointer (some ⟨w4.heap.size + 1, k * 5, none⟩) | 3 => v = .pointer (some ⟨w4.heap.size + 1, k * 5, none⟩) | 4 => v = .float .f64 (fb k) | 5 => v = .slice (some ⟨w4.heap.size + 1, 0, none⟩) 4 4 | 6 => v = .int .i64 (β : Int) | 7 => v = .pointer (some ⟨w4.heap.size + 1, β * 5, none⟩) | 8 => v = .pointer (some ⟨w4.heap.size + 1, β * 5, none⟩) | 9 => v = .float .f64 (fb β) | 10 => v = .bool (ltK .f64 (fb k) (fb β)) | _ => False) ?A_wz2 (by kernel_rfl) (by kernel_rfl) ?hA_wz2 ?hmo_wz2 ?hq_wz2 ?ht_wz2
                case hA_wz2 =>
                  intro s
                  simp only [putL, dstO, Act.put, List.getElem?_toArray, List.getElem?_cons_zero, List.getElem?_cons_succ, Option.bind_some, List.setIfInBounds_toArray, List.set_cons_zero, List.set_cons_succ, if_true]
                  all_goals exact rfl
                case hmo_wz2 =>
                  intro i W W' v hi hb h
                  rcases (show i = 0 ∨ i = 1 ∨ i = 2 ∨ i = 3 ∨ i = 4 ∨ i = 5 ∨ i = 6 ∨ i = 7 ∨ i = 8 ∨ i = 9 ∨ i = 10 by omega) with rfl | rfl | rfl | rfl | rfl | rfl | rfl | rfl | rfl | rfl | rfl
                  all_goals first | exact h
                case hq_wz2 =>
                  intro i o hi ho s W hs hb K hK
                  have c2 := cmp_lt .f64; have uK := keep hb cK; have uB := keep hb cB; have lZ := World.block_lt_of_cell? _ _ uK; simp only at lZ
                  rcases (show i = 0 ∨ i = 1 ∨ i = 2 ∨ i = 3 ∨ i = 4 ∨ i = 5 ∨ i = 6 ∨ i = 7 ∨ i = 8 ∨ i = 9 ∨ i = 10 by omega) with rfl | rfl | rfl | rfl | rfl | rfl | rfl | rfl | rfl | rfl | rfl
                  · cases ho
                    simp only [Act.put, List.setIfInBounds_toArray, List.set_cons_zero, List.set_cons_succ] at hK
                    clear hs
                    go_simp
                    all_goals first | exact hK.out _ _ rfl (bl_refl _) | exact hK.out _ _ rfl (by assumption) | exact hK.out _ _ (by assumption) (by assumption)
                  · cases ho
                    simp only [Act.put, List.setIfInBounds_toArray, List.set_cons_zero, List.set_cons_succ] at hK
                    clear hs
                    go_simp
                    all_goals first | exact hK.out _ _ rfl (bl_refl _) | exact hK.out _ _ rfl (by assumption) | exact hK.out _ _ (by assumption) (by assumption)
                  · cases ho
                    have e0 : s 0 = _ := hs 0 (by decide) (by kernel_rfl)
                    have e1 : s 1 = _ := hs 1 (by decide) (by kernel_rfl)
                    simp only [e0, e1] at hK ⊢
                    simp only [Act.put, List.setIfInBounds_toArray, List.set_cons_zero, List.set_cons_succ] at hK
                    clear hs
                    go_simp
                    all_goals first | exact hK.out _ _ rfl (bl_refl _) | exact hK.out _ _ rfl (by assumption) | exact hK.out _ _ (by assumption) (by assumption)
                  · cases ho
                    have e2 : s 2 = _ := hs 2 (by decide) (by kernel_rfl)
                    simp only [e2] at hK ⊢
                    simp only [Act.put, List.setIfInBounds_toArray, List.set_cons_zero, List.set_cons_succ] at hK
                    clear hs
                    go_simp
                    all_goals first | exact hK.out _ _ rfl (bl_refl _) | exact hK.out _ _ rfl (by assumption) | exact hK.out _ _ (by assumption) (by assumption)
                  · cases ho
                    have e3 : s 3 = _ := hs 3 (by decide) (by kernel_rfl)
                    simp only [e3] at hK ⊢
                    simp only [Act.put, List.setIfInBounds_toArray, List.set_cons_zero, List.set_cons_succ] at hK
                    clear hs
                    go_simp
                    all_goals first | exact hK.out _ _ rfl (bl_refl _) | exact hK.out _ _ rfl (by assumption) | exact hK.out _ _ (by assumption) (by assumption)
                  · cases ho
                    simp only [Act.put, List.setIfInBounds_toArray, List.set_cons_zero, List.set_cons_succ] at hK
                    clear hs
                    go_simp
                    all_goals first | exact hK.out _ _ rfl (bl_refl _) | exact hK.out _ _ rfl (by assumption) | exact hK.out _ _ (by assumption) (by assumption)
                  · cases ho
                    simp only [Act.put, List.setIfInBounds_toArray, List.set_cons_zero, List.set_cons_succ] at hK
                    clear hs
                    go_simp
                    all_goals first | exact hK.out _ _ rfl (bl_refl _) | exact hK.out _ _ rfl (by assumption) | exact hK.out _ _ (by assumption) (by assumption)
                  · cases ho
                    have e5 : s 5 = _ := hs 5 (by decide) (by kernel_rfl)
                    have e6 : s 6 = _ := hs 6 (by decide) (by kernel_rfl)
                    simp only [e5, e6] at hK ⊢
                    simp only [Act.put, List.setIfInBounds_toArray, List.set_cons_zero, List.set_cons_succ] at hK
                    clear hs
                    go_simp
                    all_goals first | exact hK.out _ _ rfl (bl_refl _) | exact hK.out _ _ rfl (by assumption) | exact hK.out _ _ (by assumption) (by assumption)
                  · cases ho
                    have e7 : s 7 = _ := hs 7 (by decide) (by kernel_rfl)
                    simp only [e7] at hK ⊢
                    simp only [Act.put, List.setIfInBounds_toArray, List.set_cons_zero, List.set_cons_succ] at hK
                    clear hs
                    go_simp
                    all_goals first | exact hK.out _ _ rfl (bl_refl _) | exact hK.out _ _ rfl (by assumption) | exact hK.out _ _ (by assumption) (by assumption)
                  · cases ho
                    have e8 : s 8 = _ := hs 8 (by decide) (by kernel_rfl)
                    simp only [e8] at hK ⊢
                    simp only [Act.put, List.setIfInBounds_toArray, List.set_cons_zero, List.set_cons_succ] at hK
                    clear hs
                    go_simp
                    all_goals first | exact hK.out _ _ rfl (bl_refl _) | exact hK.out _ _ rfl (by assumption) | exact hK.out _ _ (by assumption) (by assumption)
                  · cases ho
                    have e4 : s 4 = _ := hs 4 (by decide) (by kernel_rfl)
                    have e9 : s 9 = _ := hs 9 (by decide) (by kernel_rfl)
                    simp only [e4, e9] at hK ⊢
                    simp only [Act.put, List.setIfInBounds_toArray, List.set_cons_zero, List.set_cons_succ] at hK
                    clear hs
                    go_simp
                    all_goals first | exact hK.out _ _ rfl (bl_refl _) | exact hK.out _ _ rfl (by assumption) | exact hK.out _ _ (by assumption) (by assumption)
                case ht_wz2 =>
                  intro s Wz hs hb
                  have e0 : s 0 = _ := hs 0 (by decide)
                  have e1 : s 1 = _ := hs 1 (by decide)
                  have e2 : s 2 = _ := hs 2 (by decide)
                  have e3 : s 3 = _ := hs 3 (by decide)
                  have e4 : s 4 = _ := hs 4 (by decide)
                  have e5 : s 5 = _ := hs 5 (by decide)
                  have e6 : s 6 = _ := hs 6 (by decide)
                  have e7 : s 7 = _ := hs 7 (by decide)
                  have e8 : s 8 = _ := hs 8 (by decide)
                  have e9 : s 9 = _ := hs 9 (by decide)
                  have e10 : s 10 = _ := hs 10 (by decide)
                  simp only [e0, e1, e2, e3, e4, e5, e6, e7, e8, e9, e10]
                  clear hs e0 e1 e2 e3 e4 e5 e6 e7 e8 e9 e10
                  have hB := bl_trans hk0 hb
                  have hT2 : ∀ q, q < 4 → Wz.cell? ⟨w4.heap.size + 1, q * 5 + 1, none⟩ = some (.float .f64 (sel4 ax bx x3 x4 q)) ∧ Wz.cell? ⟨w4.heap.size + 1, q * 5 + 2, none⟩ = some (.float .f64 (sel4 ay b_y y3 y4 q)) ∧ Wz.cell? ⟨w4.heap.size + 1, q * 5 + 3, none⟩ = some (.float .f64 (sel4 x1 x2 cx dx q)) ∧ Wz.cell? ⟨w4.heap.size + 1, q * 5 + 4, none⟩ = some (.float .f64 (sel4 y1 y2 cy dy q)) := fun q hq => by
                    obtain ⟨a1, a2, a3, a4⟩ := hT1 q hq
                    exact ⟨keep hb a1, keep hb a2, keep hb a3, keep hb a4⟩
                  have hF2 : ∀ q, q < 4 → Wz.cell? ⟨w4.heap.size + 1, q * 5, none⟩ = some (.float .f64 (fb q)) := fun q hq => keep hb (hF1 q hq)
                  clear hb hk0 hT1 hF1 cK cB
                  have hNk : isN (fb k) (sel4 ax bx x3 x4 k) (sel4 ay b_y y3 y4 k) (sel4 x1 x2 cx dx k) (sel4 y1 y2 cy dy k) (apN (sel4 A B (ptF A B C).1 (ptF A B D).1 k) (sel4 (ptF C D A).1 (ptF C D B).1 C D k)) := ⟨h13, hp1, hp2⟩
                  by_cases hk0 : k = 0
                  · subst hk0
                    have hb0 := hz0 rfl
                    subst hb0
                    have hlf : ltK .f64 (fb 0) (fb 0) = false := by unfold ltK; simp
                    rw [hlf]
                    go_wp2
                    refine ⟨⟨0, 1, fb, by omega, by omega, by go_num, by go_num, hB, hT2, hF2, by omega, fun m hm => ?_⟩, by simp [intOf]⟩
                    obtain rfl : m = 0 := by omega
                    exact ⟨by omega, hNk⟩
                  · obtain ⟨m, rfl⟩ : ∃ m, k = m + 1 := ⟨k - 1, by omega⟩
                    have hbk : β ≠ m + 1 := by have := hlb m rfl; omega
                    have hNb := hz1 m rfl
                    rw [← hbo β hbk] at hNb
                    obtain ⟨g1, g2⟩ := isN_nr hNb hNk
                    rw [← bF_step m (by omega)] at g1 g2
                    cases hl : ltK .f64 (fb (m + 1)) (fb β)
                    · go_wp2
                      refine ⟨⟨β, m + 1 + 1, fb, by omega, by omega, by go_num, by go_num, hB, hT2, hF2, by omega, fun m' hm => ?_⟩, by simp [intOf]; omega⟩
                      obtain rfl : m' = m + 1 := by omega
                      exact ⟨by have := hlb m rfl; omega, g2 hl⟩
                    · go_wp2
                      refine ⟨⟨m + 1, m + 1 + 1, fb, by omega, by omega, by go_num, by go_num, hB, hT2, hF2, by omega, fun m' hm => ?_⟩, by simp [intOf]; omega⟩
                      obtain rfl : m' = m + 1 := by omega
                      exact ⟨by omega, g1 hl⟩
            · obtain rfl : k = 4 := by omega
              have hN := hz1 3 rfl
              obtain ⟨a1, a2, a3, a4⟩ := hT β hβ
              have a0 := hF β hβ
              have lk := World.block_lt_of_cell? _ _ a1
              simp only at lk
              have kb : (β : Int) < 4 := by omega
              replace z4_0 := keep hB z4_0; replace z4_1 := keep hB z4_1; replace z4_2 := keep hB z4_2; replace z4_3 := keep hB z4_3; replace z4_4 := keep hB z4_4
              have fE : ∀ o, wr.frozen? ⟨w.heap.size + 1 + 1 + 1 + 1, o, none⟩ = false := fun o => (hB.2 _).trans ((BF.2 _).trans (fR o))
              replace BF := bl_trans BF hB
              go_wp2
              obtain ⟨X, hX, r0, r1, r2, r3, r4, -, bX⟩ := put5_all (p := .float .f64 (fa β)) (q := .float .f64 (sel4 ax bx x3 x4 β)) (r := .float .f64 (sel4 ay b_y y3 y4 β)) (s := .float .f64 (sel4 x1 x2 cx dx β)) (t := .float .f64 (sel4 y1 y2 cy dy β)) z4_0 z4_1 z4_2 z4_3 z4_4
              rw [← hX]
              refine bodyPost_ret (v := .agg #[.float .f64 (fa β), .float .f64 (sel4 ax bx x3 x4 β), .float .f64 (sel4 ay b_y y3 y4 β), .float .f64 (sel4 x1 x2 cx dx β), .float .f64 (sel4 y1 y2 cy dy β)]) (by simp [r0, r1, r2, r3, r4, results, Try.results14, go_sem] <;> (first | exact ⟨rfl, rfl, rfl, rfl, rfl⟩ | rfl)) rfl ⟨_, _, _, _, _, by rw [e0]; exact hN, rfl, bX _ (bl_trans B0 BF) (by omega)⟩

end Go.Proofs.Ytpnkmflkjokhlaa
