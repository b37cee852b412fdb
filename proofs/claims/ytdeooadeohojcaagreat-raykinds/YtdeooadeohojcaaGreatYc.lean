/-
  What each function of package poly answers, and what the reference of its chapter answers: one contract a function, for every float: the answer stands in the relation of its formula to what was given; of the memory that was there nothing has turned.
-/
import Derived.Test.YtdeooadeohojcaaGreatVec
import Derived.Test.YtdeooadeohojcaaGreatYb
import Derived.Below
import Derived.WalkKit
import Derived.WalkLawsBesides
import Derived.WalkSpells
import Derived.ProofKit
import Derived.OpenShut
import Derived.Deep.RegionHeld3
namespace Go.Proofs.YtdeooadeohojcaaGreat
open Go.ChangeShapes Go.WideShapes Go.ChangeAt Go.RowKit
set_option linter.unusedVariables false
set_option linter.unusedSimpArgs false


theorem bxYc0 (w : World) (ax ay bx b_y fx fy wx wy : Nat) (W : World) (hW : W = (((((w.alloc (.cells #[.float .f64 ax, .float .f64 ay] 24)).alloc (.cells #[.float .f64 bx, .float .f64 b_y] 24)).alloc (.cells #[.float .f64 fx, .float .f64 fy] 24)).alloc (.cells #[.float .f64 wx, .float .f64 wy] 24)).alloc (.cells #[.float .f64 0, .float .f64 0, .float .f64 0, .float .f64 0, .float .f64 0] 28))) : W.cell? ⟨w.heap.size, 0, none⟩ = some (.float .f64 ax) ∧ W.cell? ⟨w.heap.size, 1, none⟩ = some (.float .f64 ay) ∧ W.cell? ⟨w.heap.size + 1, 0, none⟩ = some (.float .f64 bx) ∧ W.cell? ⟨w.heap.size + 1, 1, none⟩ = some (.float .f64 b_y) ∧ W.cell? ⟨w.heap.size + 1 + 1, 0, none⟩ = some (.float .f64 fx) ∧ W.cell? ⟨w.heap.size + 1 + 1, 1, none⟩ = some (.float .f64 fy) ∧ W.cell? ⟨w.heap.size + 1 + 1 + 1, 0, none⟩ = some (.float .f64 wx) ∧ W.cell? ⟨w.heap.size + 1 + 1 + 1, 1, none⟩ = some (.float .f64 wy) ∧ W.cell? ⟨w.heap.size + 1 + 1 + 1 + 1, 0, none⟩ = some (.float .f64 0) ∧ W.cell? ⟨w.heap.size + 1 + 1 + 1 + 1, 1, none⟩ = some (.float .f64 0) ∧ W.cell? ⟨w.heap.size + 1 + 1 + 1 + 1, 2, none⟩ = some (.float .f64 0) ∧ W.cell? ⟨w.heap.size + 1 + 1 + 1 + 1, 3, none⟩ = some (.float .f64 0) ∧ W.cell? ⟨w.heap.size + 1 + 1 + 1 + 1, 4, none⟩ = some (.float .f64 0) ∧ Bel w W := by
  have z0_0 : (w.alloc (.cells #[.float .f64 ax, .float .f64 ay] 24)).cell? ⟨w.heap.size, 0, none⟩ = some (.float .f64 ax) := by rw [World.cell?_alloc_new]; rfl
  replace z0_0 := up_alloc (o := .cells #[.float .f64 bx, .float .f64 b_y] 24) z0_0
  replace z0_0 := up_alloc (o := .cells #[.float .f64 fx, .float .f64 fy] 24) z0_0
  replace z0_0 := up_alloc (o := .cells #[.float .f64 wx, .float .f64 wy] 24) z0_0
  replace z0_0 := up_alloc (o := .cells #[.float .f64 0, .float .f64 0, .float .f64 0, .float .f64 0, .float .f64 0] 28) z0_0
  have z0_1 : (w.alloc (.cells #[.float .f64 ax, .float .f64 ay] 24)).cell? ⟨w.heap.size, 1, none⟩ = some (.float .f64 ay) := by rw [World.cell?_alloc_new]; rfl
  replace z0_1 := up_alloc (o := .cells #[.float .f64 bx, .float .f64 b_y] 24) z0_1
  replace z0_1 := up_alloc (o := .cells #[.float .f64 fx, .float .f64 fy] 24) z0_1
  replace z0_1 := up_alloc (o := .cells #[.float .f64 wx, .float .f64 wy] 24) z0_1
  replace z0_1 := up_alloc (o := .cells #[.float .f64 0, .float .f64 0, .float .f64 0, .float .f64 0, .float .f64 0] 28) z0_1
  have z1_0 : ((w.alloc (.cells #[.float .f64 ax, .float .f64 ay] 24)).alloc (.cells #[.float .f64 bx, .float .f64 b_y] 24)).cell? ⟨w.heap.size + 1, 0, none⟩ = some (.float .f64 bx) := by rw [← (show (w.alloc (.cells #[.float .f64 ax, .float .f64 ay] 24)).heap.size = w.heap.size + 1 by simp only [World.size_alloc]), World.cell?_alloc_new]; rfl
  replace z1_0 := up_alloc (o := .cells #[.float .f64 fx, .float .f64 fy] 24) z1_0
  replace z1_0 := up_alloc (o := .cells #[.float .f64 wx, .float .f64 wy] 24) z1_0
  replace z1_0 := up_alloc (o := .cells #[.float .f64 0, .float .f64 0, .float .f64 0, .float .f64 0, .float .f64 0] 28) z1_0
  have z1_1 : ((w.alloc (.cells #[.float .f64 ax, .float .f64 ay] 24)).alloc (.cells #[.float .f64 bx, .float .f64 b_y] 24)).cell? ⟨w.heap.size + 1, 1, none⟩ = some (.float .f64 b_y) := by rw [← (show (w.alloc (.cells #[.float .f64 ax, .float .f64 ay] 24)).heap.size = w.heap.size + 1 by simp only [World.size_alloc]), World.cell?_alloc_new]; rfl
  replace z1_1 := up_alloc (o := .cells #[.float .f64 fx, .float .f64 fy] 24) z1_1
  replace z1_1 := up_alloc (o := .cells #[.float .f64 wx, .float .f64 wy] 24) z1_1
  replace z1_1 := up_alloc (o := .cells #[.float .f64 0, .float .f64 0, .float .f64 0, .float .f64 0, .float .f64 0] 28) z1_1
  have z2_0 : (((w.alloc (.cells #[.float .f64 ax, .float .f64 ay] 24)).alloc (.cells #[.float .f64 bx, .float .f64 b_y] 24)).alloc (.cells #[.float .f64 fx, .float .f64 fy] 24)).cell? ⟨w.heap.size + 1 + 1, 0, none⟩ = some (.float .f64 fx) := by rw [← (show ((w.alloc (.cells #[.float .f64 ax, .float .f64 ay] 24)).alloc (.cells #[.float .f64 bx, .float .f64 b_y] 24)).heap.size = w.heap.size + 1 + 1 by simp only [World.size_alloc]), World.cell?_alloc_new]; rfl
  replace z2_0 := up_alloc (o := .cells #[.float .f64 wx, .float .f64 wy] 24) z2_0
  replace z2_0 := up_alloc (o := .cells #[.float .f64 0, .float .f64 0, .float .f64 0, .float .f64 0, .float .f64 0] 28) z2_0
  have z2_1 : (((w.alloc (.cells #[.float .f64 ax, .float .f64 ay] 24)).alloc (.cells #[.float .f64 bx, .float .f64 b_y] 24)).alloc (.cells #[.float .f64 fx, .float .f64 fy] 24)).cell? ⟨w.heap.size + 1 + 1, 1, none⟩ = some (.float .f64 fy) := by rw [← (show ((w.alloc (.cells #[.float .f64 ax, .float .f64 ay] 24)).alloc (.cells #[.float .f64 bx, .float .f64 b_y] 24)).heap.size = w.heap.size + 1 + 1 by simp only [World.size_alloc]), World.cell?_alloc_new]; rfl
  replace z2_1 := up_alloc (o := .cells #[.float .f64 wx, .float .f64 wy] 24) z2_1
  replace z2_1 := up_alloc (o := .cells #[.float .f64 0, .float .f64 0, .float .f64 0, .float .f64 0, .float .f64 0] 28) z2_1
  have z3_0 : ((((w.alloc (.cells #[.float .f64 ax, .float .f64 ay] 24)).alloc (.cells #[.float .f64 bx, .float .f64 b_y] 24)).alloc (.cells #[.float .f64 fx, .float .f64 fy] 24)).alloc (.cells #[.float .f64 wx, .float .f64 wy] 24)).cell? ⟨w.heap.size + 1 + 1 + 1, 0, none⟩ = some (.float .f64 wx) := by rw [← (show (((w.alloc (.cells #[.float .f64 ax, .float .f64 ay] 24)).alloc (.cells #[.float .f64 bx, .float .f64 b_y] 24)).alloc (.cells #[.float .f64 fx, .float .f64 fy] 24)).heap.size = w.heap.size + 1 + 1 + 1 by simp only [World.size_alloc]), World.cell?_alloc_new]; rfl
  replace z3_0 := up_alloc (o := .cells #[.float .f64 0, .float .f64 0, .float .f64 0, .float .f64 0, .float .f64 0] 28) z3_0
  have z3_1 : ((((w.alloc (.cells #[.float .f64 ax, .float .f64 ay] 24)).alloc (.cells #[.float .f64 bx, .float .f64 b_y] 24)).alloc (.cells #[.float .f64 fx, .float .f64 fy] 24)).alloc (.cells #[.float .f64 wx, .float .f64 wy] 24)).cell? ⟨w.heap.size + 1 + 1 + 1, 1, none⟩ = some (.float .f64 wy) := by rw [← (show (((w.alloc (.cells #[.float .f64 ax, .float .f64 ay] 24)).alloc (.cells #[.float .f64 bx, .float .f64 b_y] 24)).alloc (.cells #[.float .f64 fx, .float .f64 fy] 24)).heap.size = w.heap.size + 1 + 1 + 1 by simp only [World.size_alloc]), World.cell?_alloc_new]; rfl
  replace z3_1 := up_alloc (o := .cells #[.float .f64 0, .float .f64 0, .float .f64 0, .float .f64 0, .float .f64 0] 28) z3_1
  have z4_0 : (((((w.alloc (.cells #[.float .f64 ax, .float .f64 ay] 24)).alloc (.cells #[.float .f64 bx, .float .f64 b_y] 24)).alloc (.cells #[.float .f64 fx, .float .f64 fy] 24)).alloc (.cells #[.float .f64 wx, .float .f64 wy] 24)).alloc (.cells #[.float .f64 0, .float .f64 0, .float .f64 0, .float .f64 0, .float .f64 0] 28)).cell? ⟨w.heap.size + 1 + 1 + 1 + 1, 0, none⟩ = some (.float .f64 0) := by rw [← (show ((((w.alloc (.cells #[.float .f64 ax, .float .f64 ay] 24)).alloc (.cells #[.float .f64 bx, .float .f64 b_y] 24)).alloc (.cells #[.float .f64 fx, .float .f64 fy] 24)).alloc (.cells #[.float .f64 wx, .float .f64 wy] 24)).heap.size = w.heap.size + 1 + 1 + 1 + 1 by simp only [World.size_alloc]), World.cell?_alloc_new]; rfl
  have z4_1 : (((((w.alloc (.cells #[.float .f64 ax, .float .f64 ay] 24)).alloc (.cells #[.float .f64 bx, .float .f64 b_y] 24)).alloc (.cells #[.float .f64 fx, .float .f64 fy] 24)).alloc (.cells #[.float .f64 wx, .float .f64 wy] 24)).alloc (.cells #[.float .f64 0, .float .f64 0, .float .f64 0, .float .f64 0, .float .f64 0] 28)).cell? ⟨w.heap.size + 1 + 1 + 1 + 1, 1, none⟩ = some (.float .f64 0) := by rw [← (show ((((w.alloc (.cells #[.float .f64 ax, .float .f64 ay] 24)).alloc (.cells #[.float .f64 bx, .float .f64 b_y] 24)).alloc (.cells #[.float .f64 fx, .float .f64 fy] 24)).alloc (.cells #[.float .f64 wx, .float .f64 wy] 24)).heap.size = w.heap.size + 1 + 1 + 1 + 1 by simp only [World.size_alloc]), World.cell?_alloc_new]; rfl
  have z4_2 : (((((w.alloc (.cells #[.float .f64 ax, .float .f64 ay] 24)).alloc (.cells #[.float .f64 bx, .float .f64 b_y] 24)).alloc (.cells #[.float .f64 fx, .float .f64 fy] 24)).alloc (.cells #[.float .f64 wx, .float .f64 wy] 24)).alloc (.cells #[.float .f64 0, .float .f64 0, .float .f64 0, .float .f64 0, .float .f64 0] 28)).cell? ⟨w.heap.size + 1 + 1 + 1 + 1, 2, none⟩ = some (.float .f64 0) := by rw [← (show ((((w.alloc (.cells #[.float .f64 ax, .float .f64 ay] 24)).alloc (.cells #[.float .f64 bx, .float .f64 b_y] 24)).alloc (.cells #[.float .f64 fx, .float .f64 fy] 24)).alloc (.cells #[.float .f64 wx, .float .f64 wy] 24)).heap.size = w.heap.size + 1 + 1 + 1 + 1 by simp only [World.size_alloc]), World.cell?_alloc_new]; rfl
  have z4_3 : (((((w.alloc (.cells #[.float .f64 ax, .float .f64 ay] 24)).alloc (.cells #[.float .f64 bx, .float .f64 b_y] 24)).alloc (.cells #[.float .f64 fx, .float .f64 fy] 24)).alloc (.cells #[.float .f64 wx, .float .f64 wy] 24)).alloc (.cells #[.float .f64 0, .float .f64 0, .float .f64 0, .float .f64 0, .float .f64 0] 28)).cell? ⟨w.heap.size + 1 + 1 + 1 + 1, 3, none⟩ = some (.float .f64 0) := by rw [← (show ((((w.alloc (.cells #[.float .f64 ax, .float .f64 ay] 24)).alloc (.cells #[.float .f64 bx, .float .f64 b_y] 24)).alloc (.cells #[.float .f64 fx, .float .f64 fy] 24)).alloc (.cells #[.float .f64 wx, .float .f64 wy] 24)).heap.size = w.heap.size + 1 + 1 + 1 + 1 by simp only [World.size_alloc]), World.cell?_alloc_new]; rfl
  have z4_4 : (((((w.alloc (.cells #[.float .f64 ax, .float .f64 ay] 24)).alloc (.cells #[.float .f64 bx, .float .f64 b_y] 24)).alloc (.cells #[.float .f64 fx, .float .f64 fy] 24)).alloc (.cells #[.float .f64 wx, .float .f64 wy] 24)).alloc (.cells #[.float .f64 0, .float .f64 0, .float .f64 0, .float .f64 0, .float .f64 0] 28)).cell? ⟨w.heap.size + 1 + 1 + 1 + 1, 4, none⟩ = some (.float .f64 0) := by rw [← (show ((((w.alloc (.cells #[.float .f64 ax, .float .f64 ay] 24)).alloc (.cells #[.float .f64 bx, .float .f64 b_y] 24)).alloc (.cells #[.float .f64 fx, .float .f64 fy] 24)).alloc (.cells #[.float .f64 wx, .float .f64 wy] 24)).heap.size = w.heap.size + 1 + 1 + 1 + 1 by simp only [World.size_alloc]), World.cell?_alloc_new]; rfl
  have B0 : Bel w (((((w.alloc (.cells #[.float .f64 ax, .float .f64 ay] 24)).alloc (.cells #[.float .f64 bx, .float .f64 b_y] 24)).alloc (.cells #[.float .f64 fx, .float .f64 fy] 24)).alloc (.cells #[.float .f64 wx, .float .f64 wy] 24)).alloc (.cells #[.float .f64 0, .float .f64 0, .float .f64 0, .float .f64 0, .float .f64 0] 28)) := bl_alloc (bl_alloc (bl_alloc (bl_alloc (bl_alloc (bl_refl w) _ _) _ _) _ _) _ _) _ _
  subst hW
  exact ⟨z0_0, z0_1, z1_0, z1_1, z2_0, z2_1, z3_0, z3_1, z4_0, z4_1, z4_2, z4_3, z4_4, B0⟩

theorem ckYc1 (w : World) (ax ay bx b_y fx fy wx wy : Nat) {W0 W1 : World} (hb : Bel W0 W1) (h : W0.cell? ⟨w.heap.size, 0, none⟩ = some (.float .f64 ax) ∧ W0.cell? ⟨w.heap.size, 1, none⟩ = some (.float .f64 ay) ∧ W0.cell? ⟨w.heap.size + 1, 0, none⟩ = some (.float .f64 bx) ∧ W0.cell? ⟨w.heap.size + 1, 1, none⟩ = some (.float .f64 b_y) ∧ W0.cell? ⟨w.heap.size + 1 + 1, 0, none⟩ = some (.float .f64 fx) ∧ W0.cell? ⟨w.heap.size + 1 + 1, 1, none⟩ = some (.float .f64 fy) ∧ W0.cell? ⟨w.heap.size + 1 + 1 + 1, 0, none⟩ = some (.float .f64 wx) ∧ W0.cell? ⟨w.heap.size + 1 + 1 + 1, 1, none⟩ = some (.float .f64 wy) ∧ W0.cell? ⟨w.heap.size + 1 + 1 + 1 + 1, 0, none⟩ = some (.float .f64 0) ∧ W0.cell? ⟨w.heap.size + 1 + 1 + 1 + 1, 1, none⟩ = some (.float .f64 0) ∧ W0.cell? ⟨w.heap.size + 1 + 1 + 1 + 1, 2, none⟩ = some (.float .f64 0) ∧ W0.cell? ⟨w.heap.size + 1 + 1 + 1 + 1, 3, none⟩ = some (.float .f64 0) ∧ W0.cell? ⟨w.heap.size + 1 + 1 + 1 + 1, 4, none⟩ = some (.float .f64 0)) : W1.cell? ⟨w.heap.size, 0, none⟩ = some (.float .f64 ax) ∧ W1.cell? ⟨w.heap.size, 1, none⟩ = some (.float .f64 ay) ∧ W1.cell? ⟨w.heap.size + 1, 0, none⟩ = some (.float .f64 bx) ∧ W1.cell? ⟨w.heap.size + 1, 1, none⟩ = some (.float .f64 b_y) ∧ W1.cell? ⟨w.heap.size + 1 + 1, 0, none⟩ = some (.float .f64 fx) ∧ W1.cell? ⟨w.heap.size + 1 + 1, 1, none⟩ = some (.float .f64 fy) ∧ W1.cell? ⟨w.heap.size + 1 + 1 + 1, 0, none⟩ = some (.float .f64 wx) ∧ W1.cell? ⟨w.heap.size + 1 + 1 + 1, 1, none⟩ = some (.float .f64 wy) ∧ W1.cell? ⟨w.heap.size + 1 + 1 + 1 + 1, 0, none⟩ = some (.float .f64 0) ∧ W1.cell? ⟨w.heap.size + 1 + 1 + 1 + 1, 1, none⟩ = some (.float .f64 0) ∧ W1.cell? ⟨w.heap.size + 1 + 1 + 1 + 1, 2, none⟩ = some (.float .f64 0) ∧ W1.cell? ⟨w.heap.size + 1 + 1 + 1 + 1, 3, none⟩ = some (.float .f64 0) ∧ W1.cell? ⟨w.heap.size + 1 + 1 + 1 + 1, 4, none⟩ = some (.float .f64 0) := ⟨keep hb h.1, keep hb h.2.1, keep hb h.2.2.1, keep hb h.2.2.2.1, keep hb h.2.2.2.2.1, keep hb h.2.2.2.2.2.1, keep hb h.2.2.2.2.2.2.1, keep hb h.2.2.2.2.2.2.2.1, keep hb h.2.2.2.2.2.2.2.2.1, keep hb h.2.2.2.2.2.2.2.2.2.1, keep hb h.2.2.2.2.2.2.2.2.2.2.1, keep hb h.2.2.2.2.2.2.2.2.2.2.2.1, keep hb h.2.2.2.2.2.2.2.2.2.2.2.2⟩

theorem ckYc2 (w w1 : World) (ax ay bx b_y fx fy wx wy sx sy : Nat) {W0 W1 : World} (hb : Bel W0 W1) (h : W0.cell? ⟨w.heap.size, 0, none⟩ = some (.float .f64 ax) ∧ W0.cell? ⟨w.heap.size, 1, none⟩ = some (.float .f64 ay) ∧ W0.cell? ⟨w.heap.size + 1, 0, none⟩ = some (.float .f64 bx) ∧ W0.cell? ⟨w.heap.size + 1, 1, none⟩ = some (.float .f64 b_y) ∧ W0.cell? ⟨w.heap.size + 1 + 1, 0, none⟩ = some (.float .f64 fx) ∧ W0.cell? ⟨w.heap.size + 1 + 1, 1, none⟩ = some (.float .f64 fy) ∧ W0.cell? ⟨w.heap.size + 1 + 1 + 1, 0, none⟩ = some (.float .f64 wx) ∧ W0.cell? ⟨w.heap.size + 1 + 1 + 1, 1, none⟩ = some (.float .f64 wy) ∧ W0.cell? ⟨w.heap.size + 1 + 1 + 1 + 1, 0, none⟩ = some (.float .f64 0) ∧ W0.cell? ⟨w.heap.size + 1 + 1 + 1 + 1, 1, none⟩ = some (.float .f64 0) ∧ W0.cell? ⟨w.heap.size + 1 + 1 + 1 + 1, 2, none⟩ = some (.float .f64 0) ∧ W0.cell? ⟨w.heap.size + 1 + 1 + 1 + 1, 3, none⟩ = some (.float .f64 0) ∧ W0.cell? ⟨w.heap.size + 1 + 1 + 1 + 1, 4, none⟩ = some (.float .f64 0) ∧ W0.cell? ⟨w1.heap.size, 0, none⟩ = some (.float .f64 sx) ∧ W0.cell? ⟨w1.heap.size, 1, none⟩ = some (.float .f64 sy)) : W1.cell? ⟨w.heap.size, 0, none⟩ = some (.float .f64 ax) ∧ W1.cell? ⟨w.heap.size, 1, none⟩ = some (.float .f64 ay) ∧ W1.cell? ⟨w.heap.size + 1, 0, none⟩ = some (.float .f64 bx) ∧ W1.cell? ⟨w.heap.size + 1, 1, none⟩ = some (.float .f64 b_y) ∧ W1.cell? ⟨w.heap.size + 1 + 1, 0, none⟩ = some (.float .f64 fx) ∧ W1.cell? ⟨w.heap.size + 1 + 1, 1, none⟩ = some (.float .f64 fy) ∧ W1.cell? ⟨w.heap.size + 1 + 1 + 1, 0, none⟩ = some (.float .f64 wx) ∧ W1.cell? ⟨w.heap.size + 1 + 1 + 1, 1, none⟩ = some (.float .f64 wy) ∧ W1.cell? ⟨w.heap.size + 1 + 1 + 1 + 1, 0, none⟩ = some (.float .f64 0) ∧ W1.cell? ⟨w.heap.size + 1 + 1 + 1 + 1, 1, none⟩ = some (.float .f64 0) ∧ W1.cell? ⟨w.heap.size + 1 + 1 + 1 + 1, 2, none⟩ = some (.float .f64 0) ∧ W1.cell? ⟨w.heap.size + 1 + 1 + 1 + 1, 3, none⟩ = some (.float .f64 0) ∧ W1.cell? ⟨w.heap.size + 1 + 1 + 1 + 1, 4, none⟩ = some (.float .f64 0) ∧ W1.cell? ⟨w1.heap.size, 0, none⟩ = some (.float .f64 sx) ∧ W1.cell? ⟨w1.heap.size, 1, none⟩ = some (.float .f64 sy) := ⟨keep hb h.1, keep hb h.2.1, keep hb h.2.2.1, keep hb h.2.2.2.1, keep hb h.2.2.2.2.1, keep hb h.2.2.2.2.2.1, keep hb h.2.2.2.2.2.2.1, keep hb h.2.2.2.2.2.2.2.1, keep hb h.2.2.2.2.2.2.2.2.1, keep hb h.2.2.2.2.2.2.2.2.2.1, keep hb h.2.2.2.2.2.2.2.2.2.2.1, keep hb h.2.2.2.2.2.2.2.2.2.2.2.1, keep hb h.2.2.2.2.2.2.2.2.2.2.2.2.1, keep hb h.2.2.2.2.2.2.2.2.2.2.2.2.2.1, keep hb h.2.2.2.2.2.2.2.2.2.2.2.2.2.2⟩

theorem ltYc3 {w W : World} {o0 o1 o2 o3 o4 : Obj} (h : Bel (((((w.alloc o0).alloc o1).alloc o2).alloc o3).alloc o4) W) : w.heap.size < W.heap.size ∧ w.heap.size + 1 < W.heap.size ∧ w.heap.size + 1 + 1 < W.heap.size ∧ w.heap.size + 1 + 1 + 1 < W.heap.size ∧ w.heap.size + 1 + 1 + 1 + 1 < W.heap.size := by
  have hz := h.size
  simp only [World.size_alloc] at hz
  refine ⟨?_, ?_, ?_, ?_, ?_⟩ <;> omega

theorem gwYc4 (w : World) (ax ay bx b_y fx fy wx wy : Nat) {W0 W1 : World} (hb : Bel W0 W1) (h : Bel (((((w.alloc (.cells #[.float .f64 ax, .float .f64 ay] 24)).alloc (.cells #[.float .f64 bx, .float .f64 b_y] 24)).alloc (.cells #[.float .f64 fx, .float .f64 fy] 24)).alloc (.cells #[.float .f64 wx, .float .f64 wy] 24)).alloc (.cells #[.float .f64 0, .float .f64 0, .float .f64 0, .float .f64 0, .float .f64 0] 28)) W0) : Bel (((((w.alloc (.cells #[.float .f64 ax, .float .f64 ay] 24)).alloc (.cells #[.float .f64 bx, .float .f64 b_y] 24)).alloc (.cells #[.float .f64 fx, .float .f64 fy] 24)).alloc (.cells #[.float .f64 wx, .float .f64 wy] 24)).alloc (.cells #[.float .f64 0, .float .f64 0, .float .f64 0, .float .f64 0, .float .f64 0] 28)) W1 := bl_trans h hb

theorem fzYc5 (w : World) (ax ay bx b_y fx fy wx wy : Nat) : ∀ o, (((((w.alloc (.cells #[.float .f64 ax, .float .f64 ay] 24)).alloc (.cells #[.float .f64 bx, .float .f64 b_y] 24)).alloc (.cells #[.float .f64 fx, .float .f64 fy] 24)).alloc (.cells #[.float .f64 wx, .float .f64 wy] 24)).alloc (.cells #[.float .f64 0, .float .f64 0, .float .f64 0, .float .f64 0, .float .f64 0] 28)).frozen? ⟨w.heap.size + 1 + 1 + 1 + 1, o, none⟩ = false := fun o => ((show Bel ((((w.alloc (.cells #[.float .f64 ax, .float .f64 ay] 24)).alloc (.cells #[.float .f64 bx, .float .f64 b_y] 24)).alloc (.cells #[.float .f64 fx, .float .f64 fy] 24)).alloc (.cells #[.float .f64 wx, .float .f64 wy] 24)) (((((w.alloc (.cells #[.float .f64 ax, .float .f64 ay] 24)).alloc (.cells #[.float .f64 bx, .float .f64 b_y] 24)).alloc (.cells #[.float .f64 fx, .float .f64 fy] 24)).alloc (.cells #[.float .f64 wx, .float .f64 wy] 24)).alloc (.cells #[.float .f64 0, .float .f64 0, .float .f64 0, .float .f64 0, .float .f64 0] 28)) by repeat (first | exact bl_refl _ | apply bl_alloc)).2 _).trans (fresh_frozen (by simp only [World.size_alloc]; exact Nat.le_refl _))

set_option maxRecDepth 100000 in
theorem segment_res (tmps : Array Value) (Z : World) (r hx hy nx ny ht : Nat) (bb : Bool) (er : Int) (h4 : tmps[8]?.getD undef = .pointer (some ⟨r, 0, none⟩)) (h5 : tmps[9]?.getD undef = .bool bb) (h6 : tmps[10]?.getD undef = .int .i64 er) (c0 : Z.cell? ⟨r, 0, none⟩ = some (.float .f64 hx)) (c1 : Z.cell? ⟨r, 1, none⟩ = some (.float .f64 hy)) (c2 : Z.cell? ⟨r, 2, none⟩ = some (.float .f64 nx)) (c3 : Z.cell? ⟨r, 3, none⟩ = some (.float .f64 ny)) (c4 : Z.cell? ⟨r, 4, none⟩ = some (.float .f64 ht)) :
    (results Tryz.f9 tmps).run Tryz.prog Z = .ok (.tuple #[.agg #[.float .f64 hx, .float .f64 hy, .float .f64 nx, .float .f64 ny, .float .f64 ht], .bool bb, .int .i64 er]) Z := by
  simp [results, Tryz.results9, h4, h5, h6, c0, c1, c2, c3, c4, go_sem]
  first | done | rfl | exact ⟨rfl, rfl⟩

set_option maxRecDepth 100000 in
theorem segment_b1 {ax ay bx b_y fx fy wx wy : Nat} {A B F Y : Vp} (w : World) (ha : isP ax ay A) (hB : isP bx b_y B) (hf : isP fx fy F) (hw : isP wx wy Y) (q1 : inB A.1 A.2 = false) : Calls Tryz.prog 9 #[.agg #[.float .f64 ax, .float .f64 ay], .agg #[.float .f64 bx, .float .f64 b_y], .agg #[.float .f64 fx, .float .f64 fy], .agg #[.float .f64 wx, .float .f64 wy]] w fun e w' => ∃ hx9 hy9 nx9 ny9 ht9 : Nat, isH hx9 hy9 nx9 ny9 ht9 (((false, zeH)).2) ∧ e = .returned (.tuple #[.agg #[.float .f64 hx9, .float .f64 hy9, .float .f64 nx9, .float .f64 ny9, .float .f64 ht9], .bool ((false, zeH)).1, .int .i64 (5)]) ∧ Bel w w' := by
  have c1 := cmp_lt .f64
  have c5 := cmp_eq .f64
  obtain ⟨z0_0, z0_1, z1_0, z1_1, z2_0, z2_1, z3_0, z3_1, z4_0, z4_1, z4_2, z4_3, z4_4, B0⟩ := bxYc0 w ax ay bx b_y fx fy wx wy _ rfl
  have fR := fzYc5 w ax ay bx b_y fx fy wx wy
  go_enter Tryz.func9, Tryz.ntmps9
  go_wp2_with (first | (go_at_call 19; with_reducible refine (vSub_n _ hB ha).mono ?_; rintro e w1 ⟨sx, sy, hs, rfl, hb⟩; have hq := ckYc1 w ax ay bx b_y fx fy wx wy hb (by refine ⟨?_, ?_, ?_, ?_, ?_, ?_, ?_, ?_, ?_, ?_, ?_, ?_, ?_⟩ <;> first | assumption | go_keep); clear z0_0 z0_1 z1_0 z1_1 z2_0 z2_1 z3_0 z3_1 z4_0 z4_1 z4_2 z4_3 z4_4; obtain ⟨z0_0, z0_1, z1_0, z1_1, z2_0, z2_1, z3_0, z3_1, z4_0, z4_1, z4_2, z4_3, z4_4⟩ := hq; have BF := hb; clear hb; obtain ⟨l0, l1, l2, l3, l4⟩ := ltYc3 BF) | (go_at_call 16; with_reducible refine (vIn_n _ ha).mono ?_; rintro e w2 ⟨rfl, hb⟩; rw [q1]; have hq := ckYc1 w ax ay bx b_y fx fy wx wy hb (by refine ⟨?_, ?_, ?_, ?_, ?_, ?_, ?_, ?_, ?_, ?_, ?_, ?_, ?_⟩ <;> first | assumption | go_keep); clear z0_0 z0_1 z1_0 z1_1 z2_0 z2_1 z3_0 z3_1 z4_0 z4_1 z4_2 z4_3 z4_4; obtain ⟨z0_0, z0_1, z1_0, z1_1, z2_0, z2_1, z3_0, z3_1, z4_0, z4_1, z4_2, z4_3, z4_4⟩ := hq; have k0 : w2.cell? ⟨w1.heap.size, 0, none⟩ = some (.float .f64 sx) := keep hb (by go_keep); have k1 : w2.cell? ⟨w1.heap.size, 1, none⟩ = some (.float .f64 sy) := keep hb (by go_keep); replace BF := gwYc4 w ax ay bx b_y fx fy wx wy hb (by repeat (first | exact BF | apply bl_alloc | apply bl_drewN)); clear hb; obtain ⟨l0, l1, l2, l3, l4⟩ := ltYc3 BF; have lk := World.block_lt_of_cell? _ _ k0; simp only at lk) | (go_at_call 17; refine (refused_n _ _).mono ?_; rintro e w3 ⟨rfl, hb⟩; have hq := ckYc1 w ax ay bx b_y fx fy wx wy hb (by refine ⟨?_, ?_, ?_, ?_, ?_, ?_, ?_, ?_, ?_, ?_, ?_, ?_, ?_⟩ <;> first | assumption | go_keep); clear z0_0 z0_1 z1_0 z1_1 z2_0 z2_1 z3_0 z3_1 z4_0 z4_1 z4_2 z4_3 z4_4; obtain ⟨z0_0, z0_1, z1_0, z1_1, z2_0, z2_1, z3_0, z3_1, z4_0, z4_1, z4_2, z4_3, z4_4⟩ := hq; replace BF := gwYc4 w ax ay bx b_y fx fy wx wy hb (by repeat (first | exact BF | apply bl_alloc | apply bl_drewN)); clear hb; have fE : ∀ o, w3.frozen? ⟨w.heap.size + 1 + 1 + 1 + 1, o, none⟩ = false := fun o => (BF.2 _).trans (fR o)))
  refine fin5 (G := bodyPost _ _ _ _ _) (by repeat (first | (with_reducible exact z4_0) | (with_reducible refine up_drewN ?_) | (with_reducible refine up_alloc ?_))) (by repeat (first | (with_reducible exact z4_1) | (with_reducible refine up_drewN ?_) | (with_reducible refine up_alloc ?_))) (by repeat (first | (with_reducible exact z4_2) | (with_reducible refine up_drewN ?_) | (with_reducible refine up_alloc ?_))) (by repeat (first | (with_reducible exact z4_3) | (with_reducible refine up_drewN ?_) | (with_reducible refine up_alloc ?_))) (by repeat (first | (with_reducible exact z4_4) | (with_reducible refine up_drewN ?_) | (with_reducible refine up_alloc ?_))) (by have B := (bl_trans B0 BF); repeat (first | (with_reducible exact B) | (with_reducible refine bl_drewN ?_ _) | (with_reducible refine bl_alloc ?_ _ _))) (by omega) fun X r0 r1 r2 r3 r4 bX => ?_
  refine bodyPost_ret (segment_res _ _ _ _ _ _ _ _ _ _ rfl rfl rfl r0 r1 r2 r3 r4) rfl ⟨_, _, _, _, _, ?_, rfl, bX⟩
  exact zeH_is

set_option maxRecDepth 100000 in
theorem segment_b2 {ax ay bx b_y fx fy wx wy : Nat} {A B F Y : Vp} (w : World) (ha : isP ax ay A) (hB : isP bx b_y B) (hf : isP fx fy F) (hw : isP wx wy Y) (q1 : inB A.1 A.2 = true) (q2 : inB B.1 B.2 = false) : Calls Tryz.prog 9 #[.agg #[.float .f64 ax, .float .f64 ay], .agg #[.float .f64 bx, .float .f64 b_y], .agg #[.float .f64 fx, .float .f64 fy], .agg #[.float .f64 wx, .float .f64 wy]] w fun e w' => ∃ hx9 hy9 nx9 ny9 ht9 : Nat, isH hx9 hy9 nx9 ny9 ht9 (((false, zeH)).2) ∧ e = .returned (.tuple #[.agg #[.float .f64 hx9, .float .f64 hy9, .float .f64 nx9, .float .f64 ny9, .float .f64 ht9], .bool ((false, zeH)).1, .int .i64 (5)]) ∧ Bel w w' := by
  have c1 := cmp_lt .f64
  have c5 := cmp_eq .f64
  obtain ⟨z0_0, z0_1, z1_0, z1_1, z2_0, z2_1, z3_0, z3_1, z4_0, z4_1, z4_2, z4_3, z4_4, B0⟩ := bxYc0 w ax ay bx b_y fx fy wx wy _ rfl
  have fR := fzYc5 w ax ay bx b_y fx fy wx wy
  go_enter Tryz.func9, Tryz.ntmps9
  go_wp2_with (first | (go_at_call 19; with_reducible refine (vSub_n _ hB ha).mono ?_; rintro e w1 ⟨sx, sy, hs, rfl, hb⟩; have hq := ckYc1 w ax ay bx b_y fx fy wx wy hb (by refine ⟨?_, ?_, ?_, ?_, ?_, ?_, ?_, ?_, ?_, ?_, ?_, ?_, ?_⟩ <;> first | assumption | go_keep); clear z0_0 z0_1 z1_0 z1_1 z2_0 z2_1 z3_0 z3_1 z4_0 z4_1 z4_2 z4_3 z4_4; obtain ⟨z0_0, z0_1, z1_0, z1_1, z2_0, z2_1, z3_0, z3_1, z4_0, z4_1, z4_2, z4_3, z4_4⟩ := hq; have BF := hb; clear hb; obtain ⟨l0, l1, l2, l3, l4⟩ := ltYc3 BF) | (go_at_call 16; with_reducible refine (vIn_n _ ha).mono ?_; rintro e w2 ⟨rfl, hb⟩; rw [q1]; have hq := ckYc1 w ax ay bx b_y fx fy wx wy hb (by refine ⟨?_, ?_, ?_, ?_, ?_, ?_, ?_, ?_, ?_, ?_, ?_, ?_, ?_⟩ <;> first | assumption | go_keep); clear z0_0 z0_1 z1_0 z1_1 z2_0 z2_1 z3_0 z3_1 z4_0 z4_1 z4_2 z4_3 z4_4; obtain ⟨z0_0, z0_1, z1_0, z1_1, z2_0, z2_1, z3_0, z3_1, z4_0, z4_1, z4_2, z4_3, z4_4⟩ := hq; have k0 : w2.cell? ⟨w1.heap.size, 0, none⟩ = some (.float .f64 sx) := keep hb (by go_keep); have k1 : w2.cell? ⟨w1.heap.size, 1, none⟩ = some (.float .f64 sy) := keep hb (by go_keep); replace BF := gwYc4 w ax ay bx b_y fx fy wx wy hb (by repeat (first | exact BF | apply bl_alloc | apply bl_drewN)); clear hb; obtain ⟨l0, l1, l2, l3, l4⟩ := ltYc3 BF; have lk := World.block_lt_of_cell? _ _ k0; simp only at lk) | (go_at_call 16; with_reducible refine (vIn_n _ hB).mono ?_; rintro e w3 ⟨rfl, hb⟩; rw [q2]; have hq := ckYc2 w w1 ax ay bx b_y fx fy wx wy sx sy hb (by refine ⟨?_, ?_, ?_, ?_, ?_, ?_, ?_, ?_, ?_, ?_, ?_, ?_, ?_, ?_, ?_⟩ <;> first | assumption | go_keep); clear z0_0 z0_1 z1_0 z1_1 z2_0 z2_1 z3_0 z3_1 z4_0 z4_1 z4_2 z4_3 z4_4 k0 k1; obtain ⟨z0_0, z0_1, z1_0, z1_1, z2_0, z2_1, z3_0, z3_1, z4_0, z4_1, z4_2, z4_3, z4_4, k0, k1⟩ := hq; replace BF := gwYc4 w ax ay bx b_y fx fy wx wy hb (by repeat (first | exact BF | apply bl_alloc | apply bl_drewN)); clear hb; obtain ⟨l0, l1, l2, l3, l4⟩ := ltYc3 BF; have lk := World.block_lt_of_cell? _ _ k0; simp only at lk) | (go_at_call 17; refine (refused_n _ _).mono ?_; rintro e w4 ⟨rfl, hb⟩; have hq := ckYc1 w ax ay bx b_y fx fy wx wy hb (by refine ⟨?_, ?_, ?_, ?_, ?_, ?_, ?_, ?_, ?_, ?_, ?_, ?_, ?_⟩ <;> first | assumption | go_keep); clear z0_0 z0_1 z1_0 z1_1 z2_0 z2_1 z3_0 z3_1 z4_0 z4_1 z4_2 z4_3 z4_4; obtain ⟨z0_0, z0_1, z1_0, z1_1, z2_0, z2_1, z3_0, z3_1, z4_0, z4_1, z4_2, z4_3, z4_4⟩ := hq; replace BF := gwYc4 w ax ay bx b_y fx fy wx wy hb (by repeat (first | exact BF | apply bl_alloc | apply bl_drewN)); clear hb; have fE : ∀ o, w4.frozen? ⟨w.heap.size + 1 + 1 + 1 + 1, o, none⟩ = false := fun o => (BF.2 _).trans (fR o)))
  refine fin5 (G := bodyPost _ _ _ _ _) (by repeat (first | (with_reducible exact z4_0) | (with_reducible refine up_drewN ?_) | (with_reducible refine up_alloc ?_))) (by repeat (first | (with_reducible exact z4_1) | (with_reducible refine up_drewN ?_) | (with_reducible refine up_alloc ?_))) (by repeat (first | (with_reducible exact z4_2) | (with_reducible refine up_drewN ?_) | (with_reducible refine up_alloc ?_))) (by repeat (first | (with_reducible exact z4_3) | (with_reducible refine up_drewN ?_) | (with_reducible refine up_alloc ?_))) (by repeat (first | (with_reducible exact z4_4) | (with_reducible refine up_drewN ?_) | (with_reducible refine up_alloc ?_))) (by have B := (bl_trans B0 BF); repeat (first | (with_reducible exact B) | (with_reducible refine bl_drewN ?_ _) | (with_reducible refine bl_alloc ?_ _ _))) (by omega) fun X r0 r1 r2 r3 r4 bX => ?_
  refine bodyPost_ret (segment_res _ _ _ _ _ _ _ _ _ _ rfl rfl rfl r0 r1 r2 r3 r4) rfl ⟨_, _, _, _, _, ?_, rfl, bX⟩
  exact zeH_is

set_option maxRecDepth 100000 in
theorem segment_b3 {ax ay bx b_y fx fy wx wy : Nat} {A B F Y : Vp} (w : World) (ha : isP ax ay A) (hB : isP bx b_y B) (hf : isP fx fy F) (hw : isP wx wy Y) (q1 : inB A.1 A.2 = true) (q2 : inB B.1 B.2 = true) (q3 : ltK .f64 (lnF (suF B A)) 4472074429978902528 = true) : Calls Tryz.prog 9 #[.agg #[.float .f64 ax, .float .f64 ay], .agg #[.float .f64 bx, .float .f64 b_y], .agg #[.float .f64 fx, .float .f64 fy], .agg #[.float .f64 wx, .float .f64 wy]] w fun e w' => ∃ hx9 hy9 nx9 ny9 ht9 : Nat, isH hx9 hy9 nx9 ny9 ht9 (((false, zeH)).2) ∧ e = .returned (.tuple #[.agg #[.float .f64 hx9, .float .f64 hy9, .float .f64 nx9, .float .f64 ny9, .float .f64 ht9], .bool ((false, zeH)).1, .int .i64 (5)]) ∧ Bel w w' := by
  have c1 := cmp_lt .f64
  have c5 := cmp_eq .f64
  obtain ⟨z0_0, z0_1, z1_0, z1_1, z2_0, z2_1, z3_0, z3_1, z4_0, z4_1, z4_2, z4_3, z4_4, B0⟩ := bxYc0 w ax ay bx b_y fx fy wx wy _ rfl
  have fR := fzYc5 w ax ay bx b_y fx fy wx wy
  go_enter Tryz.func9, Tryz.ntmps9
  go_wp2_with (first | (go_at_call 19; with_reducible refine (vSub_n _ hB ha).mono ?_; rintro e w1 ⟨sx, sy, hs, rfl, hb⟩; have hq := ckYc1 w ax ay bx b_y fx fy wx wy hb (by refine ⟨?_, ?_, ?_, ?_, ?_, ?_, ?_, ?_, ?_, ?_, ?_, ?_, ?_⟩ <;> first | assumption | go_keep); clear z0_0 z0_1 z1_0 z1_1 z2_0 z2_1 z3_0 z3_1 z4_0 z4_1 z4_2 z4_3 z4_4; obtain ⟨z0_0, z0_1, z1_0, z1_1, z2_0, z2_1, z3_0, z3_1, z4_0, z4_1, z4_2, z4_3, z4_4⟩ := hq; have BF := hb; clear hb; obtain ⟨l0, l1, l2, l3, l4⟩ := ltYc3 BF) | (go_at_call 16; with_reducible refine (vIn_n _ ha).mono ?_; rintro e w2 ⟨rfl, hb⟩; rw [q1]; have hq := ckYc1 w ax ay bx b_y fx fy wx wy hb (by refine ⟨?_, ?_, ?_, ?_, ?_, ?_, ?_, ?_, ?_, ?_, ?_, ?_, ?_⟩ <;> first | assumption | go_keep); clear z0_0 z0_1 z1_0 z1_1 z2_0 z2_1 z3_0 z3_1 z4_0 z4_1 z4_2 z4_3 z4_4; obtain ⟨z0_0, z0_1, z1_0, z1_1, z2_0, z2_1, z3_0, z3_1, z4_0, z4_1, z4_2, z4_3, z4_4⟩ := hq; have k0 : w2.cell? ⟨w1.heap.size, 0, none⟩ = some (.float .f64 sx) := keep hb (by go_keep); have k1 : w2.cell? ⟨w1.heap.size, 1, none⟩ = some (.float .f64 sy) := keep hb (by go_keep); replace BF := gwYc4 w ax ay bx b_y fx fy wx wy hb (by repeat (first | exact BF | apply bl_alloc | apply bl_drewN)); clear hb; obtain ⟨l0, l1, l2, l3, l4⟩ := ltYc3 BF; have lk := World.block_lt_of_cell? _ _ k0; simp only at lk) | (go_at_call 16; with_reducible refine (vIn_n _ hB).mono ?_; rintro e w3 ⟨rfl, hb⟩; rw [q2]; have hq := ckYc2 w w1 ax ay bx b_y fx fy wx wy sx sy hb (by refine ⟨?_, ?_, ?_, ?_, ?_, ?_, ?_, ?_, ?_, ?_, ?_, ?_, ?_, ?_, ?_⟩ <;> first | assumption | go_keep); clear z0_0 z0_1 z1_0 z1_1 z2_0 z2_1 z3_0 z3_1 z4_0 z4_1 z4_2 z4_3 z4_4 k0 k1; obtain ⟨z0_0, z0_1, z1_0, z1_1, z2_0, z2_1, z3_0, z3_1, z4_0, z4_1, z4_2, z4_3, z4_4, k0, k1⟩ := hq; replace BF := gwYc4 w ax ay bx b_y fx fy wx wy hb (by repeat (first | exact BF | apply bl_alloc | apply bl_drewN)); clear hb; obtain ⟨l0, l1, l2, l3, l4⟩ := ltYc3 BF; have lk := World.block_lt_of_cell? _ _ k0; simp only at lk) | (go_at_call 38; refine (vLength_n _ hs).mono ?_; rintro e w4 ⟨rl, hl, rfl, hb⟩; have ql := (lt_is hl min_is).trans q3; have hq := ckYc2 w w1 ax ay bx b_y fx fy wx wy sx sy hb (by refine ⟨?_, ?_, ?_, ?_, ?_, ?_, ?_, ?_, ?_, ?_, ?_, ?_, ?_, ?_, ?_⟩ <;> first | assumption | go_keep); clear z0_0 z0_1 z1_0 z1_1 z2_0 z2_1 z3_0 z3_1 z4_0 z4_1 z4_2 z4_3 z4_4 k0 k1; obtain ⟨z0_0, z0_1, z1_0, z1_1, z2_0, z2_1, z3_0, z3_1, z4_0, z4_1, z4_2, z4_3, z4_4, k0, k1⟩ := hq; replace BF := gwYc4 w ax ay bx b_y fx fy wx wy hb (by repeat (first | exact BF | apply bl_alloc | apply bl_drewN)); clear hb; obtain ⟨l0, l1, l2, l3, l4⟩ := ltYc3 BF; have lk := World.block_lt_of_cell? _ _ k0; simp only at lk) | (go_at_call 17; refine (refused_n _ _).mono ?_; rintro e w5 ⟨rfl, hb⟩; have hq := ckYc1 w ax ay bx b_y fx fy wx wy hb (by refine ⟨?_, ?_, ?_, ?_, ?_, ?_, ?_, ?_, ?_, ?_, ?_, ?_, ?_⟩ <;> first | assumption | go_keep); clear z0_0 z0_1 z1_0 z1_1 z2_0 z2_1 z3_0 z3_1 z4_0 z4_1 z4_2 z4_3 z4_4; obtain ⟨z0_0, z0_1, z1_0, z1_1, z2_0, z2_1, z3_0, z3_1, z4_0, z4_1, z4_2, z4_3, z4_4⟩ := hq; replace BF := gwYc4 w ax ay bx b_y fx fy wx wy hb (by repeat (first | exact BF | apply bl_alloc | apply bl_drewN)); clear hb; have fE : ∀ o, w5.frozen? ⟨w.heap.size + 1 + 1 + 1 + 1, o, none⟩ = false := fun o => (BF.2 _).trans (fR o)))
  refine fin5 (G := bodyPost _ _ _ _ _) (by repeat (first | (with_reducible exact z4_0) | (with_reducible refine up_drewN ?_) | (with_reducible refine up_alloc ?_))) (by repeat (first | (with_reducible exact z4_1) | (with_reducible refine up_drewN ?_) | (with_reducible refine up_alloc ?_))) (by repeat (first | (with_reducible exact z4_2) | (with_reducible refine up_drewN ?_) | (with_reducible refine up_alloc ?_))) (by repeat (first | (with_reducible exact z4_3) | (with_reducible refine up_drewN ?_) | (with_reducible refine up_alloc ?_))) (by repeat (first | (with_reducible exact z4_4) | (with_reducible refine up_drewN ?_) | (with_reducible refine up_alloc ?_))) (by have B := (bl_trans B0 BF); repeat (first | (with_reducible exact B) | (with_reducible refine bl_drewN ?_ _) | (with_reducible refine bl_alloc ?_ _ _))) (by omega) fun X r0 r1 r2 r3 r4 bX => ?_
  refine bodyPost_ret (segment_res _ _ _ _ _ _ _ _ _ _ rfl rfl rfl r0 r1 r2 r3 r4) rfl ⟨_, _, _, _, _, ?_, rfl, bX⟩
  exact zeH_is

set_option maxRecDepth 100000 in
theorem segment_ry {ax ay bx b_y fx fy wx wy : Nat} {A B F Y : Vp} (w : World) (ha : isP ax ay A) (hB : isP bx b_y B) (hf : isP fx fy F) (hw : isP wx wy Y) (q1 : inB A.1 A.2 = true) (q2 : inB B.1 B.2 = true) (q3 : ltK .f64 (lnF (suF B A)) 4472074429978902528 = false) (he : ryE F Y ≠ 0) : Calls Tryz.prog 9 #[.agg #[.float .f64 ax, .float .f64 ay], .agg #[.float .f64 bx, .float .f64 b_y], .agg #[.float .f64 fx, .float .f64 fy], .agg #[.float .f64 wx, .float .f64 wy]] w fun e w' => ∃ hx9 hy9 nx9 ny9 ht9 : Nat, isH hx9 hy9 nx9 ny9 ht9 (((false, zeH)).2) ∧ e = .returned (.tuple #[.agg #[.float .f64 hx9, .float .f64 hy9, .float .f64 nx9, .float .f64 ny9, .float .f64 ht9], .bool ((false, zeH)).1, .int .i64 (ryE F Y)]) ∧ Bel w w' := by
  have c1 := cmp_lt .f64
  have c5 := cmp_eq .f64
  obtain ⟨z0_0, z0_1, z1_0, z1_1, z2_0, z2_1, z3_0, z3_1, z4_0, z4_1, z4_2, z4_3, z4_4, B0⟩ := bxYc0 w ax ay bx b_y fx fy wx wy _ rfl
  have fR := fzYc5 w ax ay bx b_y fx fy wx wy
  go_enter Tryz.func9, Tryz.ntmps9
  go_wp2_with (first | (go_at_call 19; with_reducible refine (vSub_n _ hB ha).mono ?_; rintro e w1 ⟨sx, sy, hs, rfl, hb⟩; have hq := ckYc1 w ax ay bx b_y fx fy wx wy hb (by refine ⟨?_, ?_, ?_, ?_, ?_, ?_, ?_, ?_, ?_, ?_, ?_, ?_, ?_⟩ <;> first | assumption | go_keep); clear z0_0 z0_1 z1_0 z1_1 z2_0 z2_1 z3_0 z3_1 z4_0 z4_1 z4_2 z4_3 z4_4; obtain ⟨z0_0, z0_1, z1_0, z1_1, z2_0, z2_1, z3_0, z3_1, z4_0, z4_1, z4_2, z4_3, z4_4⟩ := hq; have BF := hb; clear hb; obtain ⟨l0, l1, l2, l3, l4⟩ := ltYc3 BF) | (go_at_call 16; with_reducible refine (vIn_n _ ha).mono ?_; rintro e w2 ⟨rfl, hb⟩; rw [q1]; have hq := ckYc1 w ax ay bx b_y fx fy wx wy hb (by refine ⟨?_, ?_, ?_, ?_, ?_, ?_, ?_, ?_, ?_, ?_, ?_, ?_, ?_⟩ <;> first | assumption | go_keep); clear z0_0 z0_1 z1_0 z1_1 z2_0 z2_1 z3_0 z3_1 z4_0 z4_1 z4_2 z4_3 z4_4; obtain ⟨z0_0, z0_1, z1_0, z1_1, z2_0, z2_1, z3_0, z3_1, z4_0, z4_1, z4_2, z4_3, z4_4⟩ := hq; have k0 : w2.cell? ⟨w1.heap.size, 0, none⟩ = some (.float .f64 sx) := keep hb (by go_keep); have k1 : w2.cell? ⟨w1.heap.size, 1, none⟩ = some (.float .f64 sy) := keep hb (by go_keep); replace BF := gwYc4 w ax ay bx b_y fx fy wx wy hb (by repeat (first | exact BF | apply bl_alloc | apply bl_drewN)); clear hb; obtain ⟨l0, l1, l2, l3, l4⟩ := ltYc3 BF; have lk := World.block_lt_of_cell? _ _ k0; simp only at lk) | (go_at_call 16; with_reducible refine (vIn_n _ hB).mono ?_; rintro e w3 ⟨rfl, hb⟩; rw [q2]; have hq := ckYc2 w w1 ax ay bx b_y fx fy wx wy sx sy hb (by refine ⟨?_, ?_, ?_, ?_, ?_, ?_, ?_, ?_, ?_, ?_, ?_, ?_, ?_, ?_, ?_⟩ <;> first | assumption | go_keep); clear z0_0 z0_1 z1_0 z1_1 z2_0 z2_1 z3_0 z3_1 z4_0 z4_1 z4_2 z4_3 z4_4 k0 k1; obtain ⟨z0_0, z0_1, z1_0, z1_1, z2_0, z2_1, z3_0, z3_1, z4_0, z4_1, z4_2, z4_3, z4_4, k0, k1⟩ := hq; replace BF := gwYc4 w ax ay bx b_y fx fy wx wy hb (by repeat (first | exact BF | apply bl_alloc | apply bl_drewN)); clear hb; obtain ⟨l0, l1, l2, l3, l4⟩ := ltYc3 BF; have lk := World.block_lt_of_cell? _ _ k0; simp only at lk) | (go_at_call 38; refine (vLength_n _ hs).mono ?_; rintro e w4 ⟨rl, hl, rfl, hb⟩; have ql := (lt_is hl min_is).trans q3; have hq := ckYc2 w w1 ax ay bx b_y fx fy wx wy sx sy hb (by refine ⟨?_, ?_, ?_, ?_, ?_, ?_, ?_, ?_, ?_, ?_, ?_, ?_, ?_, ?_, ?_⟩ <;> first | assumption | go_keep); clear z0_0 z0_1 z1_0 z1_1 z2_0 z2_1 z3_0 z3_1 z4_0 z4_1 z4_2 z4_3 z4_4 k0 k1; obtain ⟨z0_0, z0_1, z1_0, z1_1, z2_0, z2_1, z3_0, z3_1, z4_0, z4_1, z4_2, z4_3, z4_4, k0, k1⟩ := hq; replace BF := gwYc4 w ax ay bx b_y fx fy wx wy hb (by repeat (first | exact BF | apply bl_alloc | apply bl_drewN)); clear hb; obtain ⟨l0, l1, l2, l3, l4⟩ := ltYc3 BF; have lk := World.block_lt_of_cell? _ _ k0; simp only at lk) | (go_at_call 18; refine (checkRay_n _ hf hw).mono ?_; rintro e w5 ⟨rfl, hb⟩; have hq := ckYc2 w w1 ax ay bx b_y fx fy wx wy sx sy hb (by refine ⟨?_, ?_, ?_, ?_, ?_, ?_, ?_, ?_, ?_, ?_, ?_, ?_, ?_, ?_, ?_⟩ <;> first | assumption | go_keep); clear z0_0 z0_1 z1_0 z1_1 z2_0 z2_1 z3_0 z3_1 z4_0 z4_1 z4_2 z4_3 z4_4 k0 k1; obtain ⟨z0_0, z0_1, z1_0, z1_1, z2_0, z2_1, z3_0, z3_1, z4_0, z4_1, z4_2, z4_3, z4_4, k0, k1⟩ := hq; replace BF := gwYc4 w ax ay bx b_y fx fy wx wy hb (by repeat (first | exact BF | apply bl_alloc | apply bl_drewN)); clear hb; obtain ⟨l0, l1, l2, l3, l4⟩ := ltYc3 BF; have lk := World.block_lt_of_cell? _ _ k0; simp only at lk) | (go_at_call 17; refine (refused_n _ _).mono ?_; rintro e w6 ⟨rfl, hb⟩; have hq := ckYc1 w ax ay bx b_y fx fy wx wy hb (by refine ⟨?_, ?_, ?_, ?_, ?_, ?_, ?_, ?_, ?_, ?_, ?_, ?_, ?_⟩ <;> first | assumption | go_keep); clear z0_0 z0_1 z1_0 z1_1 z2_0 z2_1 z3_0 z3_1 z4_0 z4_1 z4_2 z4_3 z4_4; obtain ⟨z0_0, z0_1, z1_0, z1_1, z2_0, z2_1, z3_0, z3_1, z4_0, z4_1, z4_2, z4_3, z4_4⟩ := hq; replace BF := gwYc4 w ax ay bx b_y fx fy wx wy hb (by repeat (first | exact BF | apply bl_alloc | apply bl_drewN)); clear hb; have fE : ∀ o, w6.frozen? ⟨w.heap.size + 1 + 1 + 1 + 1, o, none⟩ = false := fun o => (BF.2 _).trans (fR o)))
  refine fin5 (G := bodyPost _ _ _ _ _) (by repeat (first | (with_reducible exact z4_0) | (with_reducible refine up_drewN ?_) | (with_reducible refine up_alloc ?_))) (by repeat (first | (with_reducible exact z4_1) | (with_reducible refine up_drewN ?_) | (with_reducible refine up_alloc ?_))) (by repeat (first | (with_reducible exact z4_2) | (with_reducible refine up_drewN ?_) | (with_reducible refine up_alloc ?_))) (by repeat (first | (with_reducible exact z4_3) | (with_reducible refine up_drewN ?_) | (with_reducible refine up_alloc ?_))) (by repeat (first | (with_reducible exact z4_4) | (with_reducible refine up_drewN ?_) | (with_reducible refine up_alloc ?_))) (by have B := (bl_trans B0 BF); repeat (first | (with_reducible exact B) | (with_reducible refine bl_drewN ?_ _) | (with_reducible refine bl_alloc ?_ _ _))) (by omega) fun X r0 r1 r2 r3 r4 bX => ?_
  refine bodyPost_ret (segment_res _ _ _ _ _ _ _ _ _ _ rfl rfl rfl r0 r1 r2 r3 r4) rfl ⟨_, _, _, _, _, ?_, rfl, bX⟩
  exact zeH_is

set_option maxRecDepth 100000 in
theorem segment_d0 {ax ay bx b_y fx fy wx wy : Nat} {A B F Y : Vp} (w : World) (ha : isP ax ay A) (hB : isP bx b_y B) (hf : isP fx fy F) (hw : isP wx wy Y) (q1 : inB A.1 A.2 = true) (q2 : inB B.1 B.2 = true) (q3 : ltK .f64 (lnF (suF B A)) 4472074429978902528 = false) (he : ryE F Y = 0) (qd : eqK .f64 (sgD A B Y) 0 = true) : Calls Tryz.prog 9 #[.agg #[.float .f64 ax, .float .f64 ay], .agg #[.float .f64 bx, .float .f64 b_y], .agg #[.float .f64 fx, .float .f64 fy], .agg #[.float .f64 wx, .float .f64 wy]] w fun e w' => ∃ hx9 hy9 nx9 ny9 ht9 : Nat, isH hx9 hy9 nx9 ny9 ht9 (((false, zeH)).2) ∧ e = .returned (.tuple #[.agg #[.float .f64 hx9, .float .f64 hy9, .float .f64 nx9, .float .f64 ny9, .float .f64 ht9], .bool ((false, zeH)).1, .int .i64 (0)]) ∧ Bel w w' := by
  have c1 := cmp_lt .f64
  have c5 := cmp_eq .f64
  obtain ⟨z0_0, z0_1, z1_0, z1_1, z2_0, z2_1, z3_0, z3_1, z4_0, z4_1, z4_2, z4_3, z4_4, B0⟩ := bxYc0 w ax ay bx b_y fx fy wx wy _ rfl
  have fR := fzYc5 w ax ay bx b_y fx fy wx wy
  go_enter Tryz.func9, Tryz.ntmps9
  go_wp2_with (first | (go_at_call 19; with_reducible refine (vSub_n _ hB ha).mono ?_; rintro e w1 ⟨sx, sy, hs, rfl, hb⟩; have hq := ckYc1 w ax ay bx b_y fx fy wx wy hb (by refine ⟨?_, ?_, ?_, ?_, ?_, ?_, ?_, ?_, ?_, ?_, ?_, ?_, ?_⟩ <;> first | assumption | go_keep); clear z0_0 z0_1 z1_0 z1_1 z2_0 z2_1 z3_0 z3_1 z4_0 z4_1 z4_2 z4_3 z4_4; obtain ⟨z0_0, z0_1, z1_0, z1_1, z2_0, z2_1, z3_0, z3_1, z4_0, z4_1, z4_2, z4_3, z4_4⟩ := hq; have BF := hb; clear hb; obtain ⟨l0, l1, l2, l3, l4⟩ := ltYc3 BF) | (go_at_call 16; with_reducible refine (vIn_n _ ha).mono ?_; rintro e w2 ⟨rfl, hb⟩; rw [q1]; have hq := ckYc1 w ax ay bx b_y fx fy wx wy hb (by refine ⟨?_, ?_, ?_, ?_, ?_, ?_, ?_, ?_, ?_, ?_, ?_, ?_, ?_⟩ <;> first | assumption | go_keep); clear z0_0 z0_1 z1_0 z1_1 z2_0 z2_1 z3_0 z3_1 z4_0 z4_1 z4_2 z4_3 z4_4; obtain ⟨z0_0, z0_1, z1_0, z1_1, z2_0, z2_1, z3_0, z3_1, z4_0, z4_1, z4_2, z4_3, z4_4⟩ := hq; have k0 : w2.cell? ⟨w1.heap.size, 0, none⟩ = some (.float .f64 sx) := keep hb (by go_keep); have k1 : w2.cell? ⟨w1.heap.size, 1, none⟩ = some (.float .f64 sy) := keep hb (by go_keep); replace BF := gwYc4 w ax ay bx b_y fx fy wx wy hb (by repeat (first | exact BF | apply bl_alloc | apply bl_drewN)); clear hb; obtain ⟨l0, l1, l2, l3, l4⟩ := ltYc3 BF; have lk := World.block_lt_of_cell? _ _ k0; simp only at lk) | (go_at_call 16; with_reducible refine (vIn_n _ hB).mono ?_; rintro e w3 ⟨rfl, hb⟩; rw [q2]; have hq := ckYc2 w w1 ax ay bx b_y fx fy wx wy sx sy hb (by refine ⟨?_, ?_, ?_, ?_, ?_, ?_, ?_, ?_, ?_, ?_, ?_, ?_, ?_, ?_, ?_⟩ <;> first | assumption | go_keep); clear z0_0 z0_1 z1_0 z1_1 z2_0 z2_1 z3_0 z3_1 z4_0 z4_1 z4_2 z4_3 z4_4 k0 k1; obtain ⟨z0_0, z0_1, z1_0, z1_1, z2_0, z2_1, z3_0, z3_1, z4_0, z4_1, z4_2, z4_3, z4_4, k0, k1⟩ := hq; replace BF := gwYc4 w ax ay bx b_y fx fy wx wy hb (by repeat (first | exact BF | apply bl_alloc | apply bl_drewN)); clear hb; obtain ⟨l0, l1, l2, l3, l4⟩ := ltYc3 BF; have lk := World.block_lt_of_cell? _ _ k0; simp only at lk) | (go_at_call 38; refine (vLength_n _ hs).mono ?_; rintro e w4 ⟨rl, hl, rfl, hb⟩; have ql := (lt_is hl min_is).trans q3; have hq := ckYc2 w w1 ax ay bx b_y fx fy wx wy sx sy hb (by refine ⟨?_, ?_, ?_, ?_, ?_, ?_, ?_, ?_, ?_, ?_, ?_, ?_, ?_, ?_, ?_⟩ <;> first | assumption | go_keep); clear z0_0 z0_1 z1_0 z1_1 z2_0 z2_1 z3_0 z3_1 z4_0 z4_1 z4_2 z4_3 z4_4 k0 k1; obtain ⟨z0_0, z0_1, z1_0, z1_1, z2_0, z2_1, z3_0, z3_1, z4_0, z4_1, z4_2, z4_3, z4_4, k0, k1⟩ := hq; replace BF := gwYc4 w ax ay bx b_y fx fy wx wy hb (by repeat (first | exact BF | apply bl_alloc | apply bl_drewN)); clear hb; obtain ⟨l0, l1, l2, l3, l4⟩ := ltYc3 BF; have lk := World.block_lt_of_cell? _ _ k0; simp only at lk) | (go_at_call 18; refine (checkRay_n _ hf hw).mono ?_; rintro e w5 ⟨rfl, hb⟩; have hq := ckYc2 w w1 ax ay bx b_y fx fy wx wy sx sy hb (by refine ⟨?_, ?_, ?_, ?_, ?_, ?_, ?_, ?_, ?_, ?_, ?_, ?_, ?_, ?_, ?_⟩ <;> first | assumption | go_keep); clear z0_0 z0_1 z1_0 z1_1 z2_0 z2_1 z3_0 z3_1 z4_0 z4_1 z4_2 z4_3 z4_4 k0 k1; obtain ⟨z0_0, z0_1, z1_0, z1_1, z2_0, z2_1, z3_0, z3_1, z4_0, z4_1, z4_2, z4_3, z4_4, k0, k1⟩ := hq; replace BF := gwYc4 w ax ay bx b_y fx fy wx wy hb (by repeat (first | exact BF | apply bl_alloc | apply bl_drewN)); clear hb; obtain ⟨l0, l1, l2, l3, l4⟩ := ltYc3 BF; have lk := World.block_lt_of_cell? _ _ k0; simp only at lk) | (go_at_call 39; refine (vCross_n _ hw hs).mono ?_; rintro e w6 ⟨d0, hd, rfl, hb⟩; have qe := (eq_is hd isF_zero).trans qd; have hq := ckYc2 w w1 ax ay bx b_y fx fy wx wy sx sy hb (by refine ⟨?_, ?_, ?_, ?_, ?_, ?_, ?_, ?_, ?_, ?_, ?_, ?_, ?_, ?_, ?_⟩ <;> first | assumption | go_keep); clear z0_0 z0_1 z1_0 z1_1 z2_0 z2_1 z3_0 z3_1 z4_0 z4_1 z4_2 z4_3 z4_4 k0 k1; obtain ⟨z0_0, z0_1, z1_0, z1_1, z2_0, z2_1, z3_0, z3_1, z4_0, z4_1, z4_2, z4_3, z4_4, k0, k1⟩ := hq; replace BF := gwYc4 w ax ay bx b_y fx fy wx wy hb (by repeat (first | exact BF | apply bl_alloc | apply bl_drewN)); clear hb; obtain ⟨l0, l1, l2, l3, l4⟩ := ltYc3 BF; have lk := World.block_lt_of_cell? _ _ k0; simp only at lk) | (go_at_call 23; refine (nothing_n _).mono ?_; rintro e w7 ⟨rfl, hb⟩; have hq := ckYc1 w ax ay bx b_y fx fy wx wy hb (by refine ⟨?_, ?_, ?_, ?_, ?_, ?_, ?_, ?_, ?_, ?_, ?_, ?_, ?_⟩ <;> first | assumption | go_keep); clear z0_0 z0_1 z1_0 z1_1 z2_0 z2_1 z3_0 z3_1 z4_0 z4_1 z4_2 z4_3 z4_4; obtain ⟨z0_0, z0_1, z1_0, z1_1, z2_0, z2_1, z3_0, z3_1, z4_0, z4_1, z4_2, z4_3, z4_4⟩ := hq; replace BF := gwYc4 w ax ay bx b_y fx fy wx wy hb (by repeat (first | exact BF | apply bl_alloc | apply bl_drewN)); clear hb; have fE : ∀ o, w7.frozen? ⟨w.heap.size + 1 + 1 + 1 + 1, o, none⟩ = false := fun o => (BF.2 _).trans (fR o)))
  refine fin5 (G := bodyPost _ _ _ _ _) (by repeat (first | (with_reducible exact z4_0) | (with_reducible refine up_drewN ?_) | (with_reducible refine up_alloc ?_))) (by repeat (first | (with_reducible exact z4_1) | (with_reducible refine up_drewN ?_) | (with_reducible refine up_alloc ?_))) (by repeat (first | (with_reducible exact z4_2) | (with_reducible refine up_drewN ?_) | (with_reducible refine up_alloc ?_))) (by repeat (first | (with_reducible exact z4_3) | (with_reducible refine up_drewN ?_) | (with_reducible refine up_alloc ?_))) (by repeat (first | (with_reducible exact z4_4) | (with_reducible refine up_drewN ?_) | (with_reducible refine up_alloc ?_))) (by have B := (bl_trans B0 BF); repeat (first | (with_reducible exact B) | (with_reducible refine bl_drewN ?_ _) | (with_reducible refine bl_alloc ?_ _ _))) (by omega) fun X r0 r1 r2 r3 r4 bX => ?_
  refine bodyPost_ret (segment_res _ _ _ _ _ _ _ _ _ _ rfl rfl rfl r0 r1 r2 r3 r4) rfl ⟨_, _, _, _, _, ?_, rfl, bX⟩
  exact zeH_is

set_option maxRecDepth 100000 in
set_option maxHeartbeats 2000000 in
theorem segment_n1 {ax ay bx b_y fx fy wx wy : Nat} {A B F Y : Vp} (w : World) (ha : isP ax ay A) (hB : isP bx b_y B) (hf : isP fx fy F) (hw : isP wx wy Y) (q1 : inB A.1 A.2 = true) (q2 : inB B.1 B.2 = true) (q3 : ltK .f64 (lnF (suF B A)) 4472074429978902528 = false) (he : ryE F Y = 0) (qd : eqK .f64 (sgD A B Y) 0 = false) (qp : paB (sgT A B F Y) = false) : Calls Tryz.prog 9 #[.agg #[.float .f64 ax, .float .f64 ay], .agg #[.float .f64 bx, .float .f64 b_y], .agg #[.float .f64 fx, .float .f64 fy], .agg #[.float .f64 wx, .float .f64 wy]] w fun e w' => ∃ hx9 hy9 nx9 ny9 ht9 : Nat, isH hx9 hy9 nx9 ny9 ht9 (((false, zeH)).2) ∧ e = .returned (.tuple #[.agg #[.float .f64 hx9, .float .f64 hy9, .float .f64 nx9, .float .f64 ny9, .float .f64 ht9], .bool ((false, zeH)).1, .int .i64 (0)]) ∧ Bel w w' := by
  have c1 := cmp_lt .f64
  have c5 := cmp_eq .f64
  obtain ⟨z0_0, z0_1, z1_0, z1_1, z2_0, z2_1, z3_0, z3_1, z4_0, z4_1, z4_2, z4_3, z4_4, B0⟩ := bxYc0 w ax ay bx b_y fx fy wx wy _ rfl
  have fR := fzYc5 w ax ay bx b_y fx fy wx wy
  go_enter Tryz.func9, Tryz.ntmps9
  go_wp2_with (first | (go_at_call 19; with_reducible refine (vSub_n _ hB ha).mono ?_; rintro e w1 ⟨sx, sy, hs, rfl, hb⟩; have hq := ckYc1 w ax ay bx b_y fx fy wx wy hb (by refine ⟨?_, ?_, ?_, ?_, ?_, ?_, ?_, ?_, ?_, ?_, ?_, ?_, ?_⟩ <;> first | assumption | go_keep); clear z0_0 z0_1 z1_0 z1_1 z2_0 z2_1 z3_0 z3_1 z4_0 z4_1 z4_2 z4_3 z4_4; obtain ⟨z0_0, z0_1, z1_0, z1_1, z2_0, z2_1, z3_0, z3_1, z4_0, z4_1, z4_2, z4_3, z4_4⟩ := hq; have BF := hb; clear hb; obtain ⟨l0, l1, l2, l3, l4⟩ := ltYc3 BF) | (go_at_call 16; with_reducible refine (vIn_n _ ha).mono ?_; rintro e w2 ⟨rfl, hb⟩; rw [q1]; have hq := ckYc1 w ax ay bx b_y fx fy wx wy hb (by refine ⟨?_, ?_, ?_, ?_, ?_, ?_, ?_, ?_, ?_, ?_, ?_, ?_, ?_⟩ <;> first | assumption | go_keep); clear z0_0 z0_1 z1_0 z1_1 z2_0 z2_1 z3_0 z3_1 z4_0 z4_1 z4_2 z4_3 z4_4; obtain ⟨z0_0, z0_1, z1_0, z1_1, z2_0, z2_1, z3_0, z3_1, z4_0, z4_1, z4_2, z4_3, z4_4⟩ := hq; have k0 : w2.cell? ⟨w1.heap.size, 0, none⟩ = some (.float .f64 sx) := keep hb (by go_keep); have k1 : w2.cell? ⟨w1.heap.size, 1, none⟩ = some (.float .f64 sy) := keep hb (by go_keep); replace BF := gwYc4 w ax ay bx b_y fx fy wx wy hb (by repeat (first | exact BF | apply bl_alloc | apply bl_drewN)); clear hb; obtain ⟨l0, l1, l2, l3, l4⟩ := ltYc3 BF; have lk := World.block_lt_of_cell? _ _ k0; simp only at lk) | (go_at_call 16; with_reducible refine (vIn_n _ hB).mono ?_; rintro e w3 ⟨rfl, hb⟩; rw [q2]; have hq := ckYc2 w w1 ax ay bx b_y fx fy wx wy sx sy hb (by refine ⟨?_, ?_, ?_, ?_, ?_, ?_, ?_, ?_, ?_, ?_, ?_, ?_, ?_, ?_, ?_⟩ <;> first | assumption | go_keep); clear z0_0 z0_1 z1_0 z1_1 z2_0 z2_1 z3_0 z3_1 z4_0 z4_1 z4_2 z4_3 z4_4 k0 k1; obtain ⟨z0_0, z0_1, z1_0, z1_1, z2_0, z2_1, z3_0, z3_1, z4_0, z4_1, z4_2, z4_3, z4_4, k0, k1⟩ := hq; replace BF := gwYc4 w ax ay bx b_y fx fy wx wy hb (by repeat (first | exact BF | apply bl_alloc | apply bl_drewN)); clear hb; obtain ⟨l0, l1, l2, l3, l4⟩ := ltYc3 BF; have lk := World.block_lt_of_cell? _ _ k0; simp only at lk) | (go_at_call 38; refine (vLength_n _ hs).mono ?_; rintro e w4 ⟨rl, hl, rfl, hb⟩; have ql := (lt_is hl min_is).trans q3; have hq := ckYc2 w w1 ax ay bx b_y fx fy wx wy sx sy hb (by refine ⟨?_, ?_, ?_, ?_, ?_, ?_, ?_, ?_, ?_, ?_, ?_, ?_, ?_, ?_, ?_⟩ <;> first | assumption | go_keep); clear z0_0 z0_1 z1_0 z1_1 z2_0 z2_1 z3_0 z3_1 z4_0 z4_1 z4_2 z4_3 z4_4 k0 k1; obtain ⟨z0_0, z0_1, z1_0, z1_1, z2_0, z2_1, z3_0, z3_1, z4_0, z4_1, z4_2, z4_3, z4_4, k0, k1⟩ := hq; replace BF := gwYc4 w ax ay bx b_y fx fy wx wy hb (by repeat (first | exact BF | apply bl_alloc | apply bl_drewN)); clear hb; obtain ⟨l0, l1, l2, l3, l4⟩ := ltYc3 BF; have lk := World.block_lt_of_cell? _ _ k0; simp only at lk) | (go_at_call 18; refine (checkRay_n _ hf hw).mono ?_; rintro e w5 ⟨rfl, hb⟩; have hq := ckYc2 w w1 ax ay bx b_y fx fy wx wy sx sy hb (by refine ⟨?_, ?_, ?_, ?_, ?_, ?_, ?_, ?_, ?_, ?_, ?_, ?_, ?_, ?_, ?_⟩ <;> first | assumption | go_keep); clear z0_0 z0_1 z1_0 z1_1 z2_0 z2_1 z3_0 z3_1 z4_0 z4_1 z4_2 z4_3 z4_4 k0 k1; obtain ⟨z0_0, z0_1, z1_0, z1_1, z2_0, z2_1, z3_0, z3_1, z4_0, z4_1, z4_2, z4_3, z4_4, k0, k1⟩ := hq; replace BF := gwYc4 w ax ay bx b_y fx fy wx wy hb (by repeat (first | exact BF | apply bl_alloc | apply bl_drewN)); clear hb; obtain ⟨l0, l1, l2, l3, l4⟩ := ltYc3 BF; have lk := World.block_lt_of_cell? _ _ k0; simp only at lk) | (go_at_call 39; refine (vCross_n _ hw hs).mono ?_; rintro e w6 ⟨d0, hd, rfl, hb⟩; have qe := (eq_is hd isF_zero).trans qd; have hq := ckYc2 w w1 ax ay bx b_y fx fy wx wy sx sy hb (by refine ⟨?_, ?_, ?_, ?_, ?_, ?_, ?_, ?_, ?_, ?_, ?_, ?_, ?_, ?_, ?_⟩ <;> first | assumption | go_keep); clear z0_0 z0_1 z1_0 z1_1 z2_0 z2_1 z3_0 z3_1 z4_0 z4_1 z4_2 z4_3 z4_4 k0 k1; obtain ⟨z0_0, z0_1, z1_0, z1_1, z2_0, z2_1, z3_0, z3_1, z4_0, z4_1, z4_2, z4_3, z4_4, k0, k1⟩ := hq; replace BF := gwYc4 w ax ay bx b_y fx fy wx wy hb (by repeat (first | exact BF | apply bl_alloc | apply bl_drewN)); clear hb; obtain ⟨l0, l1, l2, l3, l4⟩ := ltYc3 BF; have lk := World.block_lt_of_cell? _ _ k0; simp only at lk) | (go_at_call 19; with_reducible refine (vSub_n _ ha hf).mono ?_; rintro e w7 ⟨vx, vy, hv, rfl, hb⟩; have hq := ckYc2 w w1 ax ay bx b_y fx fy wx wy sx sy hb (by refine ⟨?_, ?_, ?_, ?_, ?_, ?_, ?_, ?_, ?_, ?_, ?_, ?_, ?_, ?_, ?_⟩ <;> first | assumption | go_keep); clear z0_0 z0_1 z1_0 z1_1 z2_0 z2_1 z3_0 z3_1 z4_0 z4_1 z4_2 z4_3 z4_4 k0 k1; obtain ⟨z0_0, z0_1, z1_0, z1_1, z2_0, z2_1, z3_0, z3_1, z4_0, z4_1, z4_2, z4_3, z4_4, k0, k1⟩ := hq; replace BF := gwYc4 w ax ay bx b_y fx fy wx wy hb (by repeat (first | exact BF | apply bl_alloc | apply bl_drewN)); clear hb; obtain ⟨l0, l1, l2, l3, l4⟩ := ltYc3 BF; have lk := World.block_lt_of_cell? _ _ k0; simp only at lk))
  have B2 : Bel w7 (w7.alloc (.cells #[.float .f64 vx, .float .f64 vy] 24)) := bl_alloc (bl_refl _) _ _
  have e0 : (w7.alloc (.cells #[.float .f64 vx, .float .f64 vy] 24)).cell? ⟨w7.heap.size, 0, none⟩ = some (.float .f64 vx) := by rw [World.cell?_alloc_new]; rfl
  have e1 : (w7.alloc (.cells #[.float .f64 vx, .float .f64 vy] 24)).cell? ⟨w7.heap.size, 1, none⟩ = some (.float .f64 vy) := by rw [World.cell?_alloc_new]; rfl
  have yz0_0 := keep B2 z0_0
  have yz0_1 := keep B2 z0_1
  have yz1_0 := keep B2 z1_0
  have yz1_1 := keep B2 z1_1
  have yz2_0 := keep B2 z2_0
  have yz2_1 := keep B2 z2_1
  have yz3_0 := keep B2 z3_0
  have yz3_1 := keep B2 z3_1
  have yz4_0 := keep B2 z4_0
  have yz4_1 := keep B2 z4_1
  have yz4_2 := keep B2 z4_2
  have yz4_3 := keep B2 z4_3
  have yz4_4 := keep B2 z4_4
  replace k0 := keep B2 k0
  replace k1 := keep B2 k1
  clear z0_0 z0_1 z1_0 z1_1 z2_0 z2_1 z3_0 z3_1 z4_0 z4_1 z4_2 z4_3 z4_4
  refine wp_region_mono 12 rfl (fun i W v => match i with | 0 => v = .agg #[.float .f64 vx, .float .f64 vy] | 1 => v = .agg #[.float .f64 sx, .float .f64 sy] | 2 => ∃ p, isF p (crF (suF A F) (suF B A)) ∧ v = .float .f64 p | 3 => v = .float .f64 d0 | 4 => ∃ p, isF p (sgT A B F Y) ∧ v = .float .f64 p | 5 => v = .agg #[.float .f64 vx, .float .f64 vy] | 6 => v = .agg #[.float .f64 wx, .float .f64 wy] | 7 => ∃ p, isF p (crF (suF A F) Y) ∧ v = .float .f64 p | 8 => v = .float .f64 d0 | 9 => ∃ p, isF p (sgU A B F Y) ∧ v = .float .f64 p | 10 => ∃ p, isF p (sgT A B F Y) ∧ v = .float .f64 p | 11 => ∃ p, isF p (sgU A B F Y) ∧ v = .float .f64 p | _ => False) ?A_wm (by kernel_rfl) (by kernel_rfl) ?hA_wm ?hmo_wm ?hq_wm ?ht_wm
  case hA_wm =>
    intro s
    simp only [putL, dstO, Act.put, List.getElem?_toArray, List.getElem?_cons_zero, List.getElem?_cons_succ, Option.bind_some, List.setIfInBounds_toArray, List.set_cons_zero, List.set_cons_succ, if_true]
    all_goals exact rfl
  case hmo_wm =>
    intro i W W' v hi hb h
    rcases (show i = 0 ∨ i = 1 ∨ i = 2 ∨ i = 3 ∨ i = 4 ∨ i = 5 ∨ i = 6 ∨ i = 7 ∨ i = 8 ∨ i = 9 ∨ i = 10 ∨ i = 11 by omega) with rfl | rfl | rfl | rfl | rfl | rfl | rfl | rfl | rfl | rfl | rfl | rfl
    all_goals first | exact h
  case hq_wm =>
    intro i o hi ho s W hs hb K hK
    have d3 := run_quo Tryz.prog; have uz0_0 := keep hb yz0_0; have uz0_1 := keep hb yz0_1; have uz1_0 := keep hb yz1_0; have uz1_1 := keep hb yz1_1; have uz2_0 := keep hb yz2_0; have uz2_1 := keep hb yz2_1; have uz3_0 := keep hb yz3_0; have uz3_1 := keep hb yz3_1; have uz4_0 := keep hb yz4_0; have uz4_1 := keep hb yz4_1; have uz4_2 := keep hb yz4_2; have uz4_3 := keep hb yz4_3; have uz4_4 := keep hb yz4_4; have uk0 := keep hb k0; have uk1 := keep hb k1; have ue0 := keep hb e0; have ue1 := keep hb e1
    rcases (show i = 0 ∨ i = 1 ∨ i = 2 ∨ i = 3 ∨ i = 4 ∨ i = 5 ∨ i = 6 ∨ i = 7 ∨ i = 8 ∨ i = 9 ∨ i = 10 ∨ i = 11 by omega) with rfl | rfl | rfl | rfl | rfl | rfl | rfl | rfl | rfl | rfl | rfl | rfl
    all_goals
      cases ho
    rotate_left 2
    have e0 : s 0 = _ := hs 0 (by decide) (by kernel_rfl)
    have e1 : s 1 = _ := hs 1 (by decide) (by kernel_rfl)
    simp only [e0, e1] at hK ⊢
    rotate_left 2
    obtain ⟨p2, h2, e2⟩ := hs 2 (by decide) (by kernel_rfl)
    have e3 : s 3 = _ := hs 3 (by decide) (by kernel_rfl)
    simp only [e2, e3] at hK ⊢
    rotate_left 3
    have e5 : s 5 = _ := hs 5 (by decide) (by kernel_rfl)
    have e6 : s 6 = _ := hs 6 (by decide) (by kernel_rfl)
    simp only [e5, e6] at hK ⊢
    rotate_left 2
    obtain ⟨p7, h7, e7⟩ := hs 7 (by decide) (by kernel_rfl)
    have e8 : s 8 = _ := hs 8 (by decide) (by kernel_rfl)
    simp only [e7, e8] at hK ⊢
    rotate_left 1
    obtain ⟨p4, h4, e4⟩ := hs 4 (by decide) (by kernel_rfl)
    simp only [e4] at hK ⊢
    rotate_left 1
    obtain ⟨p9, h9, e9⟩ := hs 9 (by decide) (by kernel_rfl)
    simp only [e9] at hK ⊢
    rotate_left 1
    all_goals
      simp only [Act.put, List.setIfInBounds_toArray, List.set_cons_zero, List.set_cons_succ] at hK
      clear hs
      go_simp
      all_goals (try go_wp2_with (first | (go_at_call 39; with_reducible refine (vCross_n _ hv hs).mono ?_; rintro e w' ⟨p, h2, rfl, hb1⟩) | (go_at_call 39; with_reducible refine (vCross_n _ hv hw).mono ?_; rintro e w' ⟨p, h7, rfl, hb1⟩)))
      all_goals first | exact hK.out _ _ ⟨_, h2, rfl⟩ hb1 | exact hK.out _ _ ⟨_, h7, rfl⟩ hb1 | exact hK.out _ _ ⟨_, o_is _ h2 hd, rfl⟩ (by first | exact bl_refl _ | exact bl_drewN (bl_refl _) _) | exact hK.out _ _ ⟨_, o_is _ h7 hd, rfl⟩ (by first | exact bl_refl _ | exact bl_drewN (bl_refl _) _) | exact hK.out _ _ ⟨_, h4, rfl⟩ (bl_refl _) | exact hK.out _ _ ⟨_, h9, rfl⟩ (bl_refl _) | exact hK.out _ _ rfl (bl_refl _) | exact hK.out _ _ rfl (by assumption) | exact hK.out _ _ (by assumption) (by assumption)
  case ht_wm =>
    intro s w8 hs hb
    have e0 : s 0 = _ := hs 0 (by decide)
    have e1 : s 1 = _ := hs 1 (by decide)
    obtain ⟨_, _, e2⟩ := hs 2 (by decide)
    have e3 : s 3 = _ := hs 3 (by decide)
    obtain ⟨_, _, e4⟩ := hs 4 (by decide)
    have e5 : s 5 = _ := hs 5 (by decide)
    have e6 : s 6 = _ := hs 6 (by decide)
    obtain ⟨_, _, e7⟩ := hs 7 (by decide)
    have e8 : s 8 = _ := hs 8 (by decide)
    obtain ⟨_, _, e9⟩ := hs 9 (by decide)
    obtain ⟨t0, ht0, e10⟩ := hs 10 (by decide)
    obtain ⟨u0, hu0, e11⟩ := hs 11 (by decide)
    simp only [e0, e1, e2, e3, e4, e5, e6, e7, e8, e9, e10, e11]
    clear hs e0 e1 e2 e3 e4 e5 e6 e7 e8 e9 e10 e11
    have z0_0 := keep hb yz0_0; have z0_1 := keep hb yz0_1; have z1_0 := keep hb yz1_0; have z1_1 := keep hb yz1_1; have z2_0 := keep hb yz2_0; have z2_1 := keep hb yz2_1; have z3_0 := keep hb yz3_0; have z3_1 := keep hb yz3_1; have z4_0 := keep hb yz4_0; have z4_1 := keep hb yz4_1; have z4_2 := keep hb yz4_2; have z4_3 := keep hb yz4_3; have z4_4 := keep hb yz4_4
    replace k0 := keep hb k0
    replace k1 := keep hb k1
    replace BF := bl_trans (bl_trans BF B2) hb
    have lk := World.block_lt_of_cell? _ _ k0
    simp only at lk
    clear hb B2 e0 e1 yz0_0 yz0_1 yz1_0 yz1_1 yz2_0 yz2_1 yz3_0 yz3_1 yz4_0 yz4_1 yz4_2 yz4_3 yz4_4
    go_wp2_with (first | (go_at_call 25; with_reducible refine (isPart_n _ ht0).mono ?_; rintro e w9 ⟨rfl, hW9⟩; rw [hW9, qp]) | (go_at_call 23; refine (nothing_n _).mono ?_; rintro e w9 ⟨rfl, hb⟩; have hq := ckYc1 w ax ay bx b_y fx fy wx wy hb (by refine ⟨?_, ?_, ?_, ?_, ?_, ?_, ?_, ?_, ?_, ?_, ?_, ?_, ?_⟩ <;> first | assumption | go_keep); clear z0_0 z0_1 z1_0 z1_1 z2_0 z2_1 z3_0 z3_1 z4_0 z4_1 z4_2 z4_3 z4_4; obtain ⟨z0_0, z0_1, z1_0, z1_1, z2_0, z2_1, z3_0, z3_1, z4_0, z4_1, z4_2, z4_3, z4_4⟩ := hq; replace BF := gwYc4 w ax ay bx b_y fx fy wx wy hb (by repeat (first | exact BF | apply bl_alloc | apply bl_drewN)); clear hb; have fE : ∀ o, w9.frozen? ⟨w.heap.size + 1 + 1 + 1 + 1, o, none⟩ = false := fun o => (BF.2 _).trans (fR o)))
    refine fin5 (G := bodyPost _ _ _ _ _) (by repeat (first | (with_reducible exact z4_0) | (with_reducible refine up_drewN ?_) | (with_reducible refine up_alloc ?_))) (by repeat (first | (with_reducible exact z4_1) | (with_reducible refine up_drewN ?_) | (with_reducible refine up_alloc ?_))) (by repeat (first | (with_reducible exact z4_2) | (with_reducible refine up_drewN ?_) | (with_reducible refine up_alloc ?_))) (by repeat (first | (with_reducible exact z4_3) | (with_reducible refine up_drewN ?_) | (with_reducible refine up_alloc ?_))) (by repeat (first | (with_reducible exact z4_4) | (with_reducible refine up_drewN ?_) | (with_reducible refine up_alloc ?_))) (by have B := (bl_trans B0 BF); repeat (first | (with_reducible exact B) | (with_reducible refine bl_drewN ?_ _) | (with_reducible refine bl_alloc ?_ _ _))) (by omega) fun X r0 r1 r2 r3 r4 bX => ?_
    refine bodyPost_ret (segment_res _ _ _ _ _ _ _ _ _ _ rfl rfl rfl r0 r1 r2 r3 r4) rfl ⟨_, _, _, _, _, ?_, rfl, bX⟩
    exact zeH_is


set_option maxRecDepth 100000 in
set_option maxHeartbeats 2000000 in
theorem segment_n2 {ax ay bx b_y fx fy wx wy : Nat} {A B F Y : Vp} (w : World) (ha : isP ax ay A) (hB : isP bx b_y B) (hf : isP fx fy F) (hw : isP wx wy Y) (q1 : inB A.1 A.2 = true) (q2 : inB B.1 B.2 = true) (q3 : ltK .f64 (lnF (suF B A)) 4472074429978902528 = false) (he : ryE F Y = 0) (qd : eqK .f64 (sgD A B Y) 0 = false) (qp : paB (sgT A B F Y) = true) (qu : paB (sgU A B F Y) = false) : Calls Tryz.prog 9 #[.agg #[.float .f64 ax, .float .f64 ay], .agg #[.float .f64 bx, .float .f64 b_y], .agg #[.float .f64 fx, .float .f64 fy], .agg #[.float .f64 wx, .float .f64 wy]] w fun e w' => ∃ hx9 hy9 nx9 ny9 ht9 : Nat, isH hx9 hy9 nx9 ny9 ht9 (((false, zeH)).2) ∧ e = .returned (.tuple #[.agg #[.float .f64 hx9, .float .f64 hy9, .float .f64 nx9, .float .f64 ny9, .float .f64 ht9], .bool ((false, zeH)).1, .int .i64 (0)]) ∧ Bel w w' := by
  have c1 := cmp_lt .f64
  have c5 := cmp_eq .f64
  obtain ⟨z0_0, z0_1, z1_0, z1_1, z2_0, z2_1, z3_0, z3_1, z4_0, z4_1, z4_2, z4_3, z4_4, B0⟩ := bxYc0 w ax ay bx b_y fx fy wx wy _ rfl
  have fR := fzYc5 w ax ay bx b_y fx fy wx wy
  go_enter Tryz.func9, Tryz.ntmps9
  go_wp2_with (first | (go_at_call 19; with_reducible refine (vSub_n _ hB ha).mono ?_; rintro e w1 ⟨sx, sy, hs, rfl, hb⟩; have hq := ckYc1 w ax ay bx b_y fx fy wx wy hb (by refine ⟨?_, ?_, ?_, ?_, ?_, ?_, ?_, ?_, ?_, ?_, ?_, ?_, ?_⟩ <;> first | assumption | go_keep); clear z0_0 z0_1 z1_0 z1_1 z2_0 z2_1 z3_0 z3_1 z4_0 z4_1 z4_2 z4_3 z4_4; obtain ⟨z0_0, z0_1, z1_0, z1_1, z2_0, z2_1, z3_0, z3_1, z4_0, z4_1, z4_2, z4_3, z4_4⟩ := hq; have BF := hb; clear hb; obtain ⟨l0, l1, l2, l3, l4⟩ := ltYc3 BF) | (go_at_call 16; with_reducible refine (vIn_n _ ha).mono ?_; rintro e w2 ⟨rfl, hb⟩; rw [q1]; have hq := ckYc1 w ax ay bx b_y fx fy wx wy hb (by refine ⟨?_, ?_, ?_, ?_, ?_, ?_, ?_, ?_, ?_, ?_, ?_, ?_, ?_⟩ <;> first | assumption | go_keep); clear z0_0 z0_1 z1_0 z1_1 z2_0 z2_1 z3_0 z3_1 z4_0 z4_1 z4_2 z4_3 z4_4; obtain ⟨z0_0, z0_1, z1_0, z1_1, z2_0, z2_1, z3_0, z3_1, z4_0, z4_1, z4_2, z4_3, z4_4⟩ := hq; have k0 : w2.cell? ⟨w1.heap.size, 0, none⟩ = some (.float .f64 sx) := keep hb (by go_keep); have k1 : w2.cell? ⟨w1.heap.size, 1, none⟩ = some (.float .f64 sy) := keep hb (by go_keep); replace BF := gwYc4 w ax ay bx b_y fx fy wx wy hb (by repeat (first | exact BF | apply bl_alloc | apply bl_drewN)); clear hb; obtain ⟨l0, l1, l2, l3, l4⟩ := ltYc3 BF; have lk := World.block_lt_of_cell? _ _ k0; simp only at lk) | (go_at_call 16; with_reducible refine (vIn_n _ hB).mono ?_; rintro e w3 ⟨rfl, hb⟩; rw [q2]; have hq := ckYc2 w w1 ax ay bx b_y fx fy wx wy sx sy hb (by refine ⟨?_, ?_, ?_, ?_, ?_, ?_, ?_, ?_, ?_, ?_, ?_, ?_, ?_, ?_, ?_⟩ <;> first | assumption | go_keep); clear z0_0 z0_1 z1_0 z1_1 z2_0 z2_1 z3_0 z3_1 z4_0 z4_1 z4_2 z4_3 z4_4 k0 k1; obtain ⟨z0_0, z0_1, z1_0, z1_1, z2_0, z2_1, z3_0, z3_1, z4_0, z4_1, z4_2, z4_3, z4_4, k0, k1⟩ := hq; replace BF := gwYc4 w ax ay bx b_y fx fy wx wy hb (by repeat (first | exact BF | apply bl_alloc | apply bl_drewN)); clear hb; obtain ⟨l0, l1, l2, l3, l4⟩ := ltYc3 BF; have lk := World.block_lt_of_cell? _ _ k0; simp only at lk) | (go_at_call 38; refine (vLength_n _ hs).mono ?_; rintro e w4 ⟨rl, hl, rfl, hb⟩; have ql := (lt_is hl min_is).trans q3; have hq := ckYc2 w w1 ax ay bx b_y fx fy wx wy sx sy hb (by refine ⟨?_, ?_, ?_, ?_, ?_, ?_, ?_, ?_, ?_, ?_, ?_, ?_, ?_, ?_, ?_⟩ <;> first | assumption | go_keep); clear z0_0 z0_1 z1_0 z1_1 z2_0 z2_1 z3_0 z3_1 z4_0 z4_1 z4_2 z4_3 z4_4 k0 k1; obtain ⟨z0_0, z0_1, z1_0, z1_1, z2_0, z2_1, z3_0, z3_1, z4_0, z4_1, z4_2, z4_3, z4_4, k0, k1⟩ := hq; replace BF := gwYc4 w ax ay bx b_y fx fy wx wy hb (by repeat (first | exact BF | apply bl_alloc | apply bl_drewN)); clear hb; obtain ⟨l0, l1, l2, l3, l4⟩ := ltYc3 BF; have lk := World.block_lt_of_cell? _ _ k0; simp only at lk) | (go_at_call 18; refine (checkRay_n _ hf hw).mono ?_; rintro e w5 ⟨rfl, hb⟩; have hq := ckYc2 w w1 ax ay bx b_y fx fy wx wy sx sy hb (by refine ⟨?_, ?_, ?_, ?_, ?_, ?_, ?_, ?_, ?_, ?_, ?_, ?_, ?_, ?_, ?_⟩ <;> first | assumption | go_keep); clear z0_0 z0_1 z1_0 z1_1 z2_0 z2_1 z3_0 z3_1 z4_0 z4_1 z4_2 z4_3 z4_4 k0 k1; obtain ⟨z0_0, z0_1, z1_0, z1_1, z2_0, z2_1, z3_0, z3_1, z4_0, z4_1, z4_2, z4_3, z4_4, k0, k1⟩ := hq; replace BF := gwYc4 w ax ay bx b_y fx fy wx wy hb (by repeat (first | exact BF | apply bl_alloc | apply bl_drewN)); clear hb; obtain ⟨l0, l1, l2, l3, l4⟩ := ltYc3 BF; have lk := World.block_lt_of_cell? _ _ k0; simp only at lk) | (go_at_call 39; refine (vCross_n _ hw hs).mono ?_; rintro e w6 ⟨d0, hd, rfl, hb⟩; have qe := (eq_is hd isF_zero).trans qd; have hq := ckYc2 w w1 ax ay bx b_y fx fy wx wy sx sy hb (by refine ⟨?_, ?_, ?_, ?_, ?_, ?_, ?_, ?_, ?_, ?_, ?_, ?_, ?_, ?_, ?_⟩ <;> first | assumption | go_keep); clear z0_0 z0_1 z1_0 z1_1 z2_0 z2_1 z3_0 z3_1 z4_0 z4_1 z4_2 z4_3 z4_4 k0 k1; obtain ⟨z0_0, z0_1, z1_0, z1_1, z2_0, z2_1, z3_0, z3_1, z4_0, z4_1, z4_2, z4_3, z4_4, k0, k1⟩ := hq; replace BF := gwYc4 w ax ay bx b_y fx fy wx wy hb (by repeat (first | exact BF | apply bl_alloc | apply bl_drewN)); clear hb; obtain ⟨l0, l1, l2, l3, l4⟩ := ltYc3 BF; have lk := World.block_lt_of_cell? _ _ k0; simp only at lk) | (go_at_call 19; with_reducible refine (vSub_n _ ha hf).mono ?_; rintro e w7 ⟨vx, vy, hv, rfl, hb⟩; have hq := ckYc2 w w1 ax ay bx b_y fx fy wx wy sx sy hb (by refine ⟨?_, ?_, ?_, ?_, ?_, ?_, ?_, ?_, ?_, ?_, ?_, ?_, ?_, ?_, ?_⟩ <;> first | assumption | go_keep); clear z0_0 z0_1 z1_0 z1_1 z2_0 z2_1 z3_0 z3_1 z4_0 z4_1 z4_2 z4_3 z4_4 k0 k1; obtain ⟨z0_0, z0_1, z1_0, z1_1, z2_0, z2_1, z3_0, z3_1, z4_0, z4_1, z4_2, z4_3, z4_4, k0, k1⟩ := hq; replace BF := gwYc4 w ax ay bx b_y fx fy wx wy hb (by repeat (first | exact BF | apply bl_alloc | apply bl_drewN)); clear hb; obtain ⟨l0, l1, l2, l3, l4⟩ := ltYc3 BF; have lk := World.block_lt_of_cell? _ _ k0; simp only at lk))
  have B2 : Bel w7 (w7.alloc (.cells #[.float .f64 vx, .float .f64 vy] 24)) := bl_alloc (bl_refl _) _ _
  have e0 : (w7.alloc (.cells #[.float .f64 vx, .float .f64 vy] 24)).cell? ⟨w7.heap.size, 0, none⟩ = some (.float .f64 vx) := by rw [World.cell?_alloc_new]; rfl
  have e1 : (w7.alloc (.cells #[.float .f64 vx, .float .f64 vy] 24)).cell? ⟨w7.heap.size, 1, none⟩ = some (.float .f64 vy) := by rw [World.cell?_alloc_new]; rfl
  have yz0_0 := keep B2 z0_0
  have yz0_1 := keep B2 z0_1
  have yz1_0 := keep B2 z1_0
  have yz1_1 := keep B2 z1_1
  have yz2_0 := keep B2 z2_0
  have yz2_1 := keep B2 z2_1
  have yz3_0 := keep B2 z3_0
  have yz3_1 := keep B2 z3_1
  have yz4_0 := keep B2 z4_0
  have yz4_1 := keep B2 z4_1
  have yz4_2 := keep B2 z4_2
  have yz4_3 := keep B2 z4_3
  have yz4_4 := keep B2 z4_4
  replace k0 := keep B2 k0
  replace k1 := keep B2 k1
  clear z0_0 z0_1 z1_0 z1_1 z2_0 z2_1 z3_0 z3_1 z4_0 z4_1 z4_2 z4_3 z4_4
  refine wp_region_mono 12 rfl (fun i W v => match i with | 0 => v = .agg #[.float .f64 vx, .float .f64 vy] | 1 => v = .agg #[.float .f64 sx, .float .f64 sy] | 2 => ∃ p, isF p (crF (suF A F) (suF B A)) ∧ v = .float .f64 p | 3 => v = .float .f64 d0 | 4 => ∃ p, isF p (sgT A B F Y) ∧ v = .float .f64 p | 5 => v = .agg #[.float .f64 vx, .float .f64 vy] | 6 => v = .agg #[.float .f64 wx, .float .f64 wy] | 7 => ∃ p, isF p (crF (suF A F) Y) ∧ v = .float .f64 p | 8 => v = .float .f64 d0 | 9 => ∃ p, isF p (sgU A B F Y) ∧ v = .float .f64 p | 10 => ∃ p, isF p (sgT A B F Y) ∧ v = .float .f64 p | 11 => ∃ p, isF p (sgU A B F Y) ∧ v = .float .f64 p | _ => False) ?A_wm (by kernel_rfl) (by kernel_rfl) ?hA_wm ?hmo_wm ?hq_wm ?ht_wm
  case hA_wm =>
    intro s
    simp only [putL, dstO, Act.put, List.getElem?_toArray, List.getElem?_cons_zero, List.getElem?_cons_succ, Option.bind_some, List.setIfInBounds_toArray, List.set_cons_zero, List.set_cons_succ, if_true]
    all_goals exact rfl
  case hmo_wm =>
    intro i W W' v hi hb h
    rcases (show i = 0 ∨ i = 1 ∨ i = 2 ∨ i = 3 ∨ i = 4 ∨ i = 5 ∨ i = 6 ∨ i = 7 ∨ i = 8 ∨ i = 9 ∨ i = 10 ∨ i = 11 by omega) with rfl | rfl | rfl | rfl | rfl | rfl | rfl | rfl | rfl | rfl | rfl | rfl
    all_goals first | exact h
  case hq_wm =>
    intro i o hi ho s W hs hb K hK
    have d3 := run_quo Tryz.prog; have uz0_0 := keep hb yz0_0; have uz0_1 := keep hb yz0_1; have uz1_0 := keep hb yz1_0; have uz1_1 := keep hb yz1_1; have uz2_0 := keep hb yz2_0; have uz2_1 := keep hb yz2_1; have uz3_0 := keep hb yz3_0; have uz3_1 := keep hb yz3_1; have uz4_0 := keep hb yz4_0; have uz4_1 := keep hb yz4_1; have uz4_2 := keep hb yz4_2; have uz4_3 := keep hb yz4_3; have uz4_4 := keep hb yz4_4; have uk0 := keep hb k0; have uk1 := keep hb k1; have ue0 := keep hb e0; have ue1 := keep hb e1
    rcases (show i = 0 ∨ i = 1 ∨ i = 2 ∨ i = 3 ∨ i = 4 ∨ i = 5 ∨ i = 6 ∨ i = 7 ∨ i = 8 ∨ i = 9 ∨ i = 10 ∨ i = 11 by omega) with rfl | rfl | rfl | rfl | rfl | rfl | rfl | rfl | rfl | rfl | rfl | rfl
    all_goals
      cases ho
    rotate_left 2
    have e0 : s 0 = _ := hs 0 (by decide) (by kernel_rfl)
    have e1 : s 1 = _ := hs 1 (by decide) (by kernel_rfl)
    simp only [e0, e1] at hK ⊢
    rotate_left 2
    obtain ⟨p2, h2, e2⟩ := hs 2 (by decide) (by kernel_rfl)
    have e3 : s 3 = _ := hs 3 (by decide) (by kernel_rfl)
    simp only [e2, e3] at hK ⊢
    rotate_left 3
    have e5 : s 5 = _ := hs 5 (by decide) (by kernel_rfl)
    have e6 : s 6 = _ := hs 6 (by decide) (by kernel_rfl)
    simp only [e5, e6] at hK ⊢
    rotate_left 2
    obtain ⟨p7, h7, e7⟩ := hs 7 (by decide) (by kernel_rfl)
    have e8 : s 8 = _ := hs 8 (by decide) (by kernel_rfl)
    simp only [e7, e8] at hK ⊢
    rotate_left 1
    obtain ⟨p4, h4, e4⟩ := hs 4 (by decide) (by kernel_rfl)
    simp only [e4] at hK ⊢
    rotate_left 1
    obtain ⟨p9, h9, e9⟩ := hs 9 (by decide) (by kernel_rfl)
    simp only [e9] at hK ⊢
    rotate_left 1
    all_goals
      simp only [Act.put, List.setIfInBounds_toArray, List.set_cons_zero, List.set_cons_succ] at hK
      clear hs
      go_simp
      all_goals (try go_wp2_with (first | (go_at_call 39; with_reducible refine (vCross_n _ hv hs).mono ?_; rintro e w' ⟨p, h2, rfl, hb1⟩) | (go_at_call 39; with_reducible refine (vCross_n _ hv hw).mono ?_; rintro e w' ⟨p, h7, rfl, hb1⟩)))
      all_goals first | exact hK.out _ _ ⟨_, h2, rfl⟩ hb1 | exact hK.out _ _ ⟨_, h7, rfl⟩ hb1 | exact hK.out _ _ ⟨_, o_is _ h2 hd, rfl⟩ (by first | exact bl_refl _ | exact bl_drewN (bl_refl _) _) | exact hK.out _ _ ⟨_, o_is _ h7 hd, rfl⟩ (by first | exact bl_refl _ | exact bl_drewN (bl_refl _) _) | exact hK.out _ _ ⟨_, h4, rfl⟩ (bl_refl _) | exact hK.out _ _ ⟨_, h9, rfl⟩ (bl_refl _) | exact hK.out _ _ rfl (bl_refl _) | exact hK.out _ _ rfl (by assumption) | exact hK.out _ _ (by assumption) (by assumption)
  case ht_wm =>
    intro s w8 hs hb
    have e0 : s 0 = _ := hs 0 (by decide)
    have e1 : s 1 = _ := hs 1 (by decide)
    obtain ⟨_, _, e2⟩ := hs 2 (by decide)
    have e3 : s 3 = _ := hs 3 (by decide)
    obtain ⟨_, _, e4⟩ := hs 4 (by decide)
    have e5 : s 5 = _ := hs 5 (by decide)
    have e6 : s 6 = _ := hs 6 (by decide)
    obtain ⟨_, _, e7⟩ := hs 7 (by decide)
    have e8 : s 8 = _ := hs 8 (by decide)
    obtain ⟨_, _, e9⟩ := hs 9 (by decide)
    obtain ⟨t0, ht0, e10⟩ := hs 10 (by decide)
    obtain ⟨u0, hu0, e11⟩ := hs 11 (by decide)
    simp only [e0, e1, e2, e3, e4, e5, e6, e7, e8, e9, e10, e11]
    clear hs e0 e1 e2 e3 e4 e5 e6 e7 e8 e9 e10 e11
    have z0_0 := keep hb yz0_0; have z0_1 := keep hb yz0_1; have z1_0 := keep hb yz1_0; have z1_1 := keep hb yz1_1; have z2_0 := keep hb yz2_0; have z2_1 := keep hb yz2_1; have z3_0 := keep hb yz3_0; have z3_1 := keep hb yz3_1; have z4_0 := keep hb yz4_0; have z4_1 := keep hb yz4_1; have z4_2 := keep hb yz4_2; have z4_3 := keep hb yz4_3; have z4_4 := keep hb yz4_4
    replace k0 := keep hb k0
    replace k1 := keep hb k1
    replace BF := bl_trans (bl_trans BF B2) hb
    have lk := World.block_lt_of_cell? _ _ k0
    simp only at lk
    clear hb B2 e0 e1 yz0_0 yz0_1 yz1_0 yz1_1 yz2_0 yz2_1 yz3_0 yz3_1 yz4_0 yz4_1 yz4_2 yz4_3 yz4_4
    go_wp2_with (first | (go_at_call 25; with_reducible refine (isPart_n _ ht0).mono ?_; rintro e w9 ⟨rfl, hW9⟩; rw [hW9, qp]) | (go_at_call 25; with_reducible refine (isPart_n _ hu0).mono ?_; rintro e w9 ⟨rfl, hW9⟩; rw [hW9, qu]) | (go_at_call 23; refine (nothing_n _).mono ?_; rintro e w9 ⟨rfl, hb⟩; have hq := ckYc1 w ax ay bx b_y fx fy wx wy hb (by refine ⟨?_, ?_, ?_, ?_, ?_, ?_, ?_, ?_, ?_, ?_, ?_, ?_, ?_⟩ <;> first | assumption | go_keep); clear z0_0 z0_1 z1_0 z1_1 z2_0 z2_1 z3_0 z3_1 z4_0 z4_1 z4_2 z4_3 z4_4; obtain ⟨z0_0, z0_1, z1_0, z1_1, z2_0, z2_1, z3_0, z3_1, z4_0, z4_1, z4_2, z4_3, z4_4⟩ := hq; replace BF := gwYc4 w ax ay bx b_y fx fy wx wy hb (by repeat (first | exact BF | apply bl_alloc | apply bl_drewN)); clear hb; have fE : ∀ o, w9.frozen? ⟨w.heap.size + 1 + 1 + 1 + 1, o, none⟩ = false := fun o => (BF.2 _).trans (fR o)))
    refine fin5 (G := bodyPost _ _ _ _ _) (by repeat (first | (with_reducible exact z4_0) | (with_reducible refine up_drewN ?_) | (with_reducible refine up_alloc ?_))) (by repeat (first | (with_reducible exact z4_1) | (with_reducible refine up_drewN ?_) | (with_reducible refine up_alloc ?_))) (by repeat (first | (with_reducible exact z4_2) | (with_reducible refine up_drewN ?_) | (with_reducible refine up_alloc ?_))) (by repeat (first | (with_reducible exact z4_3) | (with_reducible refine up_drewN ?_) | (with_reducible refine up_alloc ?_))) (by repeat (first | (with_reducible exact z4_4) | (with_reducible refine up_drewN ?_) | (with_reducible refine up_alloc ?_))) (by have B := (bl_trans B0 BF); repeat (first | (with_reducible exact B) | (with_reducible refine bl_drewN ?_ _) | (with_reducible refine bl_alloc ?_ _ _))) (by omega) fun X r0 r1 r2 r3 r4 bX => ?_
    refine bodyPost_ret (segment_res _ _ _ _ _ _ _ _ _ _ rfl rfl rfl r0 r1 r2 r3 r4) rfl ⟨_, _, _, _, _, ?_, rfl, bX⟩
    exact zeH_is


set_option maxRecDepth 100000 in
set_option maxHeartbeats 2000000 in
theorem segment_hit {ax ay bx b_y fx fy wx wy : Nat} {A B F Y : Vp} (w : World) (ha : isP ax ay A) (hB : isP bx b_y B) (hf : isP fx fy F) (hw : isP wx wy Y) (q1 : inB A.1 A.2 = true) (q2 : inB B.1 B.2 = true) (q3 : ltK .f64 (lnF (suF B A)) 4472074429978902528 = false) (he : ryE F Y = 0) (qd : eqK .f64 (sgD A B Y) 0 = false) (qp : paB (sgT A B F Y) = true) (qu : paB (sgU A B F Y) = true) : Calls Tryz.prog 9 #[.agg #[.float .f64 ax, .float .f64 ay], .agg #[.float .f64 bx, .float .f64 b_y], .agg #[.float .f64 fx, .float .f64 fy], .agg #[.float .f64 wx, .float .f64 wy]] w fun e w' => ∃ hx9 hy9 nx9 ny9 ht9 : Nat, isH hx9 hy9 nx9 ny9 ht9 (((true, sgH A B F Y)).2) ∧ e = .returned (.tuple #[.agg #[.float .f64 hx9, .float .f64 hy9, .float .f64 nx9, .float .f64 ny9, .float .f64 ht9], .bool ((true, sgH A B F Y)).1, .int .i64 (0)]) ∧ Bel w w' := by
  have c1 := cmp_lt .f64
  have c5 := cmp_eq .f64
  obtain ⟨z0_0, z0_1, z1_0, z1_1, z2_0, z2_1, z3_0, z3_1, z4_0, z4_1, z4_2, z4_3, z4_4, B0⟩ := bxYc0 w ax ay bx b_y fx fy wx wy _ rfl
  have fR := fzYc5 w ax ay bx b_y fx fy wx wy
  go_enter Tryz.func9, Tryz.ntmps9
  go_wp2_with (first | (go_at_call 19; with_reducible refine (vSub_n _ hB ha).mono ?_; rintro e w1 ⟨sx, sy, hs, rfl, hb⟩; have hq := ckYc1 w ax ay bx b_y fx fy wx wy hb (by refine ⟨?_, ?_, ?_, ?_, ?_, ?_, ?_, ?_, ?_, ?_, ?_, ?_, ?_⟩ <;> first | assumption | go_keep); clear z0_0 z0_1 z1_0 z1_1 z2_0 z2_1 z3_0 z3_1 z4_0 z4_1 z4_2 z4_3 z4_4; obtain ⟨z0_0, z0_1, z1_0, z1_1, z2_0, z2_1, z3_0, z3_1, z4_0, z4_1, z4_2, z4_3, z4_4⟩ := hq; have BF := hb; clear hb; obtain ⟨l0, l1, l2, l3, l4⟩ := ltYc3 BF) | (go_at_call 16; with_reducible refine (vIn_n _ ha).mono ?_; rintro e w2 ⟨rfl, hb⟩; rw [q1]; have hq := ckYc1 w ax ay bx b_y fx fy wx wy hb (by refine ⟨?_, ?_, ?_, ?_, ?_, ?_, ?_, ?_, ?_, ?_, ?_, ?_, ?_⟩ <;> first | assumption | go_keep); clear z0_0 z0_1 z1_0 z1_1 z2_0 z2_1 z3_0 z3_1 z4_0 z4_1 z4_2 z4_3 z4_4; obtain ⟨z0_0, z0_1, z1_0, z1_1, z2_0, z2_1, z3_0, z3_1, z4_0, z4_1, z4_2, z4_3, z4_4⟩ := hq; have k0 : w2.cell? ⟨w1.heap.size, 0, none⟩ = some (.float .f64 sx) := keep hb (by go_keep); have k1 : w2.cell? ⟨w1.heap.size, 1, none⟩ = some (.float .f64 sy) := keep hb (by go_keep); replace BF := gwYc4 w ax ay bx b_y fx fy wx wy hb (by repeat (first | exact BF | apply bl_alloc | apply bl_drewN)); clear hb; obtain ⟨l0, l1, l2, l3, l4⟩ := ltYc3 BF; have lk := World.block_lt_of_cell? _ _ k0; simp only at lk) | (go_at_call 16; with_reducible refine (vIn_n _ hB).mono ?_; rintro e w3 ⟨rfl, hb⟩; rw [q2]; have hq := ckYc2 w w1 ax ay bx b_y fx fy wx wy sx sy hb (by refine ⟨?_, ?_, ?_, ?_, ?_, ?_, ?_, ?_, ?_, ?_, ?_, ?_, ?_, ?_, ?_⟩ <;> first | assumption | go_keep); clear z0_0 z0_1 z1_0 z1_1 z2_0 z2_1 z3_0 z3_1 z4_0 z4_1 z4_2 z4_3 z4_4 k0 k1; obtain ⟨z0_0, z0_1, z1_0, z1_1, z2_0, z2_1, z3_0, z3_1, z4_0, z4_1, z4_2, z4_3, z4_4, k0, k1⟩ := hq; replace BF := gwYc4 w ax ay bx b_y fx fy wx wy hb (by repeat (first | exact BF | apply bl_alloc | apply bl_drewN)); clear hb; obtain ⟨l0, l1, l2, l3, l4⟩ := ltYc3 BF; have lk := World.block_lt_of_cell? _ _ k0; simp only at lk) | (go_at_call 38; refine (vLength_n _ hs).mono ?_; rintro e w4 ⟨rl, hl, rfl, hb⟩; have ql := (lt_is hl min_is).trans q3; have hq := ckYc2 w w1 ax ay bx b_y fx fy wx wy sx sy hb (by refine ⟨?_, ?_, ?_, ?_, ?_, ?_, ?_, ?_, ?_, ?_, ?_, ?_, ?_, ?_, ?_⟩ <;> first | assumption | go_keep); clear z0_0 z0_1 z1_0 z1_1 z2_0 z2_1 z3_0 z3_1 z4_0 z4_1 z4_2 z4_3 z4_4 k0 k1; obtain ⟨z0_0, z0_1, z1_0, z1_1, z2_0, z2_1, z3_0, z3_1, z4_0, z4_1, z4_2, z4_3, z4_4, k0, k1⟩ := hq; replace BF := gwYc4 w ax ay bx b_y fx fy wx wy hb (by repeat (first | exact BF | apply bl_alloc | apply bl_drewN)); clear hb; obtain ⟨l0, l1, l2, l3, l4⟩ := ltYc3 BF; have lk := World.block_lt_of_cell? _ _ k0; simp only at lk) | (go_at_call 18; refine (checkRay_n _ hf hw).mono ?_; rintro e w5 ⟨rfl, hb⟩; have hq := ckYc2 w w1 ax ay bx b_y fx fy wx wy sx sy hb (by refine ⟨?_, ?_, ?_, ?_, ?_, ?_, ?_, ?_, ?_, ?_, ?_, ?_, ?_, ?_, ?_⟩ <;> first | assumption | go_keep); clear z0_0 z0_1 z1_0 z1_1 z2_0 z2_1 z3_0 z3_1 z4_0 z4_1 z4_2 z4_3 z4_4 k0 k1; obtain ⟨z0_0, z0_1, z1_0, z1_1, z2_0, z2_1, z3_0, z3_1, z4_0, z4_1, z4_2, z4_3, z4_4, k0, k1⟩ := hq; replace BF := gwYc4 w ax ay bx b_y fx fy wx wy hb (by repeat (first | exact BF | apply bl_alloc | apply bl_drewN)); clear hb; obtain ⟨l0, l1, l2, l3, l4⟩ := ltYc3 BF; have lk := World.block_lt_of_cell? _ _ k0; simp only at lk) | (go_at_call 39; refine (vCross_n _ hw hs).mono ?_; rintro e w6 ⟨d0, hd, rfl, hb⟩; have qe := (eq_is hd isF_zero).trans qd; have hq := ckYc2 w w1 ax ay bx b_y fx fy wx wy sx sy hb (by refine ⟨?_, ?_, ?_, ?_, ?_, ?_, ?_, ?_, ?_, ?_, ?_, ?_, ?_, ?_, ?_⟩ <;> first | assumption | go_keep); clear z0_0 z0_1 z1_0 z1_1 z2_0 z2_1 z3_0 z3_1 z4_0 z4_1 z4_2 z4_3 z4_4 k0 k1; obtain ⟨z0_0, z0_1, z1_0, z1_1, z2_0, z2_1, z3_0, z3_1, z4_0, z4_1, z4_2, z4_3, z4_4, k0, k1⟩ := hq; replace BF := gwYc4 w ax ay bx b_y fx fy wx wy hb (by repeat (first | exact BF | apply bl_alloc | apply bl_drewN)); clear hb; obtain ⟨l0, l1, l2, l3, l4⟩ := ltYc3 BF; have lk := World.block_lt_of_cell? _ _ k0; simp only at lk) | (go_at_call 19; with_reducible refine (vSub_n _ ha hf).mono ?_; rintro e w7 ⟨vx, vy, hv, rfl, hb⟩; have hq := ckYc2 w w1 ax ay bx b_y fx fy wx wy sx sy hb (by refine ⟨?_, ?_, ?_, ?_, ?_, ?_, ?_, ?_, ?_, ?_, ?_, ?_, ?_, ?_, ?_⟩ <;> first | assumption | go_keep); clear z0_0 z0_1 z1_0 z1_1 z2_0 z2_1 z3_0 z3_1 z4_0 z4_1 z4_2 z4_3 z4_4 k0 k1; obtain ⟨z0_0, z0_1, z1_0, z1_1, z2_0, z2_1, z3_0, z3_1, z4_0, z4_1, z4_2, z4_3, z4_4, k0, k1⟩ := hq; replace BF := gwYc4 w ax ay bx b_y fx fy wx wy hb (by repeat (first | exact BF | apply bl_alloc | apply bl_drewN)); clear hb; obtain ⟨l0, l1, l2, l3, l4⟩ := ltYc3 BF; have lk := World.block_lt_of_cell? _ _ k0; simp only at lk))
  have B2 : Bel w7 (w7.alloc (.cells #[.float .f64 vx, .float .f64 vy] 24)) := bl_alloc (bl_refl _) _ _
  have e0 : (w7.alloc (.cells #[.float .f64 vx, .float .f64 vy] 24)).cell? ⟨w7.heap.size, 0, none⟩ = some (.float .f64 vx) := by rw [World.cell?_alloc_new]; rfl
  have e1 : (w7.alloc (.cells #[.float .f64 vx, .float .f64 vy] 24)).cell? ⟨w7.heap.size, 1, none⟩ = some (.float .f64 vy) := by rw [World.cell?_alloc_new]; rfl
  have yz0_0 := keep B2 z0_0
  have yz0_1 := keep B2 z0_1
  have yz1_0 := keep B2 z1_0
  have yz1_1 := keep B2 z1_1
  have yz2_0 := keep B2 z2_0
  have yz2_1 := keep B2 z2_1
  have yz3_0 := keep B2 z3_0
  have yz3_1 := keep B2 z3_1
  have yz4_0 := keep B2 z4_0
  have yz4_1 := keep B2 z4_1
  have yz4_2 := keep B2 z4_2
  have yz4_3 := keep B2 z4_3
  have yz4_4 := keep B2 z4_4
  replace k0 := keep B2 k0
  replace k1 := keep B2 k1
  clear z0_0 z0_1 z1_0 z1_1 z2_0 z2_1 z3_0 z3_1 z4_0 z4_1 z4_2 z4_3 z4_4
  refine wp_region_mono 12 rfl (fun i W v => match i with | 0 => v = .agg #[.float .f64 vx, .float .f64 vy] | 1 => v = .agg #[.float .f64 sx, .float .f64 sy] | 2 => ∃ p, isF p (crF (suF A F) (suF B A)) ∧ v = .float .f64 p | 3 => v = .float .f64 d0 | 4 => ∃ p, isF p (sgT A B F Y) ∧ v = .float .f64 p | 5 => v = .agg #[.float .f64 vx, .float .f64 vy] | 6 => v = .agg #[.float .f64 wx, .float .f64 wy] | 7 => ∃ p, isF p (crF (suF A F) Y) ∧ v = .float .f64 p | 8 => v = .float .f64 d0 | 9 => ∃ p, isF p (sgU A B F Y) ∧ v = .float .f64 p | 10 => ∃ p, isF p (sgT A B F Y) ∧ v = .float .f64 p | 11 => ∃ p, isF p (sgU A B F Y) ∧ v = .float .f64 p | _ => False) ?A_wm (by kernel_rfl) (by kernel_rfl) ?hA_wm ?hmo_wm ?hq_wm ?ht_wm
  case hA_wm =>
    intro s
    simp only [putL, dstO, Act.put, List.getElem?_toArray, List.getElem?_cons_zero, List.getElem?_cons_succ, Option.bind_some, List.setIfInBounds_toArray, List.set_cons_zero, List.set_cons_succ, if_true]
    all_goals exact rfl
  case hmo_wm =>
    intro i W W' v hi hb h
    rcases (show i = 0 ∨ i = 1 ∨ i = 2 ∨ i = 3 ∨ i = 4 ∨ i = 5 ∨ i = 6 ∨ i = 7 ∨ i = 8 ∨ i = 9 ∨ i = 10 ∨ i = 11 by omega) with rfl | rfl | rfl | rfl | rfl | rfl | rfl | rfl | rfl | rfl | rfl | rfl
    all_goals first | exact h
  case hq_wm =>
    intro i o hi ho s W hs hb K hK
    have d3 := run_quo Tryz.prog; have uz0_0 := keep hb yz0_0; have uz0_1 := keep hb yz0_1; have uz1_0 := keep hb yz1_0; have uz1_1 := keep hb yz1_1; have uz2_0 := keep hb yz2_0; have uz2_1 := keep hb yz2_1; have uz3_0 := keep hb yz3_0; have uz3_1 := keep hb yz3_1; have uz4_0 := keep hb yz4_0; have uz4_1 := keep hb yz4_1; have uz4_2 := keep hb yz4_2; have uz4_3 := keep hb yz4_3; have uz4_4 := keep hb yz4_4; have uk0 := keep hb k0; have uk1 := keep hb k1; have ue0 := keep hb e0; have ue1 := keep hb e1
    rcases (show i = 0 ∨ i = 1 ∨ i = 2 ∨ i = 3 ∨ i = 4 ∨ i = 5 ∨ i = 6 ∨ i = 7 ∨ i = 8 ∨ i = 9 ∨ i = 10 ∨ i = 11 by omega) with rfl | rfl | rfl | rfl | rfl | rfl | rfl | rfl | rfl | rfl | rfl | rfl
    all_goals
      cases ho
    rotate_left 2
    have e0 : s 0 = _ := hs 0 (by decide) (by kernel_rfl)
    have e1 : s 1 = _ := hs 1 (by decide) (by kernel_rfl)
    simp only [e0, e1] at hK ⊢
    rotate_left 2
    obtain ⟨p2, h2, e2⟩ := hs 2 (by decide) (by kernel_rfl)
    have e3 : s 3 = _ := hs 3 (by decide) (by kernel_rfl)
    simp only [e2, e3] at hK ⊢
    rotate_left 3
    have e5 : s 5 = _ := hs 5 (by decide) (by kernel_rfl)
    have e6 : s 6 = _ := hs 6 (by decide) (by kernel_rfl)
    simp only [e5, e6] at hK ⊢
    rotate_left 2
    obtain ⟨p7, h7, e7⟩ := hs 7 (by decide) (by kernel_rfl)
    have e8 : s 8 = _ := hs 8 (by decide) (by kernel_rfl)
    simp only [e7, e8] at hK ⊢
    rotate_left 1
    obtain ⟨p4, h4, e4⟩ := hs 4 (by decide) (by kernel_rfl)
    simp only [e4] at hK ⊢
    rotate_left 1
    obtain ⟨p9, h9, e9⟩ := hs 9 (by decide) (by kernel_rfl)
    simp only [e9] at hK ⊢
    rotate_left 1
    all_goals
      simp only [Act.put, List.setIfInBounds_toArray, List.set_cons_zero, List.set_cons_succ] at hK
      clear hs
      go_simp
      all_goals (try go_wp2_with (first | (go_at_call 39; with_reducible refine (vCross_n _ hv hs).mono ?_; rintro e w' ⟨p, h2, rfl, hb1⟩) | (go_at_call 39; with_reducible refine (vCross_n _ hv hw).mono ?_; rintro e w' ⟨p, h7, rfl, hb1⟩)))
      all_goals first | exact hK.out _ _ ⟨_, h2, rfl⟩ hb1 | exact hK.out _ _ ⟨_, h7, rfl⟩ hb1 | exact hK.out _ _ ⟨_, o_is _ h2 hd, rfl⟩ (by first | exact bl_refl _ | exact bl_drewN (bl_refl _) _) | exact hK.out _ _ ⟨_, o_is _ h7 hd, rfl⟩ (by first | exact bl_refl _ | exact bl_drewN (bl_refl _) _) | exact hK.out _ _ ⟨_, h4, rfl⟩ (bl_refl _) | exact hK.out _ _ ⟨_, h9, rfl⟩ (bl_refl _) | exact hK.out _ _ rfl (bl_refl _) | exact hK.out _ _ rfl (by assumption) | exact hK.out _ _ (by assumption) (by assumption)
  case ht_wm =>
    intro s w8 hs hb
    have e0 : s 0 = _ := hs 0 (by decide)
    have e1 : s 1 = _ := hs 1 (by decide)
    obtain ⟨_, _, e2⟩ := hs 2 (by decide)
    have e3 : s 3 = _ := hs 3 (by decide)
    obtain ⟨_, _, e4⟩ := hs 4 (by decide)
    have e5 : s 5 = _ := hs 5 (by decide)
    have e6 : s 6 = _ := hs 6 (by decide)
    obtain ⟨_, _, e7⟩ := hs 7 (by decide)
    have e8 : s 8 = _ := hs 8 (by decide)
    obtain ⟨_, _, e9⟩ := hs 9 (by decide)
    obtain ⟨t0, ht0, e10⟩ := hs 10 (by decide)
    obtain ⟨u0, hu0, e11⟩ := hs 11 (by decide)
    simp only [e0, e1, e2, e3, e4, e5, e6, e7, e8, e9, e10, e11]
    clear hs e0 e1 e2 e3 e4 e5 e6 e7 e8 e9 e10 e11
    have z0_0 := keep hb yz0_0; have z0_1 := keep hb yz0_1; have z1_0 := keep hb yz1_0; have z1_1 := keep hb yz1_1; have z2_0 := keep hb yz2_0; have z2_1 := keep hb yz2_1; have z3_0 := keep hb yz3_0; have z3_1 := keep hb yz3_1; have z4_0 := keep hb yz4_0; have z4_1 := keep hb yz4_1; have z4_2 := keep hb yz4_2; have z4_3 := keep hb yz4_3; have z4_4 := keep hb yz4_4
    replace k0 := keep hb k0
    replace k1 := keep hb k1
    replace BF := bl_trans (bl_trans BF B2) hb
    have lk := World.block_lt_of_cell? _ _ k0
    simp only at lk
    clear hb B2 e0 e1 yz0_0 yz0_1 yz1_0 yz1_1 yz2_0 yz2_1 yz3_0 yz3_1 yz4_0 yz4_1 yz4_2 yz4_3 yz4_4
    go_wp2_with (first | (go_at_call 25; with_reducible refine (isPart_n _ ht0).mono ?_; rintro e w9 ⟨rfl, hW9⟩; rw [hW9, qp]) | (go_at_call 25; with_reducible refine (isPart_n _ hu0).mono ?_; rintro e w9 ⟨rfl, hW9⟩; rw [hW9, qu]))
    have hzz := BF.size
    simp only [World.size_alloc] at hzz
    have nk : w1.heap.size ≠ w.heap.size + 1 + 1 + 1 + 1 := by omega
    have yz0 := True.intro
    replace fR : ∀ o, w8.frozen? ⟨w.heap.size + 1 + 1 + 1 + 1, o, none⟩ = false := fun o => (BF.2 _).trans (fR o)
    refine wp_region_ret 12 9 8 rfl (fun i v => match i with | 0 => v = .agg #[.float .f64 fx, .float .f64 fy] | 1 => v = .float .f64 t0 | 2 => v = .agg #[.float .f64 wx, .float .f64 wy] | 3 => ∃ x y, isP x y (moF F (sgT A B F Y) Y) ∧ v = .agg #[.float .f64 x, .float .f64 y] | 4 => v = .agg #[.float .f64 sx, .float .f64 sy] | 5 => v = .agg #[.float .f64 wx, .float .f64 wy] | 6 => ∃ x y, isP x y (fcF (suF B A) Y) ∧ v = .agg #[.float .f64 x, .float .f64 y] | 7 => v = .float .f64 t0 | 8 => ∃ x y u q, isP x y (moF F (sgT A B F Y) Y) ∧ isP u q (fcF (suF B A) Y) ∧ v = .agg #[.float .f64 x, .float .f64 y, .float .f64 u, .float .f64 q, .float .f64 t0] | 10 => v = .bool true | 11 => v = .int .i64 0 | _ => False) (putN (w.heap.size + 1 + 1 + 1 + 1) 5) ?A_wo (by kernel_rfl) (by kernel_rfl) (by kernel_rfl) (by decide) (by decide) ?hA_wo ?hst_wo ?hq_wo ?ht_wo
    case hA_wo =>
      intro s
      simp only [putL, dstO, Act.put, List.getElem?_toArray, List.getElem?_cons_zero, List.getElem?_cons_succ, Option.bind_some, List.setIfInBounds_toArray, List.set_cons_zero, List.set_cons_succ, if_true]
      all_goals exact rfl
    case hst_wo =>
      intro o ho s hs W hb K hK
      cases ho
      have u0 := keep hb z4_0; have u1 := keep hb z4_1; have u2 := keep hb z4_2; have u3 := keep hb z4_3; have u4 := keep hb z4_4; have u9 := fun o => (hb.2 ⟨w.heap.size + 1 + 1 + 1 + 1, o, none⟩).trans (fR o)
      obtain ⟨x, y, u, q, h8, g8, e8⟩ := hs 8 (by decide) (by kernel_rfl)
      simp only [e8] at hK ⊢
      clear hs
      go_simp
      exact hK.out
    case hq_wo =>
      intro i o hi hne ho s hs W hb K hK
      have uk0 := once_keepN hb k0 (by simp only; omega); have uk1 := once_keepN hb k1 (by simp only; omega); have uz0_0 := once_keepN hb z0_0 (by simp only; omega); have uz0_1 := once_keepN hb z0_1 (by simp only; omega); have uz1_0 := once_keepN hb z1_0 (by simp only; omega); have uz1_1 := once_keepN hb z1_1 (by simp only; omega); have uz2_0 := once_keepN hb z2_0 (by simp only; omega); have uz2_1 := once_keepN hb z2_1 (by simp only; omega); have uz3_0 := once_keepN hb z3_0 (by simp only; omega); have uz3_1 := once_keepN hb z3_1 (by simp only; omega)
      rcases (show i = 0 ∨ i = 1 ∨ i = 2 ∨ i = 3 ∨ i = 4 ∨ i = 5 ∨ i = 6 ∨ i = 7 ∨ i = 8 ∨ i = 9 ∨ i = 10 ∨ i = 11 by omega) with rfl | rfl | rfl | rfl | rfl | rfl | rfl | rfl | rfl | rfl | rfl | rfl
      · cases ho
        simp only [Act.put, List.setIfInBounds_toArray, List.set_cons_zero, List.set_cons_succ] at hK
        clear hs hne
        go_simp
        all_goals (try go_wp2_with (first | (go_at_call 26; refine (vMore_n _ hf ht0 hw).mono ?_; rintro e w' ⟨x, y, h3, rfl, hb1⟩) | (go_at_call 40; refine (facing_n _ hs hw).mono ?_; rintro e w' ⟨u, q, h6, rfl, hb1⟩)))
        all_goals first | exact hK.out _ _ ⟨_, _, h3, rfl⟩ hb1 | exact hK.out _ _ ⟨_, _, h6, rfl⟩ hb1 | exact hK.out _ _ ⟨_, _, _, _, h3, h6, rfl⟩ (bl_refl _) | exact hK.out _ _ rfl (bl_refl _) | exact hK.out _ _ rfl (by assumption) | exact hK.out _ _ (by assumption) (by assumption)
      · cases ho
        simp only [Act.put, List.setIfInBounds_toArray, List.set_cons_zero, List.set_cons_succ] at hK
        clear hs hne
        go_simp
        all_goals (try go_wp2_with (first | (go_at_call 26; refine (vMore_n _ hf ht0 hw).mono ?_; rintro e w' ⟨x, y, h3, rfl, hb1⟩) | (go_at_call 40; refine (facing_n _ hs hw).mono ?_; rintro e w' ⟨u, q, h6, rfl, hb1⟩)))
        all_goals first | exact hK.out _ _ ⟨_, _, h3, rfl⟩ hb1 | exact hK.out _ _ ⟨_, _, h6, rfl⟩ hb1 | exact hK.out _ _ ⟨_, _, _, _, h3, h6, rfl⟩ (bl_refl _) | exact hK.out _ _ rfl (bl_refl _) | exact hK.out _ _ rfl (by assumption) | exact hK.out _ _ (by assumption) (by assumption)
      · cases ho
        simp only [Act.put, List.setIfInBounds_toArray, List.set_cons_zero, List.set_cons_succ] at hK
        clear hs hne
        go_simp
        all_goals (try go_wp2_with (first | (go_at_call 26; refine (vMore_n _ hf ht0 hw).mono ?_; rintro e w' ⟨x, y, h3, rfl, hb1⟩) | (go_at_call 40; refine (facing_n _ hs hw).mono ?_; rintro e w' ⟨u, q, h6, rfl, hb1⟩)))
        all_goals first | exact hK.out _ _ ⟨_, _, h3, rfl⟩ hb1 | exact hK.out _ _ ⟨_, _, h6, rfl⟩ hb1 | exact hK.out _ _ ⟨_, _, _, _, h3, h6, rfl⟩ (bl_refl _) | exact hK.out _ _ rfl (bl_refl _) | exact hK.out _ _ rfl (by assumption) | exact hK.out _ _ (by assumption) (by assumption)
      · cases ho
        have e0 : s 0 = _ := hs 0 (by decide) (by decide) (by kernel_rfl)
        have e1 : s 1 = _ := hs 1 (by decide) (by decide) (by kernel_rfl)
        have e2 : s 2 = _ := hs 2 (by decide) (by decide) (by kernel_rfl)
        simp only [e0, e1, e2] at hK ⊢
        simp only [Act.put, List.setIfInBounds_toArray, List.set_cons_zero, List.set_cons_succ] at hK
        clear hs hne
        go_simp
        all_goals (try go_wp2_with (first | (go_at_call 26; refine (vMore_n _ hf ht0 hw).mono ?_; rintro e w' ⟨x, y, h3, rfl, hb1⟩) | (go_at_call 40; refine (facing_n _ hs hw).mono ?_; rintro e w' ⟨u, q, h6, rfl, hb1⟩)))
        all_goals first | exact hK.out _ _ ⟨_, _, h3, rfl⟩ hb1 | exact hK.out _ _ ⟨_, _, h6, rfl⟩ hb1 | exact hK.out _ _ ⟨_, _, _, _, h3, h6, rfl⟩ (bl_refl _) | exact hK.out _ _ rfl (bl_refl _) | exact hK.out _ _ rfl (by assumption) | exact hK.out _ _ (by assumption) (by assumption)
      · cases ho
        simp only [Act.put, List.setIfInBounds_toArray, List.set_cons_zero, List.set_cons_succ] at hK
        clear hs hne
        go_simp
        all_goals (try go_wp2_with (first | (go_at_call 26; refine (vMore_n _ hf ht0 hw).mono ?_; rintro e w' ⟨x, y, h3, rfl, hb1⟩) | (go_at_call 40; refine (facing_n _ hs hw).mono ?_; rintro e w' ⟨u, q, h6, rfl, hb1⟩)))
        all_goals first | exact hK.out _ _ ⟨_, _, h3, rfl⟩ hb1 | exact hK.out _ _ ⟨_, _, h6, rfl⟩ hb1 | exact hK.out _ _ ⟨_, _, _, _, h3, h6, rfl⟩ (bl_refl _) | exact hK.out _ _ rfl (bl_refl _) | exact hK.out _ _ rfl (by assumption) | exact hK.out _ _ (by assumption) (by assumption)
      · cases ho
        simp only [Act.put, List.setIfInBounds_toArray, List.set_cons_zero, List.set_cons_succ] at hK
        clear hs hne
        go_simp
        all_goals (try go_wp2_with (first | (go_at_call 26; refine (vMore_n _ hf ht0 hw).mono ?_; rintro e w' ⟨x, y, h3, rfl, hb1⟩) | (go_at_call 40; refine (facing_n _ hs hw).mono ?_; rintro e w' ⟨u, q, h6, rfl, hb1⟩)))
        all_goals first | exact hK.out _ _ ⟨_, _, h3, rfl⟩ hb1 | exact hK.out _ _ ⟨_, _, h6, rfl⟩ hb1 | exact hK.out _ _ ⟨_, _, _, _, h3, h6, rfl⟩ (bl_refl _) | exact hK.out _ _ rfl (bl_refl _) | exact hK.out _ _ rfl (by assumption) | exact hK.out _ _ (by assumption) (by assumption)
      · cases ho
        have e4 : s 4 = _ := hs 4 (by decide) (by decide) (by kernel_rfl)
        have e5 : s 5 = _ := hs 5 (by decide) (by decide) (by kernel_rfl)
        simp only [e4, e5] at hK ⊢
        simp only [Act.put, List.setIfInBounds_toArray, List.set_cons_zero, List.set_cons_succ] at hK
        clear hs hne
        go_simp
        all_goals (try go_wp2_with (first | (go_at_call 26; refine (vMore_n _ hf ht0 hw).mono ?_; rintro e w' ⟨x, y, h3, rfl, hb1⟩) | (go_at_call 40; refine (facing_n _ hs hw).mono ?_; rintro e w' ⟨u, q, h6, rfl, hb1⟩)))
        all_goals first | exact hK.out _ _ ⟨_, _, h3, rfl⟩ hb1 | exact hK.out _ _ ⟨_, _, h6, rfl⟩ hb1 | exact hK.out _ _ ⟨_, _, _, _, h3, h6, rfl⟩ (bl_refl _) | exact hK.out _ _ rfl (bl_refl _) | exact hK.out _ _ rfl (by assumption) | exact hK.out _ _ (by assumption) (by assumption)
      · cases ho
        simp only [Act.put, List.setIfInBounds_toArray, List.set_cons_zero, List.set_cons_succ] at hK
        clear hs hne
        go_simp
        all_goals (try go_wp2_with (first | (go_at_call 26; refine (vMore_n _ hf ht0 hw).mono ?_; rintro e w' ⟨x, y, h3, rfl, hb1⟩) | (go_at_call 40; refine (facing_n _ hs hw).mono ?_; rintro e w' ⟨u, q, h6, rfl, hb1⟩)))
        all_goals first | exact hK.out _ _ ⟨_, _, h3, rfl⟩ hb1 | exact hK.out _ _ ⟨_, _, h6, rfl⟩ hb1 | exact hK.out _ _ ⟨_, _, _, _, h3, h6, rfl⟩ (bl_refl _) | exact hK.out _ _ rfl (bl_refl _) | exact hK.out _ _ rfl (by assumption) | exact hK.out _ _ (by assumption) (by assumption)
      · cases ho
        obtain ⟨x, y, h3, e3⟩ := hs 3 (by decide) (by decide) (by kernel_rfl)
        obtain ⟨u, q, h6, e6⟩ := hs 6 (by decide) (by decide) (by kernel_rfl)
        have e7 : s 7 = _ := hs 7 (by decide) (by decide) (by kernel_rfl)
        simp only [e3, e6, e7] at hK ⊢
        simp only [Act.put, List.setIfInBounds_toArray, List.set_cons_zero, List.set_cons_succ] at hK
        clear hs hne
        go_simp
        all_goals (try go_wp2_with (first | (go_at_call 26; refine (vMore_n _ hf ht0 hw).mono ?_; rintro e w' ⟨x, y, h3, rfl, hb1⟩) | (go_at_call 40; refine (facing_n _ hs hw).mono ?_; rintro e w' ⟨u, q, h6, rfl, hb1⟩)))
        all_goals first | exact hK.out _ _ ⟨_, _, h3, rfl⟩ hb1 | exact hK.out _ _ ⟨_, _, h6, rfl⟩ hb1 | exact hK.out _ _ ⟨_, _, _, _, h3, h6, rfl⟩ (bl_refl _) | exact hK.out _ _ rfl (bl_refl _) | exact hK.out _ _ rfl (by assumption) | exact hK.out _ _ (by assumption) (by assumption)
      · exact absurd rfl hne
      · cases ho
        simp only [Act.put, List.setIfInBounds_toArray, List.set_cons_zero, List.set_cons_succ] at hK
        clear hs hne
        go_simp
        all_goals (try go_wp2_with (first | (go_at_call 26; refine (vMore_n _ hf ht0 hw).mono ?_; rintro e w' ⟨x, y, h3, rfl, hb1⟩) | (go_at_call 40; refine (facing_n _ hs hw).mono ?_; rintro e w' ⟨u, q, h6, rfl, hb1⟩)))
        all_goals first | exact hK.out _ _ ⟨_, _, h3, rfl⟩ hb1 | exact hK.out _ _ ⟨_, _, h6, rfl⟩ hb1 | exact hK.out _ _ ⟨_, _, _, _, h3, h6, rfl⟩ (bl_refl _) | exact hK.out _ _ rfl (bl_refl _) | exact hK.out _ _ rfl (by assumption) | exact hK.out _ _ (by assumption) (by assumption)
      · cases ho
        simp only [Act.put, List.setIfInBounds_toArray, List.set_cons_zero, List.set_cons_succ] at hK
        clear hs hne
        go_simp
        all_goals (try go_wp2_with (first | (go_at_call 26; refine (vMore_n _ hf ht0 hw).mono ?_; rintro e w' ⟨x, y, h3, rfl, hb1⟩) | (go_at_call 40; refine (facing_n _ hs hw).mono ?_; rintro e w' ⟨u, q, h6, rfl, hb1⟩)))
        all_goals first | exact hK.out _ _ ⟨_, _, h3, rfl⟩ hb1 | exact hK.out _ _ ⟨_, _, h6, rfl⟩ hb1 | exact hK.out _ _ ⟨_, _, _, _, h3, h6, rfl⟩ (bl_refl _) | exact hK.out _ _ rfl (bl_refl _) | exact hK.out _ _ rfl (by assumption) | exact hK.out _ _ (by assumption) (by assumption)
    case ht_wo =>
      intro s hs W0 W hb0 hb
      have e0 : s 0 = _ := hs 0 (by decide) (by decide)
      have e1 : s 1 = _ := hs 1 (by decide) (by decide)
      have e2 : s 2 = _ := hs 2 (by decide) (by decide)
      obtain ⟨_, _, _, e3⟩ := hs 3 (by decide) (by decide)
      have e4 : s 4 = _ := hs 4 (by decide) (by decide)
      have e5 : s 5 = _ := hs 5 (by decide) (by decide)
      obtain ⟨_, _, _, e6⟩ := hs 6 (by decide) (by decide)
      have e7 : s 7 = _ := hs 7 (by decide) (by decide)
      obtain ⟨x, y, u, q, h8, g8, e8⟩ := hs 8 (by decide) (by decide)
      have e10 : s 10 = _ := hs 10 (by decide) (by decide)
      have e11 : s 11 = _ := hs 11 (by decide) (by decide)
      simp only [e0, e1, e2, e3, e4, e5, e6, e7, e8, e10, e11]
      rw [e8] at hb
      clear hs e0 e1 e2 e3 e4 e5 e6 e7 e8 e10 e11
      have RA := putN_at (R := w.heap.size + 1 + 1 + 1 + 1) (W := W0) (v := .agg #[.float .f64 x, .float .f64 y, .float .f64 u, .float .f64 q, .float .f64 t0]) 5 (fun i hi => by rcases (show i = 0 ∨ i = 1 ∨ i = 2 ∨ i = 3 ∨ i = 4 by omega) with rfl | rfl | rfl | rfl | rfl <;> first | (rw [keep hb0 z4_0]; rfl) | (rw [keep hb0 z4_1]; rfl) | (rw [keep hb0 z4_2]; rfl) | (rw [keep hb0 z4_3]; rfl) | (rw [keep hb0 z4_4]; rfl))
      have R0 := keep hb (RA 0 (by decide)); have R1 := keep hb (RA 1 (by decide)); have R2 := keep hb (RA 2 (by decide)); have R3 := keep hb (RA 3 (by decide)); have R4 := keep hb (RA 4 (by decide))
      simp only [cellAt] at R0 R1 R2 R3 R4
      replace BF := bl_trans (putN_bel (bl_trans (bl_trans B0 BF) hb0) (show w.heap.size ≤ w.heap.size + 1 + 1 + 1 + 1 by omega) 5) hb
      go_wp2
      refine bodyPost_ret (segment_res _ _ _ _ _ _ _ _ _ _ rfl rfl rfl R0 R1 R2 R3 R4) rfl ⟨_, _, _, _, _, ?_, rfl, BF⟩
      simp only [sgH]; exact isH_of h8 g8 ht0

theorem segment_n {ax ay bx b_y fx fy wx wy : Nat} {A B F Y : Vp} (w : World) (ha : isP ax ay A) (hB : isP bx b_y B) (hf : isP fx fy F) (hw : isP wx wy Y) : Calls Tryz.prog 9 #[.agg #[.float .f64 ax, .float .f64 ay], .agg #[.float .f64 bx, .float .f64 b_y], .agg #[.float .f64 fx, .float .f64 fy], .agg #[.float .f64 wx, .float .f64 wy]] w fun e w' => ∃ hx9 hy9 nx9 ny9 ht9 : Nat, isH hx9 hy9 nx9 ny9 ht9 ((sgX A B F Y).2) ∧ e = .returned (.tuple #[.agg #[.float .f64 hx9, .float .f64 hy9, .float .f64 nx9, .float .f64 ny9, .float .f64 ht9], .bool (sgX A B F Y).1, .int .i64 (sgE A B F Y)]) ∧ Bel w w' := by
  cases q1 : inB A.1 A.2
  · have e1 : sgE A B F Y = 5 := by unfold sgE; rw [q1]; rfl
    have e2 : sgX A B F Y = (false, zeH) := by unfold sgX; rw [e1]; rfl
    rw [e1, e2]; exact segment_b1 w ha hB hf hw q1
  cases q2 : inB B.1 B.2
  · have e1 : sgE A B F Y = 5 := by unfold sgE; rw [q1, q2]; rfl
    have e2 : sgX A B F Y = (false, zeH) := by unfold sgX; rw [e1]; rfl
    rw [e1, e2]; exact segment_b2 w ha hB hf hw q1 q2
  cases q3 : ltK .f64 (lnF (suF B A)) 4472074429978902528
  · have e1 : sgE A B F Y = ryE F Y := by unfold sgE; rw [q1, q2, q3]; rfl
    by_cases he : ryE F Y = 0
    · have e2 : sgX A B F Y = sgR A B F Y := by unfold sgX; rw [e1, he]; rfl
      rw [e1, e2, he]
      unfold sgR
      cases qd : eqK .f64 (sgD A B Y) 0
      · rw [pkF_no rfl]
        cases qp : paB (sgT A B F Y)
        · rw [Bool.false_and, pkF_no rfl]; exact segment_n1 w ha hB hf hw q1 q2 q3 he qd qp
        cases qu : paB (sgU A B F Y)
        · rw [Bool.and_false, pkF_no rfl]; exact segment_n2 w ha hB hf hw q1 q2 q3 he qd qp qu
        · rw [Bool.and_true, pkF_yes rfl]; exact segment_hit w ha hB hf hw q1 q2 q3 he qd qp qu
      · rw [pkF_yes rfl]; exact segment_d0 w ha hB hf hw q1 q2 q3 he qd
    · have e2 : sgX A B F Y = (false, zeH) := by unfold sgX; rw [e1, decide_eq_false he]; rfl
      rw [e1, e2]; exact segment_ry w ha hB hf hw q1 q2 q3 he
  · have e1 : sgE A B F Y = 5 := by unfold sgE; rw [q1, q2, q3]; rfl
    have e2 : sgX A B F Y = (false, zeH) := by unfold sgX; rw [e1]; rfl
    rw [e1, e2]; exact segment_b3 w ha hB hf hw q1 q2 q3

end Go.Proofs.YtdeooadeohojcaaGreat
