/-
  What each function of package poly answers, and what the reference of its chapter answers: one contract a function, for every float: the answer stands in the relation of its formula to what was given; of the memory that was there nothing has turned.
-/
import Derived.Test.YthbdckjfekimdabVec
import Derived.Test.YthbdckjfekimdabNb
import Derived.Below
import Derived.WalkKit
import Derived.WalkLawsBesides
import Derived.WalkSpells
import Derived.ProofKit
import Derived.OpenShut
import Derived.Deep.RegionHeld3
namespace Go.Proofs.Ythbdckjfekimdab
open Go.ChangeShapes Go.WideShapes Go.ChangeAt Go.RowKit
set_option linter.unusedVariables false
set_option linter.unusedSimpArgs false


def bF (A B C D : Vp) : Nat → Nr
  | 0 => n0F A C D
  | 1 => nrF (n0F A C D) (n0F B C D)
  | 2 => nrF (nrF (n0F A C D) (n0F B C D)) (n1F A B C)
  | _ => endF A B C D

set_option maxRecDepth 100000 in
set_option maxHeartbeats 4000000 in
theorem fromEnds_n {ax ay bx b_y cx cy dx dy : Nat} {A B C D : Vp} (w : World) (ha : isP ax ay A) (hb_ : isP bx b_y B) (hc_ : isP cx cy C) (hd_ : isP dx dy D) : Calls Try.prog 47 #[.agg #[.float .f64 ax, .float .f64 ay], .agg #[.float .f64 bx, .float .f64 b_y], .agg #[.float .f64 cx, .float .f64 cy], .agg #[.float .f64 dx, .float .f64 dy]] w fun e w' => ∃ nf9 na9 nb9 nc9 nd9, isN nf9 na9 nb9 nc9 nd9 (endF A B C D) ∧ e = .returned (.agg #[.float .f64 nf9, .float .f64 na9, .float .f64 nb9, .float .f64 nc9, .float .f64 nd9]) ∧ Bel w w' := by
  have z0_0 : (w.alloc (.cells #[.float .f64 ax, .float .f64 ay] 28)).cell? ⟨w.heap.size, 0, none⟩ = some (.float .f64 ax) := by rw [World.cell?_alloc_new]; rfl
  replace z0_0 := up_alloc (o := .cells #[.float .f64 bx, .float .f64 b_y] 28) z0_0
  replace z0_0 := up_alloc (o := .cells #[.float .f64 cx, .float .f64 cy] 28) z0_0
  replace z0_0 := up_alloc (o := .cells #[.float .f64 dx, .float .f64 dy] 28) z0_0
  replace z0_0 := up_alloc (o := .cells #[.float .f64 0, .float .f64 0, .float .f64 0, .float .f64 0, .float .f64 0] 30) z0_0
  have z0_1 : (w.alloc (.cells #[.float .f64 ax, .float .f64 ay] 28)).cell? ⟨w.heap.size, 1, none⟩ = some (.float .f64 ay) := by rw [World.cell?_alloc_new]; rfl
  replace z0_1 := up_alloc (o := .cells #[.float .f64 bx, .float .f64 b_y] 28) z0_1
  replace z0_1 := up_alloc (o := .cells #[.float .f64 cx, .float .f64 cy] 28) z0_1
  replace z0_1 := up_alloc (o := .cells #[.float .f64 dx, .float .f64 dy] 28) z0_1
  replace z0_1 := up_alloc (o := .cells #[.float .f64 0, .float .f64 0, .float .f64 0, .float .f64 0, .float .f64 0] 30) z0_1
  have z1_0 : ((w.alloc (.cells #[.float .f64 ax, .float .f64 ay] 28)).alloc (.cells #[.float .f64 bx, .float .f64 b_y] 28)).cell? ⟨w.heap.size + 1, 0, none⟩ = some (.float .f64 bx) := by rw [← (show (w.alloc (.cells #[.float .f64 ax, .float .f64 ay] 28)).heap.size = w.heap.size + 1 by simp only [World.size_alloc]), World.cell?_alloc_new]; rfl
  replace z1_0 := up_alloc (o := .cells #[.float .f64 cx, .float .f64 cy] 28) z1_0
  replace z1_0 := up_alloc (o := .cells #[.float .f64 dx, .float .f64 dy] 28) z1_0
  replace z1_0 := up_alloc (o := .cells #[.float .f64 0, .float .f64 0, .float .f64 0, .float .f64 0, .float .f64 0] 30) z1_0
  have z1_1 : ((w.alloc (.cells #[.float .f64 ax, .float .f64 ay] 28)).alloc (.cells #[.float .f64 bx, .float .f64 b_y] 28)).cell? ⟨w.heap.size + 1, 1, none⟩ = some (.float .f64 b_y) := by rw [← (show (w.alloc (.cells #[.float .f64 ax, .float .f64 ay] 28)).heap.size = w.heap.size + 1 by simp only [World.size_alloc]), World.cell?_alloc_new]; rfl
  replace z1_1 := up_alloc (o := .cells #[.float .f64 cx, .float .f64 cy] 28) z1_1
  replace z1_1 := up_alloc (o := .cells #[.float .f64 dx, .float .f64 dy] 28) z1_1
  replace z1_1 := up_alloc (o := .cells #[.float .f64 0, .float .f64 0, .float .f64 0, .float .f64 0, .float .f64 0] 30) z1_1
  have z2_0 : (((w.alloc (.cells #[.float .f64 ax, .float .f64 ay] 28)).alloc (.cells #[.float .f64 bx, .float .f64 b_y] 28)).alloc (.cells #[.float .f64 cx, .float .f64 cy] 28)).cell? ⟨w.heap.size + 1 + 1, 0, none⟩ = some (.float .f64 cx) := by rw [← (show ((w.alloc (.cells #[.float .f64 ax, .float .f64 ay] 28)).alloc (.cells #[.float .f64 bx, .float .f64 b_y] 28)).heap.size = w.heap.size + 1 + 1 by simp only [World.size_alloc]), World.cell?_alloc_new]; rfl
  replace z2_0 := up_alloc (o := .cells #[.float .f64 dx, .float .f64 dy] 28) z2_0
  replace z2_0 := up_alloc (o := .cells #[.float .f64 0, .float .f64 0, .float .f64 0, .float .f64 0, .float .f64 0] 30) z2_0
  have z2_1 : (((w.alloc (.cells #[.float .f64 ax, .float .f64 ay] 28)).alloc (.cells #[.float .f64 bx, .float .f64 b_y] 28)).alloc (.cells #[.float .f64 cx, .float .f64 cy] 28)).cell? ⟨w.heap.size + 1 + 1, 1, none⟩ = some (.float .f64 cy) := by rw [← (show ((w.alloc (.cells #[.float .f64 ax, .float .f64 ay] 28)).alloc (.cells #[.float .f64 bx, .float .f64 b_y] 28)).heap.size = w.heap.size + 1 + 1 by simp only [World.size_alloc]), World.cell?_alloc_new]; rfl
  replace z2_1 := up_alloc (o := .cells #[.float .f64 dx, .float .f64 dy] 28) z2_1
  replace z2_1 := up_alloc (o := .cells #[.float .f64 0, .float .f64 0, .float .f64 0, .float .f64 0, .float .f64 0] 30) z2_1
  have z3_0 : ((((w.alloc (.cells #[.float .f64 ax, .float .f64 ay] 28)).alloc (.cells #[.float .f64 bx, .float .f64 b_y] 28)).alloc (.cells #[.float .f64 cx, .float .f64 cy] 28)).alloc (.cells #[.float .f64 dx, .float .f64 dy] 28)).cell? ⟨w.heap.size + 1 + 1 + 1, 0, none⟩ = some (.float .f64 dx) := by rw [← (show (((w.alloc (.cells #[.float .f64 ax, .float .f64 ay] 28)).alloc (.cells #[.float .f64 bx, .float .f64 b_y] 28)).alloc (.cells #[.float .f64 cx, .float .f64 cy] 28)).heap.size = w.heap.size + 1 + 1 + 1 by simp only [World.size_alloc]), World.cell?_alloc_new]; rfl
  replace z3_0 := up_alloc (o := .cells #[.float .f64 0, .float .f64 0, .float .f64 0, .float .f64 0, .float .f64 0] 30) z3_0
  have z3_1 : ((((w.alloc (.cells #[.float .f64 ax, .float .f64 ay] 28)).alloc (.cells #[.float .f64 bx, .float .f64 b_y] 28)).alloc (.cells #[.float .f64 cx, .float .f64 cy] 28)).alloc (.cells #[.float .f64 dx, .float .f64 dy] 28)).cell? ⟨w.heap.size + 1 + 1 + 1, 1, none⟩ = some (.float .f64 dy) := by rw [← (show (((w.alloc (.cells #[.float .f64 ax, .float .f64 ay] 28)).alloc (.cells #[.float .f64 bx, .float .f64 b_y] 28)).alloc (.cells #[.float .f64 cx, .float .f64 cy] 28)).heap.size = w.heap.size + 1 + 1 + 1 by simp only [World.size_alloc]), World.cell?_alloc_new]; rfl
  replace z3_1 := up_alloc (o := .cells #[.float .f64 0, .float .f64 0, .float .f64 0, .float .f64 0, .float .f64 0] 30) z3_1
  have z4_0 : (((((w.alloc (.cells #[.float .f64 ax, .float .f64 ay] 28)).alloc (.cells #[.float .f64 bx, .float .f64 b_y] 28)).alloc (.cells #[.float .f64 cx, .float .f64 cy] 28)).alloc (.cells #[.float .f64 dx, .float .f64 dy] 28)).alloc (.cells #[.float .f64 0, .float .f64 0, .float .f64 0, .float .f64 0, .float .f64 0] 30)).cell? ⟨w.heap.size + 1 + 1 + 1 + 1, 0, none⟩ = some (.float .f64 0) := by rw [← (show ((((w.alloc (.cells #[.float .f64 ax, .float .f64 ay] 28)).alloc (.cells #[.float .f64 bx, .float .f64 b_y] 28)).alloc (.cells #[.float .f64 cx, .float .f64 cy] 28)).alloc (.cells #[.float .f64 dx, .float .f64 dy] 28)).heap.size = w.heap.size + 1 + 1 + 1 + 1 by simp only [World.size_alloc]), World.cell?_alloc_new]; rfl
  have z4_1 : (((((w.alloc (.cells #[.float .f64 ax, .float .f64 ay] 28)).alloc (.cells #[.float .f64 bx, .float .f64 b_y] 28)).alloc (.cells #[.float .f64 cx, .float .f64 cy] 28)).alloc (.cells #[.float .f64 dx, .float .f64 dy] 28)).alloc (.cells #[.float .f64 0, .float .f64 0, .float .f64 0, .float .f64 0, .float .f64 0] 30)).cell? ⟨w.heap.size + 1 + 1 + 1 + 1, 1, none⟩ = some (.float .f64 0) := by rw [← (show ((((w.alloc (.cells #[.float .f64 ax, .float .f64 ay] 28)).alloc (.cells #[.float .f64 bx, .float .f64 b_y] 28)).alloc (.cells #[.float .f64 cx, .float .f64 cy] 28)).alloc (.cells #[.float .f64 dx, .float .f64 dy] 28)).heap.size = w.heap.size + 1 + 1 + 1 + 1 by simp only [World.size_alloc]), World.cell?_alloc_new]; rfl
  have z4_2 : (((((w.alloc (.cells #[.float .f64 ax, .float .f64 ay] 28)).alloc (.cells #[.float .f64 bx, .float .f64 b_y] 28)).alloc (.cells #[.float .f64 cx, .float .f64 cy] 28)).alloc (.cells #[.float .f64 dx, .float .f64 dy] 28)).alloc (.cells #[.float .f64 0, .float .f64 0, .float .f64 0, .float .f64 0, .float .f64 0] 30)).cell? ⟨w.heap.size + 1 + 1 + 1 + 1, 2, none⟩ = some (.float .f64 0) := by rw [← (show ((((w.alloc (.cells #[.float .f64 ax, .float .f64 ay] 28)).alloc (.cells #[.float .f64 bx, .float .f64 b_y] 28)).alloc (.cells #[.float .f64 cx, .float .f64 cy] 28)).alloc (.cells #[.float .f64 dx, .float .f64 dy] 28)).heap.size = w.heap.size + 1 + 1 + 1 + 1 by simp only [World.size_alloc]), World.cell?_alloc_new]; rfl
  have z4_3 : (((((w.alloc (.cells #[.float .f64 ax, .float .f64 ay] 28)).alloc (.cells #[.float .f64 bx, .float .f64 b_y] 28)).alloc (.cells #[.float .f64 cx, .float .f64 cy] 28)).alloc (.cells #[.float .f64 dx, .float .f64 dy] 28)).alloc (.cells #[.float .f64 0, .float .f64 0, .float .f64 0, .float .f64 0, .float .f64 0] 30)).cell? ⟨w.heap.size + 1 + 1 + 1 + 1, 3, none⟩ = some (.float .f64 0) := by rw [← (show ((((w.alloc (.cells #[.float .f64 ax, .float .f64 ay] 28)).alloc (.cells #[.float .f64 bx, .float .f64 b_y] 28)).alloc (.cells #[.float .f64 cx, .float .f64 cy] 28)).alloc (.cells #[.float .f64 dx, .float .f64 dy] 28)).heap.size = w.heap.size + 1 + 1 + 1 + 1 by simp only [World.size_alloc]), World.cell?_alloc_new]; rfl
  have z4_4 : (((((w.alloc (.cells #[.float .f64 ax, .float .f64 ay] 28)).alloc (.cells #[.float .f64 bx, .float .f64 b_y] 28)).alloc (.cells #[.float .f64 cx, .float .f64 cy] 28)).alloc (.cells #[.float .f64 dx, .float .f64 dy] 28)).alloc (.cells #[.float .f64 0, .float .f64 0, .float .f64 0, .float .f64 0, .float .f64 0] 30)).cell? ⟨w.heap.size + 1 + 1 + 1 + 1, 4, none⟩ = some (.float .f64 0) := by rw [← (show ((((w.alloc (.cells #[.float .f64 ax, .float .f64 ay] 28)).alloc (.cells #[.float .f64 bx, .float .f64 b_y] 28)).alloc (.cells #[.float .f64 cx, .float .f64 cy] 28)).alloc (.cells #[.float .f64 dx, .float .f64 dy] 28)).heap.size = w.heap.size + 1 + 1 + 1 + 1 by simp only [World.size_alloc]), World.cell?_alloc_new]; rfl
  have B0 : Bel w (((((w.alloc (.cells #[.float .f64 ax, .float .f64 ay] 28)).alloc (.cells #[.float .f64 bx, .float .f64 b_y] 28)).alloc (.cells #[.float .f64 cx, .float .f64 cy] 28)).alloc (.cells #[.float .f64 dx, .float .f64 dy] 28)).alloc (.cells #[.float .f64 0, .float .f64 0, .float .f64 0, .float .f64 0, .float .f64 0] 30)) := bl_alloc (bl_alloc (bl_alloc (bl_alloc (bl_alloc (bl_refl w) _ _) _ _) _ _) _ _) _ _
  have fR : ∀ o, (((((w.alloc (.cells #[.float .f64 ax, .float .f64 ay] 28)).alloc (.cells #[.float .f64 bx, .float .f64 b_y] 28)).alloc (.cells #[.float .f64 cx, .float .f64 cy] 28)).alloc (.cells #[.float .f64 dx, .float .f64 dy] 28)).alloc (.cells #[.float .f64 0, .float .f64 0, .float .f64 0, .float .f64 0, .float .f64 0] 30)).frozen? ⟨w.heap.size + 1 + 1 + 1 + 1, o, none⟩ = false := fun o => ((show Bel ((((w.alloc (.cells #[.float .f64 ax, .float .f64 ay] 28)).alloc (.cells #[.float .f64 bx, .float .f64 b_y] 28)).alloc (.cells #[.float .f64 cx, .float .f64 cy] 28)).alloc (.cells #[.float .f64 dx, .float .f64 dy] 28)) (((((w.alloc (.cells #[.float .f64 ax, .float .f64 ay] 28)).alloc (.cells #[.float .f64 bx, .float .f64 b_y] 28)).alloc (.cells #[.float .f64 cx, .float .f64 cy] 28)).alloc (.cells #[.float .f64 dx, .float .f64 dy] 28)).alloc (.cells #[.float .f64 0, .float .f64 0, .float .f64 0, .float .f64 0, .float .f64 0] 30)) by repeat (first | exact bl_refl _ | apply bl_alloc)).2 _).trans (fresh_frozen (by simp only [World.size_alloc]; exact Nat.le_refl _))
  go_enter Try.func47, Try.ntmps47
  go_wp2_with (first | (go_at_call 71; refine (ends2_n _ z2_0 z2_1 z3_0 z3_1 hc_ hd_ ha).mono ?_; rintro e w1 ⟨nf0, na0, nb0, nc0, nd0, h0, rfl, hb⟩; replace z0_0 : w1.cell? ⟨w.heap.size, 0, none⟩ = some (.float .f64 ax) := keep hb (by first | exact z0_0 | go_keep); replace z0_1 : w1.cell? ⟨w.heap.size, 1, none⟩ = some (.float .f64 ay) := keep hb (by first | exact z0_1 | go_keep); replace z1_0 : w1.cell? ⟨w.heap.size + 1, 0, none⟩ = some (.float .f64 bx) := keep hb (by first | exact z1_0 | go_keep); replace z1_1 : w1.cell? ⟨w.heap.size + 1, 1, none⟩ = some (.float .f64 b_y) := keep hb (by first | exact z1_1 | go_keep); replace z2_0 : w1.cell? ⟨w.heap.size + 1 + 1, 0, none⟩ = some (.float .f64 cx) := keep hb (by first | exact z2_0 | go_keep); replace z2_1 : w1.cell? ⟨w.heap.size + 1 + 1, 1, none⟩ = some (.float .f64 cy) := keep hb (by first | exact z2_1 | go_keep); replace z3_0 : w1.cell? ⟨w.heap.size + 1 + 1 + 1, 0, none⟩ = some (.float .f64 dx) := keep hb (by first | exact z3_0 | go_keep); replace z3_1 : w1.cell? ⟨w.heap.size + 1 + 1 + 1, 1, none⟩ = some (.float .f64 dy) := keep hb (by first | exact z3_1 | go_keep); replace z4_0 : w1.cell? ⟨w.heap.size + 1 + 1 + 1 + 1, 0, none⟩ = some (.float .f64 0) := keep hb (by first | exact z4_0 | go_keep); replace z4_1 : w1.cell? ⟨w.heap.size + 1 + 1 + 1 + 1, 1, none⟩ = some (.float .f64 0) := keep hb (by first | exact z4_1 | go_keep); replace z4_2 : w1.cell? ⟨w.heap.size + 1 + 1 + 1 + 1, 2, none⟩ = some (.float .f64 0) := keep hb (by first | exact z4_2 | go_keep); replace z4_3 : w1.cell? ⟨w.heap.size + 1 + 1 + 1 + 1, 3, none⟩ = some (.float .f64 0) := keep hb (by first | exact z4_3 | go_keep); replace z4_4 : w1.cell? ⟨w.heap.size + 1 + 1 + 1 + 1, 4, none⟩ = some (.float .f64 0) := keep hb (by first | exact z4_4 | go_keep); have BF := hb; clear hb; have hz := BF.size; simp only [World.size_alloc] at hz; have l0 : w.heap.size < w1.heap.size := (by omega); have l1 : w.heap.size + 1 < w1.heap.size := (by omega); have l2 : w.heap.size + 1 + 1 < w1.heap.size := (by omega); have l3 : w.heap.size + 1 + 1 + 1 < w1.heap.size := (by omega); have l4 : w.heap.size + 1 + 1 + 1 + 1 < w1.heap.size := (by omega)))
  have B2 : Bel w1 (w1.alloc (.cells #[.float .f64 nf0, .float .f64 na0, .float .f64 nb0, .float .f64 nc0, .float .f64 nd0] 30)) := bl_alloc (bl_refl _) _ _
  have k0 : (w1.alloc (.cells #[.float .f64 nf0, .float .f64 na0, .float .f64 nb0, .float .f64 nc0, .float .f64 nd0] 30)).cell? ⟨w1.heap.size, 0, none⟩ = some (.float .f64 nf0) := by rw [World.cell?_alloc_new]; rfl
  have k1 : (w1.alloc (.cells #[.float .f64 nf0, .float .f64 na0, .float .f64 nb0, .float .f64 nc0, .float .f64 nd0] 30)).cell? ⟨w1.heap.size, 1, none⟩ = some (.float .f64 na0) := by rw [World.cell?_alloc_new]; rfl
  have k2 : (w1.alloc (.cells #[.float .f64 nf0, .float .f64 na0, .float .f64 nb0, .float .f64 nc0, .float .f64 nd0] 30)).cell? ⟨w1.heap.size, 2, none⟩ = some (.float .f64 nb0) := by rw [World.cell?_alloc_new]; rfl
  have k3 : (w1.alloc (.cells #[.float .f64 nf0, .float .f64 na0, .float .f64 nb0, .float .f64 nc0, .float .f64 nd0] 30)).cell? ⟨w1.heap.size, 3, none⟩ = some (.float .f64 nc0) := by rw [World.cell?_alloc_new]; rfl
  have k4 : (w1.alloc (.cells #[.float .f64 nf0, .float .f64 na0, .float .f64 nb0, .float .f64 nc0, .float .f64 nd0] 30)).cell? ⟨w1.heap.size, 4, none⟩ = some (.float .f64 nd0) := by rw [World.cell?_alloc_new]; rfl
  have yz0_0 := keep B2 z0_0
  have yz0_1 := keep B2 z0_1
  have yz1_0 := keep B2 z1_0
  have yz1_1 := keep B2 z1_1
  have yz2_0 := keep B2 z2_0
  have yz2_1 := keep B2 z2_1
  have yz3_0 := keep B2 z3_0
  have yz3_1 := keep B2 z3_1
  have yz4_0 := keep B2 z4_0
  have yz4_1 := keep B2 z4_1
  have yz4_2 := keep B2 z4_2
  have yz4_3 := keep B2 z4_3
  have yz4_4 := keep B2 z4_4
  refine wp_region_mono 11 rfl (fun i W v => match i with | 0 => v = .func (.func 71) #[] #[.pointer (some ⟨w.heap.size + 1 + 1, 0, none⟩), .pointer (some ⟨w.heap.size + 1 + 1 + 1, 0, none⟩)] | 1 => v = .agg #[.float .f64 bx, .float .f64 b_y] | 2 => ∃ nf1 na1 nb1 nc1 nd1, isN nf1 na1 nb1 nc1 nd1 (n0F B C D) ∧ v = .agg #[.float .f64 nf1, .float .f64 na1, .float .f64 nb1, .float .f64 nc1, .float .f64 nd1] | 3 => v = .func (.func 69) #[] #[.pointer (some ⟨w.heap.size, 0, none⟩), .pointer (some ⟨w.heap.size + 1, 0, none⟩)] | 4 => v = .agg #[.float .f64 cx, .float .f64 cy] | 5 => ∃ nf2 na2 nb2 nc2 nd2, isN nf2 na2 nb2 nc2 nd2 (n1F A B C) ∧ v = .agg #[.float .f64 nf2, .float .f64 na2, .float .f64 nb2, .float .f64 nc2, .float .f64 nd2] | 6 => v = .func (.func 69) #[] #[.pointer (some ⟨w.heap.size, 0, none⟩), .pointer (some ⟨w.heap.size + 1, 0, none⟩)] | 7 => v = .agg #[.float .f64 dx, .float .f64 dy] | 8 => ∃ nf3 na3 nb3 nc3 nd3, isN nf3 na3 nb3 nc3 nd3 (n1F A B D) ∧ v = .agg #[.float .f64 nf3, .float .f64 na3, .float .f64 nb3, .float .f64 nc3, .float .f64 nd3] | 9 => ∃ nf1 na1 nb1 nc1 nd1 nf2 na2 nb2 nc2 nd2 nf3 na3 nb3 nc3 nd3, isN nf1 na1 nb1 nc1 nd1 (n0F B C D) ∧ isN nf2 na2 nb2 nc2 nd2 (n1F A B C) ∧ isN nf3 na3 nb3 nc3 nd3 (n1F A B D) ∧ v = .agg #[.float .f64 nf1, .float .f64 na1, .float .f64 nb1, .float .f64 nc1, .float .f64 nd1, .float .f64 nf2, .float .f64 na2, .float .f64 nb2, .float .f64 nc2, .float .f64 nd2, .float .f64 nf3, .float .f64 na3, .float .f64 nb3, .float .f64 nc3, .float .f64 nd3] | 10 => v = .int .i64 0 | _ => False) ?A_wm (by kernel_rfl) (by kernel_rfl) ?hA_wm ?hmo_wm ?hq_wm ?ht_wm
  case hA_wm =>
    intro s
    simp only [putL, dstO, Act.put, List.getElem?_toArray, List.getElem?_cons_zero, List.getElem?_cons_succ, Option.bind_some, List.setIfInBounds_toArray, List.set_cons_zero, List.set_cons_succ, if_true]
    all_goals exact rfl
  case hmo_wm =>
    intro i W W' v hi hb h
    rcases (show i = 0 ∨ i = 1 ∨ i = 2 ∨ i = 3 ∨ i = 4 ∨ i = 5 ∨ i = 6 ∨ i = 7 ∨ i = 8 ∨ i = 9 ∨ i = 10 by omega) with rfl | rfl | rfl | rfl | rfl | rfl | rfl | rfl | rfl | rfl | rfl
    all_goals first | exact h
  case hq_wm =>
    intro i o hi ho s W hs hb K hK
    have uz0_0 := keep hb yz0_0; have uz0_1 := keep hb yz0_1; have uz1_0 := keep hb yz1_0; have uz1_1 := keep hb yz1_1; have uz2_0 := keep hb yz2_0; have uz2_1 := keep hb yz2_1; have uz3_0 := keep hb yz3_0; have uz3_1 := keep hb yz3_1; have uz4_0 := keep hb yz4_0; have uz4_1 := keep hb yz4_1; have uz4_2 := keep hb yz4_2; have uz4_3 := keep hb yz4_3; have uz4_4 := keep hb yz4_4
    rcases (show i = 0 ∨ i = 1 ∨ i = 2 ∨ i = 3 ∨ i = 4 ∨ i = 5 ∨ i = 6 ∨ i = 7 ∨ i = 8 ∨ i = 9 ∨ i = 10 by omega) with rfl | rfl | rfl | rfl | rfl | rfl | rfl | rfl | rfl | rfl | rfl
    · cases ho
      simp only [Act.put, List.setIfInBounds_toArray, List.set_cons_zero, List.set_cons_succ] at hK
      clear hs
      go_simp
      all_goals (try go_wp2_with (first | (have zz := e0; clear zz; go_at_call 71; refine (ends2_n _ uz2_0 uz2_1 uz3_0 uz3_1 hc_ hd_ hb_).mono ?_; rintro e w9 ⟨nf1, na1, nb1, nc1, nd1, h2, rfl, hb1⟩) | (have zz := e4; clear zz; go_at_call 69; refine (ends1_n _ uz0_0 uz0_1 uz1_0 uz1_1 ha hb_ hc_).mono ?_; rintro e w9 ⟨nf2, na2, nb2, nc2, nd2, h2, rfl, hb1⟩) | (go_at_call 69; refine (ends1_n _ uz0_0 uz0_1 uz1_0 uz1_1 ha hb_ hd_).mono ?_; rintro e w9 ⟨nf3, na3, nb3, nc3, nd3, h2, rfl, hb1⟩)))
      all_goals first | exact hK.out _ _ ⟨_, _, _, _, _, h2, rfl⟩ hb1 | exact hK.out _ _ ⟨_, _, _, _, _, _, _, _, _, _, _, _, _, _, _, h2, h5, h8, rfl⟩ (bl_refl _) | exact hK.out _ _ rfl (bl_refl _) | exact hK.out _ _ rfl (by assumption) | exact hK.out _ _ (by assumption) (by assumption)
    · cases ho
      simp only [Act.put, List.setIfInBounds_toArray, List.set_cons_zero, List.set_cons_succ] at hK
      clear hs
      go_simp
      all_goals (try go_wp2_with (first | (have zz := e0; clear zz; go_at_call 71; refine (ends2_n _ uz2_0 uz2_1 uz3_0 uz3_1 hc_ hd_ hb_).mono ?_; rintro e w9 ⟨nf1, na1, nb1, nc1, nd1, h2, rfl, hb1⟩) | (have zz := e4; clear zz; go_at_call 69; refine (ends1_n _ uz0_0 uz0_1 uz1_0 uz1_1 ha hb_ hc_).mono ?_; rintro e w9 ⟨nf2, na2, nb2, nc2, nd2, h2, rfl, hb1⟩) | (go_at_call 69; refine (ends1_n _ uz0_0 uz0_1 uz1_0 uz1_1 ha hb_ hd_).mono ?_; rintro e w9 ⟨nf3, na3, nb3, nc3, nd3, h2, rfl, hb1⟩)))
      all_goals first | exact hK.out _ _ ⟨_, _, _, _, _, h2, rfl⟩ hb1 | exact hK.out _ _ ⟨_, _, _, _, _, _, _, _, _, _, _, _, _, _, _, h2, h5, h8, rfl⟩ (bl_refl _) | exact hK.out _ _ rfl (bl_refl _) | exact hK.out _ _ rfl (by assumption) | exact hK.out _ _ (by assumption) (by assumption)
    · cases ho
      have e0 : s 0 = _ := hs 0 (by decide) (by kernel_rfl)
      have e1 : s 1 = _ := hs 1 (by decide) (by kernel_rfl)
      simp only [e0, e1] at hK ⊢
      simp only [Act.put, List.setIfInBounds_toArray, List.set_cons_zero, List.set_cons_succ] at hK
      clear hs
      go_simp
      all_goals (try go_wp2_with (first | (have zz := e0; clear zz; go_at_call 71; refine (ends2_n _ uz2_0 uz2_1 uz3_0 uz3_1 hc_ hd_ hb_).mono ?_; rintro e w9 ⟨nf1, na1, nb1, nc1, nd1, h2, rfl, hb1⟩) | (have zz := e4; clear zz; go_at_call 69; refine (ends1_n _ uz0_0 uz0_1 uz1_0 uz1_1 ha hb_ hc_).mono ?_; rintro e w9 ⟨nf2, na2, nb2, nc2, nd2, h2, rfl, hb1⟩) | (go_at_call 69; refine (ends1_n _ uz0_0 uz0_1 uz1_0 uz1_1 ha hb_ hd_).mono ?_; rintro e w9 ⟨nf3, na3, nb3, nc3, nd3, h2, rfl, hb1⟩)))
      all_goals first | exact hK.out _ _ ⟨_, _, _, _, _, h2, rfl⟩ hb1 | exact hK.out _ _ ⟨_, _, _, _, _, _, _, _, _, _, _, _, _, _, _, h2, h5, h8, rfl⟩ (bl_refl _) | exact hK.out _ _ rfl (bl_refl _) | exact hK.out _ _ rfl (by assumption) | exact hK.out _ _ (by assumption) (by assumption)
    · cases ho
      simp only [Act.put, List.setIfInBounds_toArray, List.set_cons_zero, List.set_cons_succ] at hK
      clear hs
      go_simp
      all_goals (try go_wp2_with (first | (have zz := e0; clear zz; go_at_call 71; refine (ends2_n _ uz2_0 uz2_1 uz3_0 uz3_1 hc_ hd_ hb_).mono ?_; rintro e w9 ⟨nf1, na1, nb1, nc1, nd1, h2, rfl, hb1⟩) | (have zz := e4; clear zz; go_at_call 69; refine (ends1_n _ uz0_0 uz0_1 uz1_0 uz1_1 ha hb_ hc_).mono ?_; rintro e w9 ⟨nf2, na2, nb2, nc2, nd2, h2, rfl, hb1⟩) | (go_at_call 69; refine (ends1_n _ uz0_0 uz0_1 uz1_0 uz1_1 ha hb_ hd_).mono ?_; rintro e w9 ⟨nf3, na3, nb3, nc3, nd3, h2, rfl, hb1⟩)))
      all_goals first | exact hK.out _ _ ⟨_, _, _, _, _, h2, rfl⟩ hb1 | exact hK.out _ _ ⟨_, _, _, _, _, _, _, _, _, _, _, _, _, _, _, h2, h5, h8, rfl⟩ (bl_refl _) | exact hK.out _ _ rfl (bl_refl _) | exact hK.out _ _ rfl (by assumption) | exact hK.out _ _ (by assumption) (by assumption)
    · cases ho
      simp only [Act.put, List.setIfInBounds_toArray, List.set_cons_zero, List.set_cons_succ] at hK
      clear hs
      go_simp
      all_goals (try go_wp2_with (first | (have zz := e0; clear zz; go_at_call 71; refine (ends2_n _ uz2_0 uz2_1 uz3_0 uz3_1 hc_ hd_ hb_).mono ?_; rintro e w9 ⟨nf1, na1, nb1, nc1, nd1, h2, rfl, hb1⟩) | (have zz := e4; clear zz; go_at_call 69; refine (ends1_n _ uz0_0 uz0_1 uz1_0 uz1_1 ha hb_ hc_).mono ?_; rintro e w9 ⟨nf2, na2, nb2, nc2, nd2, h2, rfl, hb1⟩) | (go_at_call 69; refine (ends1_n _ uz0_0 uz0_1 uz1_0 uz1_1 ha hb_ hd_).mono ?_; rintro e w9 ⟨nf3, na3, nb3, nc3, nd3, h2, rfl, hb1⟩)))
      all_goals first | exact hK.out _ _ ⟨_, _, _, _, _, h2, rfl⟩ hb1 | exact hK.out _ _ ⟨_, _, _, _, _, _, _, _, _, _, _, _, _, _, _, h2, h5, h8, rfl⟩ (bl_refl _) | exact hK.out _ _ rfl (bl_refl _) | exact hK.out _ _ rfl (by assumption) | exact hK.out _ _ (by assumption) (by assumption)
    · cases ho
      have e3 : s 3 = _ := hs 3 (by decide) (by kernel_rfl)
      have e4 : s 4 = _ := hs 4 (by decide) (by kernel_rfl)
      simp only [e3, e4] at hK ⊢
      simp only [Act.put, List.setIfInBounds_toArray, List.set_cons_zero, List.set_cons_succ] at hK
      clear hs
      go_simp
      all_goals (try go_wp2_with (first | (have zz := e0; clear zz; go_at_call 71; refine (ends2_n _ uz2_0 uz2_1 uz3_0 uz3_1 hc_ hd_ hb_).mono ?_; rintro e w9 ⟨nf1, na1, nb1, nc1, nd1, h2, rfl, hb1⟩) | (have zz := e4; clear zz; go_at_call 69; refine (ends1_n _ uz0_0 uz0_1 uz1_0 uz1_1 ha hb_ hc_).mono ?_; rintro e w9 ⟨nf2, na2, nb2, nc2, nd2, h2, rfl, hb1⟩) | (go_at_call 69; refine (ends1_n _ uz0_0 uz0_1 uz1_0 uz1_1 ha hb_ hd_).mono ?_; rintro e w9 ⟨nf3, na3, nb3, nc3, nd3, h2, rfl, hb1⟩)))
      all_goals first | exact hK.out _ _ ⟨_, _, _, _, _, h2, rfl⟩ hb1 | exact hK.out _ _ ⟨_, _, _, _, _, _, _, _, _, _, _, _, _, _, _, h2, h5, h8, rfl⟩ (bl_refl _) | exact hK.out _ _ rfl (bl_refl _) | exact hK.out _ _ rfl (by assumption) | exact hK.out _ _ (by assumption) (by assumption)
    · cases ho
      simp only [Act.put, List.setIfInBounds_toArray, List.set_cons_zero, List.set_cons_succ] at hK
      clear hs
      go_simp
      all_goals (try go_wp2_with (first | (have zz := e0; clear zz; go_at_call 71; refine (ends2_n _ uz2_0 uz2_1 uz3_0 uz3_1 hc_ hd_ hb_).mono ?_; rintro e w9 ⟨nf1, na1, nb1, nc1, nd1, h2, rfl, hb1⟩) | (have zz := e4; clear zz; go_at_call 69; refine (ends1_n _ uz0_0 uz0_1 uz1_0 uz1_1 ha hb_ hc_).mono ?_; rintro e w9 ⟨nf2, na2, nb2, nc2, nd2, h2, rfl, hb1⟩) | (go_at_call 69; refine (ends1_n _ uz0_0 uz0_1 uz1_0 uz1_1 ha hb_ hd_).mono ?_; rintro e w9 ⟨nf3, na3, nb3, nc3, nd3, h2, rfl, hb1⟩)))
      all_goals first | exact hK.out _ _ ⟨_, _, _, _, _, h2, rfl⟩ hb1 | exact hK.out _ _ ⟨_, _, _, _, _, _, _, _, _, _, _, _, _, _, _, h2, h5, h8, rfl⟩ (bl_refl _) | exact hK.out _ _ rfl (bl_refl _) | exact hK.out _ _ rfl (by assumption) | exact hK.out _ _ (by assumption) (by assumption)
    · cases ho
      simp only [Act.put, List.setIfInBounds_toArray, List.set_cons_zero, List.set_cons_succ] at hK
      clear hs
      go_simp
      all_goals (try go_wp2_with (first | (have zz := e0; clear zz; go_at_call 71; refine (ends2_n _ uz2_0 uz2_1 uz3_0 uz3_1 hc_ hd_ hb_).mono ?_; rintro e w9 ⟨nf1, na1, nb1, nc1, nd1, h2, rfl, hb1⟩) | (have zz := e4; clear zz; go_at_call 69; refine (ends1_n _ uz0_0 uz0_1 uz1_0 uz1_1 ha hb_ hc_).mono ?_; rintro e w9 ⟨nf2, na2, nb2, nc2, nd2, h2, rfl, hb1⟩) | (go_at_call 69; refine (ends1_n _ uz0_0 uz0_1 uz1_0 uz1_1 ha hb_ hd_).mono ?_; rintro e w9 ⟨nf3, na3, nb3, nc3, nd3, h2, rfl, hb1⟩)))
      all_goals first | exact hK.out _ _ ⟨_, _, _, _, _, h2, rfl⟩ hb1 | exact hK.out _ _ ⟨_, _, _, _, _, _, _, _, _, _, _, _, _, _, _, h2, h5, h8, rfl⟩ (bl_refl _) | exact hK.out _ _ rfl (bl_refl _) | exact hK.out _ _ rfl (by assumption) | exact hK.out _ _ (by assumption) (by assumption)
    · cases ho
      have e6 : s 6 = _ := hs 6 (by decide) (by kernel_rfl)
      have e7 : s 7 = _ := hs 7 (by decide) (by kernel_rfl)
      simp only [e6, e7] at hK ⊢
      simp only [Act.put, List.setIfInBounds_toArray, List.set_cons_zero, List.set_cons_succ] at hK
      clear hs
      go_simp
      all_goals (try go_wp2_with (first | (have zz := e0; clear zz; go_at_call 71; refine (ends2_n _ uz2_0 uz2_1 uz3_0 uz3_1 hc_ hd_ hb_).mono ?_; rintro e w9 ⟨nf1, na1, nb1, nc1, nd1, h2, rfl, hb1⟩) | (have zz := e4; clear zz; go_at_call 69; refine (ends1_n _ uz0_0 uz0_1 uz1_0 uz1_1 ha hb_ hc_).mono ?_; rintro e w9 ⟨nf2, na2, nb2, nc2, nd2, h2, rfl, hb1⟩) | (go_at_call 69; refine (ends1_n _ uz0_0 uz0_1 uz1_0 uz1_1 ha hb_ hd_).mono ?_; rintro e w9 ⟨nf3, na3, nb3, nc3, nd3, h2, rfl, hb1⟩)))
      all_goals first | exact hK.out _ _ ⟨_, _, _, _, _, h2, rfl⟩ hb1 | exact hK.out _ _ ⟨_, _, _, _, _, _, _, _, _, _, _, _, _, _, _, h2, h5, h8, rfl⟩ (bl_refl _) | exact hK.out _ _ rfl (bl_refl _) | exact hK.out _ _ rfl (by assumption) | exact hK.out _ _ (by assumption) (by assumption)
    · cases ho
      obtain ⟨nf1, na1, nb1, nc1, nd1, h2, e2⟩ := hs 2 (by decide) (by kernel_rfl)
      obtain ⟨nf2, na2, nb2, nc2, nd2, h5, e5⟩ := hs 5 (by decide) (by kernel_rfl)
      obtain ⟨nf3, na3, nb3, nc3, nd3, h8, e8⟩ := hs 8 (by decide) (by kernel_rfl)
      simp only [e2, e5, e8] at hK ⊢
      simp only [Act.put, List.setIfInBounds_toArray, List.set_cons_zero, List.set_cons_succ] at hK
      clear hs
      go_simp
      all_goals (try go_wp2_with (first | (have zz := e0; clear zz; go_at_call 71; refine (ends2_n _ uz2_0 uz2_1 uz3_0 uz3_1 hc_ hd_ hb_).mono ?_; rintro e w9 ⟨nf1, na1, nb1, nc1, nd1, h2, rfl, hb1⟩) | (have zz := e4; clear zz; go_at_call 69; refine (ends1_n _ uz0_0 uz0_1 uz1_0 uz1_1 ha hb_ hc_).mono ?_; rintro e w9 ⟨nf2, na2, nb2, nc2, nd2, h2, rfl, hb1⟩) | (go_at_call 69; refine (ends1_n _ uz0_0 uz0_1 uz1_0 uz1_1 ha hb_ hd_).mono ?_; rintro e w9 ⟨nf3, na3, nb3, nc3, nd3, h2, rfl, hb1⟩)))
      all_goals first | exact hK.out _ _ ⟨_, _, _, _, _, h2, rfl⟩ hb1 | exact hK.out _ _ ⟨_, _, _, _, _, _, _, _, _, _, _, _, _, _, _, h2, h5, h8, rfl⟩ (bl_refl _) | exact hK.out _ _ rfl (bl_refl _) | exact hK.out _ _ rfl (by assumption) | exact hK.out _ _ (by assumption) (by assumption)
    · cases ho
      simp only [Act.put, List.setIfInBounds_toArray, List.set_cons_zero, List.set_cons_succ] at hK
      clear hs
      go_simp
      all_goals (try go_wp2_with (first | (have zz := e0; clear zz; go_at_call 71; refine (ends2_n _ uz2_0 uz2_1 uz3_0 uz3_1 hc_ hd_ hb_).mono ?_; rintro e w9 ⟨nf1, na1, nb1, nc1, nd1, h2, rfl, hb1⟩) | (have zz := e4; clear zz; go_at_call 69; refine (ends1_n _ uz0_0 uz0_1 uz1_0 uz1_1 ha hb_ hc_).mono ?_; rintro e w9 ⟨nf2, na2, nb2, nc2, nd2, h2, rfl, hb1⟩) | (go_at_call 69; refine (ends1_n _ uz0_0 uz0_1 uz1_0 uz1_1 ha hb_ hd_).mono ?_; rintro e w9 ⟨nf3, na3, nb3, nc3, nd3, h2, rfl, hb1⟩)))
      all_goals first | exact hK.out _ _ ⟨_, _, _, _, _, h2, rfl⟩ hb1 | exact hK.out _ _ ⟨_, _, _, _, _, _, _, _, _, _, _, _, _, _, _, h2, h5, h8, rfl⟩ (bl_refl _) | exact hK.out _ _ rfl (bl_refl _) | exact hK.out _ _ rfl (by assumption) | exact hK.out _ _ (by assumption) (by assumption)
  case ht_wm =>
    intro s W hs hb
    have e0 : s 0 = _ := hs 0 (by decide)
    have e1 : s 1 = _ := hs 1 (by decide)
    obtain ⟨_, _, _, _, _, _, e2⟩ := hs 2 (by decide)
    have e3 : s 3 = _ := hs 3 (by decide)
    have e4 : s 4 = _ := hs 4 (by decide)
    obtain ⟨_, _, _, _, _, _, e5⟩ := hs 5 (by decide)
    have e6 : s 6 = _ := hs 6 (by decide)
    have e7 : s 7 = _ := hs 7 (by decide)
    obtain ⟨_, _, _, _, _, _, e8⟩ := hs 8 (by decide)
    obtain ⟨nf1, na1, nb1, nc1, nd1, nf2, na2, nb2, nc2, nd2, nf3, na3, nb3, nc3, nd3, g1, g2, g3, e9⟩ := hs 9 (by decide)
    have e10 : s 10 = _ := hs 10 (by decide)
    simp only [e0, e1, e2, e3, e4, e5, e6, e7, e8, e9, e10]
    clear hs e0 e1 e2 e3 e4 e5 e6 e7 e8 e9 e10
    have hB := bl_trans B2 hb
    replace k0 := keep hb k0; replace k1 := keep hb k1; replace k2 := keep hb k2; replace k3 := keep hb k3; replace k4 := keep hb k4
    clear hb
    have qi0 : ∀ X : World, (Instr.index 103 (.agg #[.float .f64 nf1, .float .f64 na1, .float .f64 nb1, .float .f64 nc1, .float .f64 nd1, .float .f64 nf2, .float .f64 na2, .float .f64 nb2, .float .f64 nc2, .float .f64 nd2, .float .f64 nf3, .float .f64 na3, .float .f64 nb3, .float .f64 nc3, .float .f64 nd3]) (.int .i64 0)).run Try.prog X = .ok (.agg #[.float .f64 nf1, .float .f64 na1, .float .f64 nb1, .float .f64 nc1, .float .f64 nd1]) X := fun X => by kernel_rfl
    have qi1 : ∀ X : World, (Instr.index 103 (.agg #[.float .f64 nf1, .float .f64 na1, .float .f64 nb1, .float .f64 nc1, .float .f64 nd1, .float .f64 nf2, .float .f64 na2, .float .f64 nb2, .float .f64 nc2, .float .f64 nd2, .float .f64 nf3, .float .f64 na3, .float .f64 nb3, .float .f64 nc3, .float .f64 nd3]) (.int .i64 1)).run Try.prog X = .ok (.agg #[.float .f64 nf2, .float .f64 na2, .float .f64 nb2, .float .f64 nc2, .float .f64 nd2]) X := fun X => by kernel_rfl
    have qi2 : ∀ X : World, (Instr.index 103 (.agg #[.float .f64 nf1, .float .f64 na1, .float .f64 nb1, .float .f64 nc1, .float .f64 nd1, .float .f64 nf2, .float .f64 na2, .float .f64 nb2, .float .f64 nc2, .float .f64 nd2, .float .f64 nf3, .float .f64 na3, .float .f64 nb3, .float .f64 nc3, .float .f64 nd3]) (.int .i64 2)).run Try.prog X = .ok (.agg #[.float .f64 nf3, .float .f64 na3, .float .f64 nb3, .float .f64 nc3, .float .f64 nd3]) X := fun X => by kernel_rfl
    go_wp2
    go_loopw [29] (fun i' wr => ∃ (k : Nat) (nf8 na8 nb8 nc8 nd8 : Nat), k ≤ 3 ∧ i' = .int .i64 k ∧ isN nf8 na8 nb8 nc8 nd8 (bF A B C D k) ∧ Bel w1 wr ∧ wr.cell? ⟨w1.heap.size, 0, none⟩ = some (.float .f64 nf8) ∧ wr.cell? ⟨w1.heap.size, 1, none⟩ = some (.float .f64 na8) ∧ wr.cell? ⟨w1.heap.size, 2, none⟩ = some (.float .f64 nb8) ∧ wr.cell? ⟨w1.heap.size, 3, none⟩ = some (.float .f64 nc8) ∧ wr.cell? ⟨w1.heap.size, 4, none⟩ = some (.float .f64 nd8)) (fun i' _ => 3 - (intOf i').toNat)
    case atStart => exact ⟨0, _, _, _, _, _, by omega, rfl, h0, hB, k0, k1, k2, k3, k4⟩
    case round =>
      clear k0 k1 k2 k3 k4 hB
      obtain ⟨k, nf8, na8, nb8, nc8, nd8, hk, rfl, hN, hB, k0, k1, k2, k3, k4⟩ := hrel
      have lk := World.block_lt_of_cell? _ _ k0
      simp only at lk
      obtain rfl | rfl | rfl | rfl : k = 0 ∨ k = 1 ∨ k = 2 ∨ k = 3 := by omega
      · go_wp2_with (first | (go_at_call 53; refine (nearer_n _ hN g1).mono ?_; rintro e w3 ⟨nf9, na9, nb9, nc9, nd9, hM, rfl, hb⟩; replace k0 : w3.cell? ⟨w1.heap.size, 0, none⟩ = some (.float .f64 nf8) := keep hb (by first | exact k0 | go_keep); replace k1 : w3.cell? ⟨w1.heap.size, 1, none⟩ = some (.float .f64 na8) := keep hb (by first | exact k1 | go_keep); replace k2 : w3.cell? ⟨w1.heap.size, 2, none⟩ = some (.float .f64 nb8) := keep hb (by first | exact k2 | go_keep); replace k3 : w3.cell? ⟨w1.heap.size, 3, none⟩ = some (.float .f64 nc8) := keep hb (by first | exact k3 | go_keep); replace k4 : w3.cell? ⟨w1.heap.size, 4, none⟩ = some (.float .f64 nd8) := keep hb (by first | exact k4 | go_keep); have BT := bl_trans (show Bel w1 _ from by repeat (first | exact hB | apply bl_alloc | refine bl_set ?_ (by (try simp only [World.size_alloc]); omega))) hb; clear hb; have fE : ∀ o, w3.frozen? ⟨w1.heap.size, o, none⟩ = false := fun o => (BT.2 _).trans (fresh_frozen (Nat.le_refl _))))
        obtain ⟨X, hX, r0, r1, r2, r3, r4, -, bX⟩ := put5_all (p := .float .f64 nf9) (q := .float .f64 na9) (r := .float .f64 nb9) (s := .float .f64 nc9) (t := .float .f64 nd9) k0 k1 k2 k3 k4
        rw [← hX]
        exact ⟨⟨1, nf9, na9, nb9, nc9, nd9, by omega, by go_num, hM, bX _ BT (Nat.le_refl _), r0, r1, r2, r3, r4⟩, by simp [intOf]⟩
      · go_wp2_with (first | (go_at_call 53; refine (nearer_n _ hN g2).mono ?_; rintro e w3 ⟨nf9, na9, nb9, nc9, nd9, hM, rfl, hb⟩; replace k0 : w3.cell? ⟨w1.heap.size, 0, none⟩ = some (.float .f64 nf8) := keep hb (by first | exact k0 | go_keep); replace k1 : w3.cell? ⟨w1.heap.size, 1, none⟩ = some (.float .f64 na8) := keep hb (by first | exact k1 | go_keep); replace k2 : w3.cell? ⟨w1.heap.size, 2, none⟩ = some (.float .f64 nb8) := keep hb (by first | exact k2 | go_keep); replace k3 : w3.cell? ⟨w1.heap.size, 3, none⟩ = some (.float .f64 nc8) := keep hb (by first | exact k3 | go_keep); replace k4 : w3.cell? ⟨w1.heap.size, 4, none⟩ = some (.float .f64 nd8) := keep hb (by first | exact k4 | go_keep); have BT := bl_trans (show Bel w1 _ from by repeat (first | exact hB | apply bl_alloc | refine bl_set ?_ (by (try simp only [World.size_alloc]); omega))) hb; clear hb; have fE : ∀ o, w3.frozen? ⟨w1.heap.size, o, none⟩ = false := fun o => (BT.2 _).trans (fresh_frozen (Nat.le_refl _))))
        obtain ⟨X, hX, r0, r1, r2, r3, r4, -, bX⟩ := put5_all (p := .float .f64 nf9) (q := .float .f64 na9) (r := .float .f64 nb9) (s := .float .f64 nc9) (t := .float .f64 nd9) k0 k1 k2 k3 k4
        rw [← hX]
        exact ⟨⟨2, nf9, na9, nb9, nc9, nd9, by omega, by go_num, hM, bX _ BT (Nat.le_refl _), r0, r1, r2, r3, r4⟩, by simp [intOf]⟩
      · go_wp2_with (first | (go_at_call 53; refine (nearer_n _ hN g3).mono ?_; rintro e w3 ⟨nf9, na9, nb9, nc9, nd9, hM, rfl, hb⟩; replace k0 : w3.cell? ⟨w1.heap.size, 0, none⟩ = some (.float .f64 nf8) := keep hb (by first | exact k0 | go_keep); replace k1 : w3.cell? ⟨w1.heap.size, 1, none⟩ = some (.float .f64 na8) := keep hb (by first | exact k1 | go_keep); replace k2 : w3.cell? ⟨w1.heap.size, 2, none⟩ = some (.float .f64 nb8) := keep hb (by first | exact k2 | go_keep); replace k3 : w3.cell? ⟨w1.heap.size, 3, none⟩ = some (.float .f64 nc8) := keep hb (by first | exact k3 | go_keep); replace k4 : w3.cell? ⟨w1.heap.size, 4, none⟩ = some (.float .f64 nd8) := keep hb (by first | exact k4 | go_keep); have BT := bl_trans (show Bel w1 _ from by repeat (first | exact hB | apply bl_alloc | refine bl_set ?_ (by (try simp only [World.size_alloc]); omega))) hb; clear hb; have fE : ∀ o, w3.frozen? ⟨w1.heap.size, o, none⟩ = false := fun o => (BT.2 _).trans (fresh_frozen (Nat.le_refl _))))
        obtain ⟨X, hX, r0, r1, r2, r3, r4, -, bX⟩ := put5_all (p := .float .f64 nf9) (q := .float .f64 na9) (r := .float .f64 nb9) (s := .float .f64 nc9) (t := .float .f64 nd9) k0 k1 k2 k3 k4
        rw [← hX]
        exact ⟨⟨3, nf9, na9, nb9, nc9, nd9, by omega, by go_num, hM, bX _ BT (Nat.le_refl _), r0, r1, r2, r3, r4⟩, by simp [intOf]⟩
      · replace z4_0 := keep hB z4_0; replace z4_1 := keep hB z4_1; replace z4_2 := keep hB z4_2; replace z4_3 := keep hB z4_3; replace z4_4 := keep hB z4_4
        have fE : ∀ o, wr.frozen? ⟨w.heap.size + 1 + 1 + 1 + 1, o, none⟩ = false := fun o => (hB.2 _).trans ((BF.2 _).trans (fR o))
        replace BF := bl_trans BF hB
        go_wp2
        obtain ⟨X, hX, r0, r1, r2, r3, r4, -, bX⟩ := put5_all (p := .float .f64 nf8) (q := .float .f64 na8) (r := .float .f64 nb8) (s := .float .f64 nc8) (t := .float .f64 nd8) z4_0 z4_1 z4_2 z4_3 z4_4
        rw [← hX]
        refine bodyPost_ret (v := .agg #[.float .f64 nf8, .float .f64 na8, .float .f64 nb8, .float .f64 nc8, .float .f64 nd8]) (by simp [r0, r1, r2, r3, r4, results, Try.results47, go_sem] <;> (first | exact ⟨rfl, rfl, rfl, rfl, rfl⟩ | rfl)) rfl ⟨_, _, _, _, _, hN, rfl, bX _ (bl_trans B0 BF) (by omega)⟩

end Go.Proofs.Ythbdckjfekimdab
