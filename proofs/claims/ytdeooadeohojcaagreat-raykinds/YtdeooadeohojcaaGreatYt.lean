/-
  What each function of package poly answers, and what the reference of its chapter answers: one contract a function, for every float: the answer stands in the relation of its formula to what was given; of the memory that was there nothing has turned.
-/
import Derived.Test.YtdeooadeohojcaaGreatVec
import Derived.Test.YtdeooadeohojcaaGreatYs
import Derived.Below
import Derived.WalkKit
import Derived.WalkLawsBesides
import Derived.WalkSpells
import Derived.ProofKit
import Derived.OpenShut
import Derived.Deep.RegionHeld3
namespace Go.Proofs.YtdeooadeohojcaaGreat
open Go.ChangeShapes Go.WideShapes Go.ChangeAt Go.RowKit
set_option linter.unusedVariables false
set_option linter.unusedSimpArgs false


theorem bxYt0 (w : World) (cx cy fx fy wx wy : Nat) (W : World) (hW : W = ((((w.alloc (.cells #[.float .f64 cx, .float .f64 cy] 24)).alloc (.cells #[.float .f64 fx, .float .f64 fy] 24)).alloc (.cells #[.float .f64 wx, .float .f64 wy] 24)).alloc (.cells #[.float .f64 0, .float .f64 0, .float .f64 0, .float .f64 0, .float .f64 0] 28))) : W.cell? ⟨w.heap.size, 0, none⟩ = some (.float .f64 cx) ∧ W.cell? ⟨w.heap.size, 1, none⟩ = some (.float .f64 cy) ∧ W.cell? ⟨w.heap.size + 1, 0, none⟩ = some (.float .f64 fx) ∧ W.cell? ⟨w.heap.size + 1, 1, none⟩ = some (.float .f64 fy) ∧ W.cell? ⟨w.heap.size + 1 + 1, 0, none⟩ = some (.float .f64 wx) ∧ W.cell? ⟨w.heap.size + 1 + 1, 1, none⟩ = some (.float .f64 wy) ∧ W.cell? ⟨w.heap.size + 1 + 1 + 1, 0, none⟩ = some (.float .f64 0) ∧ W.cell? ⟨w.heap.size + 1 + 1 + 1, 1, none⟩ = some (.float .f64 0) ∧ W.cell? ⟨w.heap.size + 1 + 1 + 1, 2, none⟩ = some (.float .f64 0) ∧ W.cell? ⟨w.heap.size + 1 + 1 + 1, 3, none⟩ = some (.float .f64 0) ∧ W.cell? ⟨w.heap.size + 1 + 1 + 1, 4, none⟩ = some (.float .f64 0) ∧ Bel w W := by
  have z0_0 : (w.alloc (.cells #[.float .f64 cx, .float .f64 cy] 24)).cell? ⟨w.heap.size, 0, none⟩ = some (.float .f64 cx) := by rw [World.cell?_alloc_new]; rfl
  replace z0_0 := up_alloc (o := .cells #[.float .f64 fx, .float .f64 fy] 24) z0_0
  replace z0_0 := up_alloc (o := .cells #[.float .f64 wx, .float .f64 wy] 24) z0_0
  replace z0_0 := up_alloc (o := .cells #[.float .f64 0, .float .f64 0, .float .f64 0, .float .f64 0, .float .f64 0] 28) z0_0
  have z0_1 : (w.alloc (.cells #[.float .f64 cx, .float .f64 cy] 24)).cell? ⟨w.heap.size, 1, none⟩ = some (.float .f64 cy) := by rw [World.cell?_alloc_new]; rfl
  replace z0_1 := up_alloc (o := .cells #[.float .f64 fx, .float .f64 fy] 24) z0_1
  replace z0_1 := up_alloc (o := .cells #[.float .f64 wx, .float .f64 wy] 24) z0_1
  replace z0_1 := up_alloc (o := .cells #[.float .f64 0, .float .f64 0, .float .f64 0, .float .f64 0, .float .f64 0] 28) z0_1
  have z1_0 : ((w.alloc (.cells #[.float .f64 cx, .float .f64 cy] 24)).alloc (.cells #[.float .f64 fx, .float .f64 fy] 24)).cell? ⟨w.heap.size + 1, 0, none⟩ = some (.float .f64 fx) := by rw [← (show (w.alloc (.cells #[.float .f64 cx, .float .f64 cy] 24)).heap.size = w.heap.size + 1 by simp only [World.size_alloc]), World.cell?_alloc_new]; rfl
  replace z1_0 := up_alloc (o := .cells #[.float .f64 wx, .float .f64 wy] 24) z1_0
  replace z1_0 := up_alloc (o := .cells #[.float .f64 0, .float .f64 0, .float .f64 0, .float .f64 0, .float .f64 0] 28) z1_0
  have z1_1 : ((w.alloc (.cells #[.float .f64 cx, .float .f64 cy] 24)).alloc (.cells #[.float .f64 fx, .float .f64 fy] 24)).cell? ⟨w.heap.size + 1, 1, none⟩ = some (.float .f64 fy) := by rw [← (show (w.alloc (.cells #[.float .f64 cx, .float .f64 cy] 24)).heap.size = w.heap.size + 1 by simp only [World.size_alloc]), World.cell?_alloc_new]; rfl
  replace z1_1 := up_alloc (o := .cells #[.float .f64 wx, .float .f64 wy] 24) z1_1
  replace z1_1 := up_alloc (o := .cells #[.float .f64 0, .float .f64 0, .float .f64 0, .float .f64 0, .float .f64 0] 28) z1_1
  have z2_0 : (((w.alloc (.cells #[.float .f64 cx, .float .f64 cy] 24)).alloc (.cells #[.float .f64 fx, .float .f64 fy] 24)).alloc (.cells #[.float .f64 wx, .float .f64 wy] 24)).cell? ⟨w.heap.size + 1 + 1, 0, none⟩ = some (.float .f64 wx) := by rw [← (show ((w.alloc (.cells #[.float .f64 cx, .float .f64 cy] 24)).alloc (.cells #[.float .f64 fx, .float .f64 fy] 24)).heap.size = w.heap.size + 1 + 1 by simp only [World.size_alloc]), World.cell?_alloc_new]; rfl
  replace z2_0 := up_alloc (o := .cells #[.float .f64 0, .float .f64 0, .float .f64 0, .float .f64 0, .float .f64 0] 28) z2_0
  have z2_1 : (((w.alloc (.cells #[.float .f64 cx, .float .f64 cy] 24)).alloc (.cells #[.float .f64 fx, .float .f64 fy] 24)).alloc (.cells #[.float .f64 wx, .float .f64 wy] 24)).cell? ⟨w.heap.size + 1 + 1, 1, none⟩ = some (.float .f64 wy) := by rw [← (show ((w.alloc (.cells #[.float .f64 cx, .float .f64 cy] 24)).alloc (.cells #[.float .f64 fx, .float .f64 fy] 24)).heap.size = w.heap.size + 1 + 1 by simp only [World.size_alloc]), World.cell?_alloc_new]; rfl
  replace z2_1 := up_alloc (o := .cells #[.float .f64 0, .float .f64 0, .float .f64 0, .float .f64 0, .float .f64 0] 28) z2_1
  have z3_0 : ((((w.alloc (.cells #[.float .f64 cx, .float .f64 cy] 24)).alloc (.cells #[.float .f64 fx, .float .f64 fy] 24)).alloc (.cells #[.float .f64 wx, .float .f64 wy] 24)).alloc (.cells #[.float .f64 0, .float .f64 0, .float .f64 0, .float .f64 0, .float .f64 0] 28)).cell? ⟨w.heap.size + 1 + 1 + 1, 0, none⟩ = some (.float .f64 0) := by rw [← (show (((w.alloc (.cells #[.float .f64 cx, .float .f64 cy] 24)).alloc (.cells #[.float .f64 fx, .float .f64 fy] 24)).alloc (.cells #[.float .f64 wx, .float .f64 wy] 24)).heap.size = w.heap.size + 1 + 1 + 1 by simp only [World.size_alloc]), World.cell?_alloc_new]; rfl
  have z3_1 : ((((w.alloc (.cells #[.float .f64 cx, .float .f64 cy] 24)).alloc (.cells #[.float .f64 fx, .float .f64 fy] 24)).alloc (.cells #[.float .f64 wx, .float .f64 wy] 24)).alloc (.cells #[.float .f64 0, .float .f64 0, .float .f64 0, .float .f64 0, .float .f64 0] 28)).cell? ⟨w.heap.size + 1 + 1 + 1, 1, none⟩ = some (.float .f64 0) := by rw [← (show (((w.alloc (.cells #[.float .f64 cx, .float .f64 cy] 24)).alloc (.cells #[.float .f64 fx, .float .f64 fy] 24)).alloc (.cells #[.float .f64 wx, .float .f64 wy] 24)).heap.size = w.heap.size + 1 + 1 + 1 by simp only [World.size_alloc]), World.cell?_alloc_new]; rfl
  have z3_2 : ((((w.alloc (.cells #[.float .f64 cx, .float .f64 cy] 24)).alloc (.cells #[.float .f64 fx, .float .f64 fy] 24)).alloc (.cells #[.float .f64 wx, .float .f64 wy] 24)).alloc (.cells #[.float .f64 0, .float .f64 0, .float .f64 0, .float .f64 0, .float .f64 0] 28)).cell? ⟨w.heap.size + 1 + 1 + 1, 2, none⟩ = some (.float .f64 0) := by rw [← (show (((w.alloc (.cells #[.float .f64 cx, .float .f64 cy] 24)).alloc (.cells #[.float .f64 fx, .float .f64 fy] 24)).alloc (.cells #[.float .f64 wx, .float .f64 wy] 24)).heap.size = w.heap.size + 1 + 1 + 1 by simp only [World.size_alloc]), World.cell?_alloc_new]; rfl
  have z3_3 : ((((w.alloc (.cells #[.float .f64 cx, .float .f64 cy] 24)).alloc (.cells #[.float .f64 fx, .float .f64 fy] 24)).alloc (.cells #[.float .f64 wx, .float .f64 wy] 24)).alloc (.cells #[.float .f64 0, .float .f64 0, .float .f64 0, .float .f64 0, .float .f64 0] 28)).cell? ⟨w.heap.size + 1 + 1 + 1, 3, none⟩ = some (.float .f64 0) := by rw [← (show (((w.alloc (.cells #[.float .f64 cx, .float .f64 cy] 24)).alloc (.cells #[.float .f64 fx, .float .f64 fy] 24)).alloc (.cells #[.float .f64 wx, .float .f64 wy] 24)).heap.size = w.heap.size + 1 + 1 + 1 by simp only [World.size_alloc]), World.cell?_alloc_new]; rfl
  have z3_4 : ((((w.alloc (.cells #[.float .f64 cx, .float .f64 cy] 24)).alloc (.cells #[.float .f64 fx, .float .f64 fy] 24)).alloc (.cells #[.float .f64 wx, .float .f64 wy] 24)).alloc (.cells #[.float .f64 0, .float .f64 0, .float .f64 0, .float .f64 0, .float .f64 0] 28)).cell? ⟨w.heap.size + 1 + 1 + 1, 4, none⟩ = some (.float .f64 0) := by rw [← (show (((w.alloc (.cells #[.float .f64 cx, .float .f64 cy] 24)).alloc (.cells #[.float .f64 fx, .float .f64 fy] 24)).alloc (.cells #[.float .f64 wx, .float .f64 wy] 24)).heap.size = w.heap.size + 1 + 1 + 1 by simp only [World.size_alloc]), World.cell?_alloc_new]; rfl
  have B0 : Bel w ((((w.alloc (.cells #[.float .f64 cx, .float .f64 cy] 24)).alloc (.cells #[.float .f64 fx, .float .f64 fy] 24)).alloc (.cells #[.float .f64 wx, .float .f64 wy] 24)).alloc (.cells #[.float .f64 0, .float .f64 0, .float .f64 0, .float .f64 0, .float .f64 0] 28)) := bl_alloc (bl_alloc (bl_alloc (bl_alloc (bl_refl w) _ _) _ _) _ _) _ _
  subst hW
  exact ⟨z0_0, z0_1, z1_0, z1_1, z2_0, z2_1, z3_0, z3_1, z3_2, z3_3, z3_4, B0⟩

theorem ckYt1 (w : World) (cx cy fx fy wx wy : Nat) {W0 W1 : World} (hb : Bel W0 W1) (h : W0.cell? ⟨w.heap.size, 0, none⟩ = some (.float .f64 cx) ∧ W0.cell? ⟨w.heap.size, 1, none⟩ = some (.float .f64 cy) ∧ W0.cell? ⟨w.heap.size + 1, 0, none⟩ = some (.float .f64 fx) ∧ W0.cell? ⟨w.heap.size + 1, 1, none⟩ = some (.float .f64 fy) ∧ W0.cell? ⟨w.heap.size + 1 + 1, 0, none⟩ = some (.float .f64 wx) ∧ W0.cell? ⟨w.heap.size + 1 + 1, 1, none⟩ = some (.float .f64 wy) ∧ W0.cell? ⟨w.heap.size + 1 + 1 + 1, 0, none⟩ = some (.float .f64 0) ∧ W0.cell? ⟨w.heap.size + 1 + 1 + 1, 1, none⟩ = some (.float .f64 0) ∧ W0.cell? ⟨w.heap.size + 1 + 1 + 1, 2, none⟩ = some (.float .f64 0) ∧ W0.cell? ⟨w.heap.size + 1 + 1 + 1, 3, none⟩ = some (.float .f64 0) ∧ W0.cell? ⟨w.heap.size + 1 + 1 + 1, 4, none⟩ = some (.float .f64 0)) : W1.cell? ⟨w.heap.size, 0, none⟩ = some (.float .f64 cx) ∧ W1.cell? ⟨w.heap.size, 1, none⟩ = some (.float .f64 cy) ∧ W1.cell? ⟨w.heap.size + 1, 0, none⟩ = some (.float .f64 fx) ∧ W1.cell? ⟨w.heap.size + 1, 1, none⟩ = some (.float .f64 fy) ∧ W1.cell? ⟨w.heap.size + 1 + 1, 0, none⟩ = some (.float .f64 wx) ∧ W1.cell? ⟨w.heap.size + 1 + 1, 1, none⟩ = some (.float .f64 wy) ∧ W1.cell? ⟨w.heap.size + 1 + 1 + 1, 0, none⟩ = some (.float .f64 0) ∧ W1.cell? ⟨w.heap.size + 1 + 1 + 1, 1, none⟩ = some (.float .f64 0) ∧ W1.cell? ⟨w.heap.size + 1 + 1 + 1, 2, none⟩ = some (.float .f64 0) ∧ W1.cell? ⟨w.heap.size + 1 + 1 + 1, 3, none⟩ = some (.float .f64 0) ∧ W1.cell? ⟨w.heap.size + 1 + 1 + 1, 4, none⟩ = some (.float .f64 0) := ⟨keep hb h.1, keep hb h.2.1, keep hb h.2.2.1, keep hb h.2.2.2.1, keep hb h.2.2.2.2.1, keep hb h.2.2.2.2.2.1, keep hb h.2.2.2.2.2.2.1, keep hb h.2.2.2.2.2.2.2.1, keep hb h.2.2.2.2.2.2.2.2.1, keep hb h.2.2.2.2.2.2.2.2.2.1, keep hb h.2.2.2.2.2.2.2.2.2.2⟩

theorem ckYt2 (w w3 : World) (cx cy fx fy wx wy mx my : Nat) {W0 W1 : World} (hb : Bel W0 W1) (h : W0.cell? ⟨w.heap.size, 0, none⟩ = some (.float .f64 cx) ∧ W0.cell? ⟨w.heap.size, 1, none⟩ = some (.float .f64 cy) ∧ W0.cell? ⟨w.heap.size + 1, 0, none⟩ = some (.float .f64 fx) ∧ W0.cell? ⟨w.heap.size + 1, 1, none⟩ = some (.float .f64 fy) ∧ W0.cell? ⟨w.heap.size + 1 + 1, 0, none⟩ = some (.float .f64 wx) ∧ W0.cell? ⟨w.heap.size + 1 + 1, 1, none⟩ = some (.float .f64 wy) ∧ W0.cell? ⟨w.heap.size + 1 + 1 + 1, 0, none⟩ = some (.float .f64 0) ∧ W0.cell? ⟨w.heap.size + 1 + 1 + 1, 1, none⟩ = some (.float .f64 0) ∧ W0.cell? ⟨w.heap.size + 1 + 1 + 1, 2, none⟩ = some (.float .f64 0) ∧ W0.cell? ⟨w.heap.size + 1 + 1 + 1, 3, none⟩ = some (.float .f64 0) ∧ W0.cell? ⟨w.heap.size + 1 + 1 + 1, 4, none⟩ = some (.float .f64 0) ∧ W0.cell? ⟨w3.heap.size, 0, none⟩ = some (.float .f64 mx) ∧ W0.cell? ⟨w3.heap.size, 1, none⟩ = some (.float .f64 my)) : W1.cell? ⟨w.heap.size, 0, none⟩ = some (.float .f64 cx) ∧ W1.cell? ⟨w.heap.size, 1, none⟩ = some (.float .f64 cy) ∧ W1.cell? ⟨w.heap.size + 1, 0, none⟩ = some (.float .f64 fx) ∧ W1.cell? ⟨w.heap.size + 1, 1, none⟩ = some (.float .f64 fy) ∧ W1.cell? ⟨w.heap.size + 1 + 1, 0, none⟩ = some (.float .f64 wx) ∧ W1.cell? ⟨w.heap.size + 1 + 1, 1, none⟩ = some (.float .f64 wy) ∧ W1.cell? ⟨w.heap.size + 1 + 1 + 1, 0, none⟩ = some (.float .f64 0) ∧ W1.cell? ⟨w.heap.size + 1 + 1 + 1, 1, none⟩ = some (.float .f64 0) ∧ W1.cell? ⟨w.heap.size + 1 + 1 + 1, 2, none⟩ = some (.float .f64 0) ∧ W1.cell? ⟨w.heap.size + 1 + 1 + 1, 3, none⟩ = some (.float .f64 0) ∧ W1.cell? ⟨w.heap.size + 1 + 1 + 1, 4, none⟩ = some (.float .f64 0) ∧ W1.cell? ⟨w3.heap.size, 0, none⟩ = some (.float .f64 mx) ∧ W1.cell? ⟨w3.heap.size, 1, none⟩ = some (.float .f64 my) := ⟨keep hb h.1, keep hb h.2.1, keep hb h.2.2.1, keep hb h.2.2.2.1, keep hb h.2.2.2.2.1, keep hb h.2.2.2.2.2.1, keep hb h.2.2.2.2.2.2.1, keep hb h.2.2.2.2.2.2.2.1, keep hb h.2.2.2.2.2.2.2.2.1, keep hb h.2.2.2.2.2.2.2.2.2.1, keep hb h.2.2.2.2.2.2.2.2.2.2.1, keep hb h.2.2.2.2.2.2.2.2.2.2.2.1, keep hb h.2.2.2.2.2.2.2.2.2.2.2.2⟩

theorem ltYt3 {w W : World} {o0 o1 o2 o3 : Obj} (h : Bel ((((w.alloc o0).alloc o1).alloc o2).alloc o3) W) : w.heap.size < W.heap.size ∧ w.heap.size + 1 < W.heap.size ∧ w.heap.size + 1 + 1 < W.heap.size ∧ w.heap.size + 1 + 1 + 1 < W.heap.size := by
  have hz := h.size
  simp only [World.size_alloc] at hz
  refine ⟨?_, ?_, ?_, ?_⟩ <;> omega

theorem gwYt4 (w : World) (cx cy fx fy wx wy : Nat) {W0 W1 : World} (hb : Bel W0 W1) (h : Bel ((((w.alloc (.cells #[.float .f64 cx, .float .f64 cy] 24)).alloc (.cells #[.float .f64 fx, .float .f64 fy] 24)).alloc (.cells #[.float .f64 wx, .float .f64 wy] 24)).alloc (.cells #[.float .f64 0, .float .f64 0, .float .f64 0, .float .f64 0, .float .f64 0] 28)) W0) : Bel ((((w.alloc (.cells #[.float .f64 cx, .float .f64 cy] 24)).alloc (.cells #[.float .f64 fx, .float .f64 fy] 24)).alloc (.cells #[.float .f64 wx, .float .f64 wy] 24)).alloc (.cells #[.float .f64 0, .float .f64 0, .float .f64 0, .float .f64 0, .float .f64 0] 28)) W1 := bl_trans h hb

theorem fzYt5 (w : World) (cx cy fx fy wx wy : Nat) : ∀ o, ((((w.alloc (.cells #[.float .f64 cx, .float .f64 cy] 24)).alloc (.cells #[.float .f64 fx, .float .f64 fy] 24)).alloc (.cells #[.float .f64 wx, .float .f64 wy] 24)).alloc (.cells #[.float .f64 0, .float .f64 0, .float .f64 0, .float .f64 0, .float .f64 0] 28)).frozen? ⟨w.heap.size + 1 + 1 + 1, o, none⟩ = false := fun o => ((show Bel (((w.alloc (.cells #[.float .f64 cx, .float .f64 cy] 24)).alloc (.cells #[.float .f64 fx, .float .f64 fy] 24)).alloc (.cells #[.float .f64 wx, .float .f64 wy] 24)) ((((w.alloc (.cells #[.float .f64 cx, .float .f64 cy] 24)).alloc (.cells #[.float .f64 fx, .float .f64 fy] 24)).alloc (.cells #[.float .f64 wx, .float .f64 wy] 24)).alloc (.cells #[.float .f64 0, .float .f64 0, .float .f64 0, .float .f64 0, .float .f64 0] 28)) by repeat (first | exact bl_refl _ | apply bl_alloc)).2 _).trans (fresh_frozen (by simp only [World.size_alloc]; exact Nat.le_refl _))

set_option maxRecDepth 100000 in
set_option maxHeartbeats 2000000 in
theorem rcircle_hit {cx cy r fx fy wx wy R : Nat} {C F Y : Vp} (w : World) (hc : isP cx cy C) (hr : isF r R) (hf : isP fx fy F) (hw : isP wx wy Y) (q1 : inB C.1 C.2 = true) (g1 : leK .f64 4472074429978902528 r = true) (g2 : leK .f64 r 4787326403894837248 = true) (he : ryE F Y = 0) (qc : ltK .f64 0 (ciC C R F) = true) (qb : ltK .f64 (ciB C F Y) 0 = true) (qd : ltK .f64 (ciD C R F Y) 0 = false) (qp : paB (ciT C R F Y) = true) : Calls Tryz.prog 7 #[.agg #[.float .f64 cx, .float .f64 cy], .float .f64 r, .agg #[.float .f64 fx, .float .f64 fy], .agg #[.float .f64 wx, .float .f64 wy]] w fun e w' => ∃ hx9 hy9 nx9 ny9 ht9 : Nat, isH hx9 hy9 nx9 ny9 ht9 (((true, ciH C R F Y)).2) ∧ e = .returned (.tuple #[.agg #[.float .f64 hx9, .float .f64 hy9, .float .f64 nx9, .float .f64 ny9, .float .f64 ht9], .bool ((true, ciH C R F Y)).1, .int .i64 (0)]) ∧ Bel w w' := by
  have c1 := cmp_lt .f64
  have c2 := cmp_gt .f64
  have c5 := cmp_eq .f64
  have c3 := cmp_le2 .f64
  have c4 := cmp_ge2 .f64
  have d1 := run_sub Tryz.prog
  have d2 := run_mul Tryz.prog
  have d3 := run_quo Tryz.prog
  have d4 := run_neg Tryz.prog
  obtain ⟨z0_0, z0_1, z1_0, z1_1, z2_0, z2_1, z3_0, z3_1, z3_2, z3_3, z3_4, B0⟩ := bxYt0 w cx cy fx fy wx wy _ rfl
  have fR := fzYt5 w cx cy fx fy wx wy
  go_enter Tryz.func7, Tryz.ntmps7
  go_wp2_with (first | (go_at_call 28; (with_reducible refine (real_q _ hc q1).mono ?_); rintro e w1 ⟨rfl, hb⟩; have hq := ckYt1 w cx cy fx fy wx wy hb (by refine ⟨?_, ?_, ?_, ?_, ?_, ?_, ?_, ?_, ?_, ?_, ?_⟩ <;> first | assumption | go_keep); clear z0_0 z0_1 z1_0 z1_1 z2_0 z2_1 z3_0 z3_1 z3_2 z3_3 z3_4; obtain ⟨z0_0, z0_1, z1_0, z1_1, z2_0, z2_1, z3_0, z3_1, z3_2, z3_3, z3_4⟩ := hq; have BF := hb; clear hb; obtain ⟨l0, l1, l2, l3⟩ := ltYt3 BF; have fE : ∀ o, w1.frozen? ⟨w.heap.size + 1 + 1 + 1, o, none⟩ = false := fun o => (BF.2 _).trans (fR o)) | (go_at_call 29; (with_reducible refine (rray_n _ hf hw).mono ?_); rintro e w2 ⟨rfl, hb⟩; have hq := ckYt1 w cx cy fx fy wx wy hb (by refine ⟨?_, ?_, ?_, ?_, ?_, ?_, ?_, ?_, ?_, ?_, ?_⟩ <;> first | assumption | go_keep); clear z0_0 z0_1 z1_0 z1_1 z2_0 z2_1 z3_0 z3_1 z3_2 z3_3 z3_4; obtain ⟨z0_0, z0_1, z1_0, z1_1, z2_0, z2_1, z3_0, z3_1, z3_2, z3_3, z3_4⟩ := hq; replace BF := gwYt4 w cx cy fx fy wx wy hb (by repeat (first | exact BF | apply bl_alloc | apply bl_drewN)); clear hb; obtain ⟨l0, l1, l2, l3⟩ := ltYt3 BF; have fE : ∀ o, w2.frozen? ⟨w.heap.size + 1 + 1 + 1, o, none⟩ = false := fun o => (BF.2 _).trans (fR o)) | (go_at_call 30; (with_reducible refine (rSub_n _ hf hc).mono ?_); rintro e w3 ⟨mx, my, hm, rfl, hb⟩; have hq := ckYt1 w cx cy fx fy wx wy hb (by refine ⟨?_, ?_, ?_, ?_, ?_, ?_, ?_, ?_, ?_, ?_, ?_⟩ <;> first | assumption | go_keep); clear z0_0 z0_1 z1_0 z1_1 z2_0 z2_1 z3_0 z3_1 z3_2 z3_3 z3_4; obtain ⟨z0_0, z0_1, z1_0, z1_1, z2_0, z2_1, z3_0, z3_1, z3_2, z3_3, z3_4⟩ := hq; replace BF := gwYt4 w cx cy fx fy wx wy hb (by repeat (first | exact BF | apply bl_alloc | apply bl_drewN)); clear hb; obtain ⟨l0, l1, l2, l3⟩ := ltYt3 BF; have fE : ∀ o, w3.frozen? ⟨w.heap.size + 1 + 1 + 1, o, none⟩ = false := fun o => (BF.2 _).trans (fR o)) | (go_at_call 31; (with_reducible refine (rSquare_n _ hw).mono ?_); rintro e w4 ⟨a0, ha0, rfl, hb⟩; have hq := ckYt1 w cx cy fx fy wx wy hb (by refine ⟨?_, ?_, ?_, ?_, ?_, ?_, ?_, ?_, ?_, ?_, ?_⟩ <;> first | assumption | go_keep); clear z0_0 z0_1 z1_0 z1_1 z2_0 z2_1 z3_0 z3_1 z3_2 z3_3 z3_4; obtain ⟨z0_0, z0_1, z1_0, z1_1, z2_0, z2_1, z3_0, z3_1, z3_2, z3_3, z3_4⟩ := hq; have k0 : w4.cell? ⟨w3.heap.size, 0, none⟩ = some (.float .f64 mx) := keep hb (by go_keep); have k1 : w4.cell? ⟨w3.heap.size, 1, none⟩ = some (.float .f64 my) := keep hb (by go_keep); replace BF := gwYt4 w cx cy fx fy wx wy hb (by repeat (first | exact BF | apply bl_alloc | apply bl_drewN)); clear hb; obtain ⟨l0, l1, l2, l3⟩ := ltYt3 BF; have lk := World.block_lt_of_cell? _ _ k0; simp only at lk; have fE : ∀ o, w4.frozen? ⟨w.heap.size + 1 + 1 + 1, o, none⟩ = false := fun o => (BF.2 _).trans (fR o)) | (go_at_call 32; (with_reducible refine (rDot_n _ hm hw).mono ?_); rintro e w5 ⟨b0, hb0, rfl, hb⟩; have gb := (lt1_is hb0).trans qb; have hq := ckYt2 w w3 cx cy fx fy wx wy mx my hb (by refine ⟨?_, ?_, ?_, ?_, ?_, ?_, ?_, ?_, ?_, ?_, ?_, ?_, ?_⟩ <;> first | assumption | go_keep); clear z0_0 z0_1 z1_0 z1_1 z2_0 z2_1 z3_0 z3_1 z3_2 z3_3 z3_4 k0 k1; obtain ⟨z0_0, z0_1, z1_0, z1_1, z2_0, z2_1, z3_0, z3_1, z3_2, z3_3, z3_4, k0, k1⟩ := hq; replace BF := gwYt4 w cx cy fx fy wx wy hb (by repeat (first | exact BF | apply bl_alloc | apply bl_drewN)); clear hb; obtain ⟨l0, l1, l2, l3⟩ := ltYt3 BF; have lk := World.block_lt_of_cell? _ _ k0; simp only at lk; have fE : ∀ o, w5.frozen? ⟨w.heap.size + 1 + 1 + 1, o, none⟩ = false := fun o => (BF.2 _).trans (fR o)) | (go_at_call 31; (with_reducible refine (rSquare_n _ hm).mono ?_); rintro e w6 ⟨s, hs, rfl, hb⟩; have hq := ckYt2 w w3 cx cy fx fy wx wy mx my hb (by refine ⟨?_, ?_, ?_, ?_, ?_, ?_, ?_, ?_, ?_, ?_, ?_, ?_, ?_⟩ <;> first | assumption | go_keep); clear z0_0 z0_1 z1_0 z1_1 z2_0 z2_1 z3_0 z3_1 z3_2 z3_3 z3_4 k0 k1; obtain ⟨z0_0, z0_1, z1_0, z1_1, z2_0, z2_1, z3_0, z3_1, z3_2, z3_3, z3_4, k0, k1⟩ := hq; replace BF := gwYt4 w cx cy fx fy wx wy hb (by repeat (first | exact BF | apply bl_alloc | apply bl_drewN)); clear hb; obtain ⟨l0, l1, l2, l3⟩ := ltYt3 BF; have lk := World.block_lt_of_cell? _ _ k0; simp only at lk; have fE : ∀ o, w6.frozen? ⟨w.heap.size + 1 + 1 + 1, o, none⟩ = false := fun o => (BF.2 _).trans (fR o); have HC := fun W1 W2 => o_is (op := .sub) W2 hs (o_is (op := .mul) W1 hr hr); have gc := fun W1 W2 => (lt0_is (HC W1 W2)).trans qc; have HD := fun W1 W2 W3 W4 W5 => o_is (op := .sub) W5 (o_is (op := .mul) W1 hb0 hb0) (o_is (op := .mul) W4 ha0 (HC W2 W3)); have gd := fun W1 W2 W3 W4 W5 => (lt1_is (HD W1 W2 W3 W4 W5)).trans qd; skip) | (go_at_call 24; refine (sqrt_any _ _).mono ?_; rintro e w6 ⟨rq, nq, hq, rfl, rfl⟩; have hq2 : isF rq (qF (ciD C R F Y)) := ⟨hq.1, by rw [sq_n hq, (HD _ _ _ _ _).2]; rfl⟩; have HT : ∀ W1 W2 : World, isF (fv .quo .f64 (fv .sub .f64 (Op.negFloat .f64 b0) rq W1) a0 W2) (ciT C R F Y) := fun W1 W2 => o_is (op := .quo) W2 (o_is (op := .sub) W1 (ng_is hb0) hq2) ha0) | (go_at_call 34; refine (part12_n _ (HT _ _)).mono ?_; rintro e w7 ⟨rfl, rfl⟩; rw [qp]) | (go_at_call 35; refine (rMore_n _ hf (HT _ _) hw).mono ?_; rintro e w8 ⟨ax, ay, hA, rfl, hb⟩; have hq := ckYt1 w cx cy fx fy wx wy hb (by refine ⟨?_, ?_, ?_, ?_, ?_, ?_, ?_, ?_, ?_, ?_, ?_⟩ <;> first | assumption | go_keep); clear z0_0 z0_1 z1_0 z1_1 z2_0 z2_1 z3_0 z3_1 z3_2 z3_3 z3_4; obtain ⟨z0_0, z0_1, z1_0, z1_1, z2_0, z2_1, z3_0, z3_1, z3_2, z3_3, z3_4⟩ := hq; replace BF := gwYt4 w cx cy fx fy wx wy hb (by repeat (first | exact BF | apply bl_alloc | apply bl_drewN)); clear hb; obtain ⟨l0, l1, l2, l3⟩ := ltYt3 BF; have fE : ∀ o, w8.frozen? ⟨w.heap.size + 1 + 1 + 1, o, none⟩ = false := fun o => (BF.2 _).trans (fR o)))
  have B2 : Bel w8 (w8.alloc (.cells #[.float .f64 ax, .float .f64 ay] 24)) := bl_alloc (bl_refl _) _ _
  have e0 : (w8.alloc (.cells #[.float .f64 ax, .float .f64 ay] 24)).cell? ⟨w8.heap.size, 0, none⟩ = some (.float .f64 ax) := by rw [World.cell?_alloc_new]; rfl
  have e1 : (w8.alloc (.cells #[.float .f64 ax, .float .f64 ay] 24)).cell? ⟨w8.heap.size, 1, none⟩ = some (.float .f64 ay) := by rw [World.cell?_alloc_new]; rfl
  replace z0_0 := keep B2 z0_0
  replace z0_1 := keep B2 z0_1
  replace z1_0 := keep B2 z1_0
  replace z1_1 := keep B2 z1_1
  replace z2_0 := keep B2 z2_0
  replace z2_1 := keep B2 z2_1
  replace z3_0 := keep B2 z3_0
  replace z3_1 := keep B2 z3_1
  replace z3_2 := keep B2 z3_2
  replace z3_3 := keep B2 z3_3
  replace z3_4 := keep B2 z3_4
  replace BF := bl_trans BF B2
  have hzz := BF.size
  simp only [World.size_alloc] at hzz
  replace fR : ∀ o, (w8.alloc (.cells #[.float .f64 ax, .float .f64 ay] 24)).frozen? ⟨w.heap.size + 1 + 1 + 1, o, none⟩ = false := fun o => (B2.2 _).trans (fE o)
  have nk : w8.heap.size ≠ w.heap.size + 1 + 1 + 1 := by omega
  clear fE
  refine wp_region_ret 10 7 6 rfl (fun i v => match i with | 0 => v = .agg #[.float .f64 ax, .float .f64 ay] | 1 => v = .agg #[.float .f64 ax, .float .f64 ay] | 2 => v = .agg #[.float .f64 cx, .float .f64 cy] | 3 => ∃ x y, isP x y (suF (moF F (ciT C R F Y) Y) C) ∧ v = .agg #[.float .f64 x, .float .f64 y] | 4 => ∃ x y, isP x y (uvF (suF (moF F (ciT C R F Y) Y) C)) ∧ v = .agg #[.float .f64 x, .float .f64 y] | 5 => ∃ p, isF p (ciT C R F Y) ∧ v = .float .f64 p | 6 => ∃ u q p, isP u q (uvF (suF (moF F (ciT C R F Y) Y) C)) ∧ isF p (ciT C R F Y) ∧ v = .agg #[.float .f64 ax, .float .f64 ay, .float .f64 u, .float .f64 q, .float .f64 p] | 8 => v = .bool true | 9 => v = .int .i64 0 | _ => False) (putN (w.heap.size + 1 + 1 + 1) 5) ?A_wo (by kernel_rfl) (by kernel_rfl) (by kernel_rfl) (by decide) (by decide) ?hA_wo ?hst_wo ?hq_wo ?ht_wo
  case hA_wo =>
    intro s
    simp only [putL, dstO, Act.put, List.getElem?_toArray, List.getElem?_cons_zero, List.getElem?_cons_succ, Option.bind_some, List.setIfInBounds_toArray, List.set_cons_zero, List.set_cons_succ, if_true]
    all_goals exact rfl
  case hst_wo =>
    intro o ho s hs W hb K hK
    cases ho
    have u0 := keep hb z3_0; have u1 := keep hb z3_1; have u2 := keep hb z3_2; have u3 := keep hb z3_3; have u4 := keep hb z3_4; have u9 := fun o => (hb.2 ⟨w.heap.size + 1 + 1 + 1, o, none⟩).trans (fR o)
    obtain ⟨u, q, p, g6, h6, e6⟩ := hs 6 (by decide) (by kernel_rfl)
    simp only [e6] at hK ⊢
    clear hs
    go_simp
    exact hK.out
  case hq_wo =>
    intro i o hi hne ho s hs W hb K hK
    have ue0 := once_keepN hb e0 (by simp only; omega); have ue1 := once_keepN hb e1 (by simp only; omega); have uz0_0 := once_keepN hb z0_0 (by simp only; omega); have uz0_1 := once_keepN hb z0_1 (by simp only; omega); have uz1_0 := once_keepN hb z1_0 (by simp only; omega); have uz1_1 := once_keepN hb z1_1 (by simp only; omega); have uz2_0 := once_keepN hb z2_0 (by simp only; omega); have uz2_1 := once_keepN hb z2_1 (by simp only; omega)
    rcases (show i = 0 ∨ i = 1 ∨ i = 2 ∨ i = 3 ∨ i = 4 ∨ i = 5 ∨ i = 6 ∨ i = 7 ∨ i = 8 ∨ i = 9 by omega) with rfl | rfl | rfl | rfl | rfl | rfl | rfl | rfl | rfl | rfl
    rotate_left 3
    cases ho
    have e1 : s 1 = _ := hs 1 (by decide) (by decide) (by kernel_rfl)
    have e2 : s 2 = _ := hs 2 (by decide) (by decide) (by kernel_rfl)
    simp only [e1, e2] at hK ⊢
    rotate_left 1
    cases ho
    obtain ⟨x, y, h3, e3⟩ := hs 3 (by decide) (by decide) (by kernel_rfl)
    simp only [e3] at hK ⊢
    rotate_left 2
    cases ho
    have e0 : s 0 = _ := hs 0 (by decide) (by decide) (by kernel_rfl)
    obtain ⟨u, q, h4, e4⟩ := hs 4 (by decide) (by decide) (by kernel_rfl)
    obtain ⟨p, h5, e5⟩ := hs 5 (by decide) (by decide) (by kernel_rfl)
    simp only [e0, e4, e5] at hK ⊢
    rotate_left 1
    · exact absurd rfl hne
    rotate_left 2
    all_goals
      try cases ho
      simp only [Act.put, List.setIfInBounds_toArray, List.set_cons_zero, List.set_cons_succ] at hK
      clear hs hne
      go_simp
      all_goals (try go_wp2_with (first | (go_at_call 30; (with_reducible refine (rSub_n _ hA hc).mono ?_); rintro e w' ⟨x, y, h3, rfl, hb1⟩) | (go_at_call 36; (with_reducible refine (unit12_n _ h3).mono ?_); rintro e w' ⟨u, q, h4, rfl, hb1⟩)))
      all_goals first | exact hK.out _ _ ⟨_, _, h3, rfl⟩ hb1 | exact hK.out _ _ ⟨_, _, h4, rfl⟩ hb1 | exact hK.out _ _ ⟨_, HT _ _, rfl⟩ (bl_refl _) | exact hK.out _ _ ⟨_, _, _, h4, h5, rfl⟩ (bl_refl _) | exact hK.out _ _ rfl (bl_refl _) | exact hK.out _ _ rfl (by assumption) | exact hK.out _ _ (by assumption) (by assumption)
  case ht_wo =>
    intro s hs W0 W hb0 hb
    have e0 : s 0 = _ := hs 0 (by decide) (by decide)
    have e1 : s 1 = _ := hs 1 (by decide) (by decide)
    have e2 : s 2 = _ := hs 2 (by decide) (by decide)
    obtain ⟨_, _, _, e3⟩ := hs 3 (by decide) (by decide)
    obtain ⟨_, _, _, e4⟩ := hs 4 (by decide) (by decide)
    obtain ⟨_, _, e5⟩ := hs 5 (by decide) (by decide)
    obtain ⟨u, q, p, g6, h6, e6⟩ := hs 6 (by decide) (by decide)
    have e8 : s 8 = _ := hs 8 (by decide) (by decide)
    have e9 : s 9 = _ := hs 9 (by decide) (by decide)
    simp only [e0, e1, e2, e3, e4, e5, e6, e8, e9]
    rw [e6] at hb
    clear hs e0 e1 e2 e3 e4 e5 e6 e8 e9
    have RA := putN_at (R := w.heap.size + 1 + 1 + 1) (W := W0) (v := .agg #[.float .f64 ax, .float .f64 ay, .float .f64 u, .float .f64 q, .float .f64 p]) 5 (fun i hi => by rcases (show i = 0 ∨ i = 1 ∨ i = 2 ∨ i = 3 ∨ i = 4 by omega) with rfl | rfl | rfl | rfl | rfl <;> first | (rw [keep hb0 z3_0]; rfl) | (rw [keep hb0 z3_1]; rfl) | (rw [keep hb0 z3_2]; rfl) | (rw [keep hb0 z3_3]; rfl) | (rw [keep hb0 z3_4]; rfl))
    have R0 := keep hb (RA 0 (by decide)); have R1 := keep hb (RA 1 (by decide)); have R2 := keep hb (RA 2 (by decide)); have R3 := keep hb (RA 3 (by decide)); have R4 := keep hb (RA 4 (by decide))
    simp only [cellAt] at R0 R1 R2 R3 R4
    replace BF := bl_trans (putN_bel (bl_trans (bl_trans B0 BF) hb0) (show w.heap.size ≤ w.heap.size + 1 + 1 + 1 by omega) 5) hb
    go_wp2
    refine bodyPost_ret (rcircle_res _ _ _ _ _ _ _ _ _ _ rfl rfl rfl R0 R1 R2 R3 R4) rfl ⟨_, _, _, _, _, ?_, rfl, BF⟩
    simp only [ciH]; exact isH_of hA g6 h6
theorem rcircle_n {cx cy r fx fy wx wy R : Nat} {C F Y : Vp} (w : World) (hc : isP cx cy C) (hr : isF r R) (hf : isP fx fy F) (hw : isP wx wy Y) : Calls Tryz.prog 7 #[.agg #[.float .f64 cx, .float .f64 cy], .float .f64 r, .agg #[.float .f64 fx, .float .f64 fy], .agg #[.float .f64 wx, .float .f64 wy]] w fun e w' => ∃ hx9 hy9 nx9 ny9 ht9 : Nat, isH hx9 hy9 nx9 ny9 ht9 ((ciX C R F Y).2) ∧ e = .returned (.tuple #[.agg #[.float .f64 hx9, .float .f64 hy9, .float .f64 nx9, .float .f64 ny9, .float .f64 ht9], .bool (ciX C R F Y).1, .int .i64 (ciE C R F Y)]) ∧ Bel w w' := by
  have hrd : rdB R = (leK .f64 4472074429978902528 r && leK .f64 r 4787326403894837248) := (rd_is hr).symm
  cases q1 : inB C.1 C.2
  · have e1 : ciE C R F Y = 5 := by unfold ciE; rw [q1]; rfl
    have e2 : ciX C R F Y = (false, zeH) := by unfold ciX; rw [e1]; rfl
    rw [e1, e2]; exact rcircle_b1 w hc hr hf hw q1
  cases g1 : leK .f64 4472074429978902528 r
  · have e1 : ciE C R F Y = 5 := by unfold ciE; rw [hrd, q1, g1]; rfl
    have e2 : ciX C R F Y = (false, zeH) := by unfold ciX; rw [e1]; rfl
    rw [e1, e2]; exact rcircle_b2 w hc hr hf hw q1 g1
  cases g2 : leK .f64 r 4787326403894837248
  · have e1 : ciE C R F Y = 5 := by unfold ciE; rw [hrd, q1, g1, g2]; rfl
    have e2 : ciX C R F Y = (false, zeH) := by unfold ciX; rw [e1]; rfl
    rw [e1, e2]; exact rcircle_b3 w hc hr hf hw q1 g1 g2
  have e1 : ciE C R F Y = ryE F Y := by unfold ciE; rw [hrd, q1, g1, g2]; rfl
  by_cases he : ryE F Y = 0
  · have e2 : ciX C R F Y = ciR C R F Y := by unfold ciX; rw [e1, he]; rfl
    rw [e1, e2, he]
    unfold ciR
    cases qc : ltK .f64 0 (ciC C R F)
    · rw [pkF_no rfl]; exact rcircle_in w hc hr hf hw q1 g1 g2 he qc rfl
    rw [pkF_yes rfl]
    cases qb : ltK .f64 (ciB C F Y) 0
    · rw [Bool.false_and, pkF_no rfl]; exact rcircle_nb w hc hr hf hw q1 g1 g2 he qc qb
    cases qd : ltK .f64 (ciD C R F Y) 0
    · rw [show (true && !false) = true from rfl, pkF_yes rfl]
      cases qp : paB (ciT C R F Y)
      · rw [pkF_no rfl]; exact rcircle_np w hc hr hf hw q1 g1 g2 he qc qb qd qp
      · rw [pkF_yes rfl]; exact rcircle_hit w hc hr hf hw q1 g1 g2 he qc qb qd qp
    · rw [show (true && !true) = false from rfl, pkF_no rfl]; exact rcircle_nd w hc hr hf hw q1 g1 g2 he qc qb qd
  · have e2 : ciX C R F Y = (false, zeH) := by unfold ciX; rw [e1, decide_eq_false he]; rfl
    rw [e1, e2]; exact rcircle_ry w hc hr hf hw q1 g1 g2 he

end Go.Proofs.YtdeooadeohojcaaGreat
