/-
  What each function of package poly answers, and what the reference of its chapter answers: one contract a function, for every float: the answer stands in the relation of its formula to what was given; of the memory that was there nothing has turned.
-/
import Derived.Test.YtdeooadeohojcaaGreatVec
import Derived.Test.YtdeooadeohojcaaGreatYf
import Derived.Test.YtdeooadeohojcaaGreatRyc
import Derived.Test.YtdeooadeohojcaaGreatSc
import Derived.Below
import Derived.WalkKit
import Derived.WalkLawsBesides
import Derived.WalkSpells
import Derived.ProofKit
import Derived.OpenShut
import Derived.Deep.RegionHeld3
namespace Go.Proofs.YtdeooadeohojcaaGreat
open Go.ChangeShapes Go.WideShapes Go.ChangeAt Go.RowKit
set_option linter.unusedVariables false
set_option linter.unusedSimpArgs false


theorem ckYg0 (w : World) (fx fy wx wy : Nat) {W0 W1 : World} (hb : Bel W0 W1) (h : W0.cell? ⟨w.heap.size + 1, 0, none⟩ = some (.float .f64 fx) ∧ W0.cell? ⟨w.heap.size + 1, 1, none⟩ = some (.float .f64 fy) ∧ W0.cell? ⟨w.heap.size + 1 + 1, 0, none⟩ = some (.float .f64 wx) ∧ W0.cell? ⟨w.heap.size + 1 + 1, 1, none⟩ = some (.float .f64 wy) ∧ W0.cell? ⟨w.heap.size + 1 + 1 + 1, 0, none⟩ = some (.float .f64 0) ∧ W0.cell? ⟨w.heap.size + 1 + 1 + 1, 1, none⟩ = some (.float .f64 0) ∧ W0.cell? ⟨w.heap.size + 1 + 1 + 1, 2, none⟩ = some (.float .f64 0) ∧ W0.cell? ⟨w.heap.size + 1 + 1 + 1, 3, none⟩ = some (.float .f64 0) ∧ W0.cell? ⟨w.heap.size + 1 + 1 + 1, 4, none⟩ = some (.float .f64 0)) : W1.cell? ⟨w.heap.size + 1, 0, none⟩ = some (.float .f64 fx) ∧ W1.cell? ⟨w.heap.size + 1, 1, none⟩ = some (.float .f64 fy) ∧ W1.cell? ⟨w.heap.size + 1 + 1, 0, none⟩ = some (.float .f64 wx) ∧ W1.cell? ⟨w.heap.size + 1 + 1, 1, none⟩ = some (.float .f64 wy) ∧ W1.cell? ⟨w.heap.size + 1 + 1 + 1, 0, none⟩ = some (.float .f64 0) ∧ W1.cell? ⟨w.heap.size + 1 + 1 + 1, 1, none⟩ = some (.float .f64 0) ∧ W1.cell? ⟨w.heap.size + 1 + 1 + 1, 2, none⟩ = some (.float .f64 0) ∧ W1.cell? ⟨w.heap.size + 1 + 1 + 1, 3, none⟩ = some (.float .f64 0) ∧ W1.cell? ⟨w.heap.size + 1 + 1 + 1, 4, none⟩ = some (.float .f64 0) := ⟨keep hb h.1, keep hb h.2.1, keep hb h.2.2.1, keep hb h.2.2.2.1, keep hb h.2.2.2.2.1, keep hb h.2.2.2.2.2.1, keep hb h.2.2.2.2.2.2.1, keep hb h.2.2.2.2.2.2.2.1, keep hb h.2.2.2.2.2.2.2.2⟩

theorem ltYg1 {w W : World} {o0 o1 o2 o3 : Obj} (h : Bel ((((w.alloc o0).alloc o1).alloc o2).alloc o3) W) : w.heap.size < W.heap.size ∧ w.heap.size + 1 < W.heap.size ∧ w.heap.size + 1 + 1 < W.heap.size ∧ w.heap.size + 1 + 1 + 1 < W.heap.size := by
  have hz := h.size
  simp only [World.size_alloc] at hz
  refine ⟨?_, ?_, ?_, ?_⟩ <;> omega

set_option maxRecDepth 100000 in
theorem capsule_res (tmps : Array Value) (Z : World) (r hx hy nx ny ht : Nat) (bb : Bool) (er : Int) (h4 : tmps[6]?.getD undef = .pointer (some ⟨r, 0, none⟩)) (h5 : tmps[7]?.getD undef = .bool bb) (h6 : tmps[8]?.getD undef = .int .i64 er) (c0 : Z.cell? ⟨r, 0, none⟩ = some (.float .f64 hx)) (c1 : Z.cell? ⟨r, 1, none⟩ = some (.float .f64 hy)) (c2 : Z.cell? ⟨r, 2, none⟩ = some (.float .f64 nx)) (c3 : Z.cell? ⟨r, 3, none⟩ = some (.float .f64 ny)) (c4 : Z.cell? ⟨r, 4, none⟩ = some (.float .f64 ht)) :
    (results Tryz.f53 tmps).run Tryz.prog Z = .ok (.tuple #[.agg #[.float .f64 hx, .float .f64 hy, .float .f64 nx, .float .f64 ny, .float .f64 ht], .bool bb, .int .i64 er]) Z := by
  simp [results, Tryz.results53, h4, h5, h6, c0, c1, c2, c3, c4, go_sem]
  first | done | rfl | exact ⟨rfl, rfl⟩

set_option maxRecDepth 100000 in
set_option maxHeartbeats 8000000 in
theorem capsule_out {b off cap r fx fy wx wy R : Nat} {xs ys : Nat → Nat} {F Y : Vp} (w : World) (hA : AnyS w (.slice (some ⟨b, off, none⟩) 2 cap) 2 xs ys) (sA : Sl w b off 2 xs ys) (o : Oks xs ys 2) (hcap : 2 ≤ cap) (hr : isF r R) (hf : isP fx fy F) (hw : isP wx wy Y) (qh : hasA 2 r xs ys 2 fx fy = false) : Calls Tryz.prog 53 #[.agg #[.int .u8 2, .float .f64 r, .slice (some ⟨b, off, none⟩) 2 cap], .agg #[.float .f64 fx, .float .f64 fy], .agg #[.float .f64 wx, .float .f64 wy]] w fun e w' => ∃ hx9 hy9 nx9 ny9 ht9 : Nat, isH hx9 hy9 nx9 ny9 ht9 ((cpS (sdA xs ys 0) (sdA xs ys 1) R F Y 2).2) ∧ e = .returned (.tuple #[.agg #[.float .f64 hx9, .float .f64 hy9, .float .f64 nx9, .float .f64 ny9, .float .f64 ht9], .bool (cpS (sdA xs ys 0) (sdA xs ys 1) R F Y 2).1, .int .i64 (0)]) ∧ Bel w w' := by
  have z0_0 : (w.alloc (.cells #[.int .u8 2, .float .f64 r, .slice (some ⟨b, off, none⟩) 2 cap] 38)).cell? ⟨w.heap.size, 0, none⟩ = some (.int .u8 2) := by rw [World.cell?_alloc_new]; rfl
  replace z0_0 := up_alloc (o := .cells #[.float .f64 fx, .float .f64 fy] 24) z0_0
  replace z0_0 := up_alloc (o := .cells #[.float .f64 wx, .float .f64 wy] 24) z0_0
  replace z0_0 := up_alloc (o := .cells #[.float .f64 0, .float .f64 0, .float .f64 0, .float .f64 0, .float .f64 0] 28) z0_0
  have z0_1 : (w.alloc (.cells #[.int .u8 2, .float .f64 r, .slice (some ⟨b, off, none⟩) 2 cap] 38)).cell? ⟨w.heap.size, 1, none⟩ = some (.float .f64 r) := by rw [World.cell?_alloc_new]; rfl
  replace z0_1 := up_alloc (o := .cells #[.float .f64 fx, .float .f64 fy] 24) z0_1
  replace z0_1 := up_alloc (o := .cells #[.float .f64 wx, .float .f64 wy] 24) z0_1
  replace z0_1 := up_alloc (o := .cells #[.float .f64 0, .float .f64 0, .float .f64 0, .float .f64 0, .float .f64 0] 28) z0_1
  have z0_2 : (w.alloc (.cells #[.int .u8 2, .float .f64 r, .slice (some ⟨b, off, none⟩) 2 cap] 38)).cell? ⟨w.heap.size, 2, none⟩ = some (.slice (some ⟨b, off, none⟩) 2 cap) := by rw [World.cell?_alloc_new]; rfl
  replace z0_2 := up_alloc (o := .cells #[.float .f64 fx, .float .f64 fy] 24) z0_2
  replace z0_2 := up_alloc (o := .cells #[.float .f64 wx, .float .f64 wy] 24) z0_2
  replace z0_2 := up_alloc (o := .cells #[.float .f64 0, .float .f64 0, .float .f64 0, .float .f64 0, .float .f64 0] 28) z0_2
  have z1_0 : ((w.alloc (.cells #[.int .u8 2, .float .f64 r, .slice (some ⟨b, off, none⟩) 2 cap] 38)).alloc (.cells #[.float .f64 fx, .float .f64 fy] 24)).cell? ⟨w.heap.size + 1, 0, none⟩ = some (.float .f64 fx) := by rw [← (show (w.alloc (.cells #[.int .u8 2, .float .f64 r, .slice (some ⟨b, off, none⟩) 2 cap] 38)).heap.size = w.heap.size + 1 by simp only [World.size_alloc]), World.cell?_alloc_new]; rfl
  replace z1_0 := up_alloc (o := .cells #[.float .f64 wx, .float .f64 wy] 24) z1_0
  replace z1_0 := up_alloc (o := .cells #[.float .f64 0, .float .f64 0, .float .f64 0, .float .f64 0, .float .f64 0] 28) z1_0
  have z1_1 : ((w.alloc (.cells #[.int .u8 2, .float .f64 r, .slice (some ⟨b, off, none⟩) 2 cap] 38)).alloc (.cells #[.float .f64 fx, .float .f64 fy] 24)).cell? ⟨w.heap.size + 1, 1, none⟩ = some (.float .f64 fy) := by rw [← (show (w.alloc (.cells #[.int .u8 2, .float .f64 r, .slice (some ⟨b, off, none⟩) 2 cap] 38)).heap.size = w.heap.size + 1 by simp only [World.size_alloc]), World.cell?_alloc_new]; rfl
  replace z1_1 := up_alloc (o := .cells #[.float .f64 wx, .float .f64 wy] 24) z1_1
  replace z1_1 := up_alloc (o := .cells #[.float .f64 0, .float .f64 0, .float .f64 0, .float .f64 0, .float .f64 0] 28) z1_1
  have z2_0 : (((w.alloc (.cells #[.int .u8 2, .float .f64 r, .slice (some ⟨b, off, none⟩) 2 cap] 38)).alloc (.cells #[.float .f64 fx, .float .f64 fy] 24)).alloc (.cells #[.float .f64 wx, .float .f64 wy] 24)).cell? ⟨w.heap.size + 1 + 1, 0, none⟩ = some (.float .f64 wx) := by rw [← (show ((w.alloc (.cells #[.int .u8 2, .float .f64 r, .slice (some ⟨b, off, none⟩) 2 cap] 38)).alloc (.cells #[.float .f64 fx, .float .f64 fy] 24)).heap.size = w.heap.size + 1 + 1 by simp only [World.size_alloc]), World.cell?_alloc_new]; rfl
  replace z2_0 := up_alloc (o := .cells #[.float .f64 0, .float .f64 0, .float .f64 0, .float .f64 0, .float .f64 0] 28) z2_0
  have z2_1 : (((w.alloc (.cells #[.int .u8 2, .float .f64 r, .slice (some ⟨b, off, none⟩) 2 cap] 38)).alloc (.cells #[.float .f64 fx, .float .f64 fy] 24)).alloc (.cells #[.float .f64 wx, .float .f64 wy] 24)).cell? ⟨w.heap.size + 1 + 1, 1, none⟩ = some (.float .f64 wy) := by rw [← (show ((w.alloc (.cells #[.int .u8 2, .float .f64 r, .slice (some ⟨b, off, none⟩) 2 cap] 38)).alloc (.cells #[.float .f64 fx, .float .f64 fy] 24)).heap.size = w.heap.size + 1 + 1 by simp only [World.size_alloc]), World.cell?_alloc_new]; rfl
  replace z2_1 := up_alloc (o := .cells #[.float .f64 0, .float .f64 0, .float .f64 0, .float .f64 0, .float .f64 0] 28) z2_1
  have z3_0 : ((((w.alloc (.cells #[.int .u8 2, .float .f64 r, .slice (some ⟨b, off, none⟩) 2 cap] 38)).alloc (.cells #[.float .f64 fx, .float .f64 fy] 24)).alloc (.cells #[.float .f64 wx, .float .f64 wy] 24)).alloc (.cells #[.float .f64 0, .float .f64 0, .float .f64 0, .float .f64 0, .float .f64 0] 28)).cell? ⟨w.heap.size + 1 + 1 + 1, 0, none⟩ = some (.float .f64 0) := by rw [← (show (((w.alloc (.cells #[.int .u8 2, .float .f64 r, .slice (some ⟨b, off, none⟩) 2 cap] 38)).alloc (.cells #[.float .f64 fx, .float .f64 fy] 24)).alloc (.cells #[.float .f64 wx, .float .f64 wy] 24)).heap.size = w.heap.size + 1 + 1 + 1 by simp only [World.size_alloc]), World.cell?_alloc_new]; rfl
  have z3_1 : ((((w.alloc (.cells #[.int .u8 2, .float .f64 r, .slice (some ⟨b, off, none⟩) 2 cap] 38)).alloc (.cells #[.float .f64 fx, .float .f64 fy] 24)).alloc (.cells #[.float .f64 wx, .float .f64 wy] 24)).alloc (.cells #[.float .f64 0, .float .f64 0, .float .f64 0, .float .f64 0, .float .f64 0] 28)).cell? ⟨w.heap.size + 1 + 1 + 1, 1, none⟩ = some (.float .f64 0) := by rw [← (show (((w.alloc (.cells #[.int .u8 2, .float .f64 r, .slice (some ⟨b, off, none⟩) 2 cap] 38)).alloc (.cells #[.float .f64 fx, .float .f64 fy] 24)).alloc (.cells #[.float .f64 wx, .float .f64 wy] 24)).heap.size = w.heap.size + 1 + 1 + 1 by simp only [World.size_alloc]), World.cell?_alloc_new]; rfl
  have z3_2 : ((((w.alloc (.cells #[.int .u8 2, .float .f64 r, .slice (some ⟨b, off, none⟩) 2 cap] 38)).alloc (.cells #[.float .f64 fx, .float .f64 fy] 24)).alloc (.cells #[.float .f64 wx, .float .f64 wy] 24)).alloc (.cells #[.float .f64 0, .float .f64 0, .float .f64 0, .float .f64 0, .float .f64 0] 28)).cell? ⟨w.heap.size + 1 + 1 + 1, 2, none⟩ = some (.float .f64 0) := by rw [← (show (((w.alloc (.cells #[.int .u8 2, .float .f64 r, .slice (some ⟨b, off, none⟩) 2 cap] 38)).alloc (.cells #[.float .f64 fx, .float .f64 fy] 24)).alloc (.cells #[.float .f64 wx, .float .f64 wy] 24)).heap.size = w.heap.size + 1 + 1 + 1 by simp only [World.size_alloc]), World.cell?_alloc_new]; rfl
  have z3_3 : ((((w.alloc (.cells #[.int .u8 2, .float .f64 r, .slice (some ⟨b, off, none⟩) 2 cap] 38)).alloc (.cells #[.float .f64 fx, .float .f64 fy] 24)).alloc (.cells #[.float .f64 wx, .float .f64 wy] 24)).alloc (.cells #[.float .f64 0, .float .f64 0, .float .f64 0, .float .f64 0, .float .f64 0] 28)).cell? ⟨w.heap.size + 1 + 1 + 1, 3, none⟩ = some (.float .f64 0) := by rw [← (show (((w.alloc (.cells #[.int .u8 2, .float .f64 r, .slice (some ⟨b, off, none⟩) 2 cap] 38)).alloc (.cells #[.float .f64 fx, .float .f64 fy] 24)).alloc (.cells #[.float .f64 wx, .float .f64 wy] 24)).heap.size = w.heap.size + 1 + 1 + 1 by simp only [World.size_alloc]), World.cell?_alloc_new]; rfl
  have z3_4 : ((((w.alloc (.cells #[.int .u8 2, .float .f64 r, .slice (some ⟨b, off, none⟩) 2 cap] 38)).alloc (.cells #[.float .f64 fx, .float .f64 fy] 24)).alloc (.cells #[.float .f64 wx, .float .f64 wy] 24)).alloc (.cells #[.float .f64 0, .float .f64 0, .float .f64 0, .float .f64 0, .float .f64 0] 28)).cell? ⟨w.heap.size + 1 + 1 + 1, 4, none⟩ = some (.float .f64 0) := by rw [← (show (((w.alloc (.cells #[.int .u8 2, .float .f64 r, .slice (some ⟨b, off, none⟩) 2 cap] 38)).alloc (.cells #[.float .f64 fx, .float .f64 fy] 24)).alloc (.cells #[.float .f64 wx, .float .f64 wy] 24)).heap.size = w.heap.size + 1 + 1 + 1 by simp only [World.size_alloc]), World.cell?_alloc_new]; rfl
  have B0 : Bel w ((((w.alloc (.cells #[.int .u8 2, .float .f64 r, .slice (some ⟨b, off, none⟩) 2 cap] 38)).alloc (.cells #[.float .f64 fx, .float .f64 fy] 24)).alloc (.cells #[.float .f64 wx, .float .f64 wy] 24)).alloc (.cells #[.float .f64 0, .float .f64 0, .float .f64 0, .float .f64 0, .float .f64 0] 28)) := bl_alloc (bl_alloc (bl_alloc (bl_alloc (bl_refl w) _ _) _ _) _ _) _ _
  have fR : ∀ o, ((((w.alloc (.cells #[.int .u8 2, .float .f64 r, .slice (some ⟨b, off, none⟩) 2 cap] 38)).alloc (.cells #[.float .f64 fx, .float .f64 fy] 24)).alloc (.cells #[.float .f64 wx, .float .f64 wy] 24)).alloc (.cells #[.float .f64 0, .float .f64 0, .float .f64 0, .float .f64 0, .float .f64 0] 28)).frozen? ⟨w.heap.size + 1 + 1 + 1, o, none⟩ = false := fun o => ((show Bel (((w.alloc (.cells #[.int .u8 2, .float .f64 r, .slice (some ⟨b, off, none⟩) 2 cap] 38)).alloc (.cells #[.float .f64 fx, .float .f64 fy] 24)).alloc (.cells #[.float .f64 wx, .float .f64 wy] 24)) ((((w.alloc (.cells #[.int .u8 2, .float .f64 r, .slice (some ⟨b, off, none⟩) 2 cap] 38)).alloc (.cells #[.float .f64 fx, .float .f64 fy] 24)).alloc (.cells #[.float .f64 wx, .float .f64 wy] 24)).alloc (.cells #[.float .f64 0, .float .f64 0, .float .f64 0, .float .f64 0, .float .f64 0] 28)) by repeat (first | exact bl_refl _ | apply bl_alloc)).2 _).trans (fresh_frozen (by simp only [World.size_alloc]; exact Nat.le_refl _))
  go_enter Tryz.func53, Tryz.ntmps53
  go_wp2_with (first | (go_at_call 79; refine (sHas_any _ 2 xs ys 2 r _ (hA.bel B0) hr.1 _ _ hf.1 hf.2.1).mono ?_; rintro e w1 ⟨rfl, hb⟩; rw [qh]; replace z0_0 : w1.cell? ⟨w.heap.size, 0, none⟩ = some (.int .u8 2) := keep hb (by first | exact z0_0 | go_keep); replace z0_1 : w1.cell? ⟨w.heap.size, 1, none⟩ = some (.float .f64 r) := keep hb (by first | exact z0_1 | go_keep); replace z0_2 : w1.cell? ⟨w.heap.size, 2, none⟩ = some (.slice (some ⟨b, off, none⟩) 2 cap) := keep hb (by first | exact z0_2 | go_keep); have hq := ckYg0 w fx fy wx wy hb (by refine ⟨?_, ?_, ?_, ?_, ?_, ?_, ?_, ?_, ?_⟩ <;> first | assumption | go_keep); clear z1_0 z1_1 z2_0 z2_1 z3_0 z3_1 z3_2 z3_3 z3_4; obtain ⟨z1_0, z1_1, z2_0, z2_1, z3_0, z3_1, z3_2, z3_3, z3_4⟩ := hq; have BF := hb; clear hb; obtain ⟨l0, l1, l2, l3⟩ := ltYg1 BF) | (go_at_call 72; refine (keeper_n 80 _).mono ?_; rintro e w2 ⟨rfl, hW⟩; have B12 : Bel w1 w2 := (by rw [hW]; exact bl_alloc (bl_alloc (bl_alloc (bl_refl _) _ _) _ _) _ _); have cb : w2.cell? ⟨w1.heap.size, 0, none⟩ = some (.func (.func 80) #[] #[]) := (by rw [hW]; exact kc1 w1 _ _ _ _ _); have ck0 : w2.cell? ⟨w1.heap.size + 1, 0, none⟩ = some (.float .f64 0) := (by rw [hW]; exact kc2 w1 _ _ _ _ _ 0 _ rfl); have ck1 : w2.cell? ⟨w1.heap.size + 1, 1, none⟩ = some (.float .f64 0) := (by rw [hW]; exact kc2 w1 _ _ _ _ _ 1 _ rfl); have ck2 : w2.cell? ⟨w1.heap.size + 1, 2, none⟩ = some (.float .f64 0) := (by rw [hW]; exact kc2 w1 _ _ _ _ _ 2 _ rfl); have ck3 : w2.cell? ⟨w1.heap.size + 1, 3, none⟩ = some (.float .f64 0) := (by rw [hW]; exact kc2 w1 _ _ _ _ _ 3 _ rfl); have ck4 : w2.cell? ⟨w1.heap.size + 1, 4, none⟩ = some (.float .f64 0) := (by rw [hW]; exact kc2 w1 _ _ _ _ _ 4 _ rfl); have ci : w2.cell? ⟨w1.heap.size + 1 + 1, 0, none⟩ = some (.bool false) := (by rw [hW]; exact kc3 w1 _ _ _ _ _); have w1z0_0 := z0_0; replace z0_0 := keep B12 z0_0; have w1z0_1 := z0_1; replace z0_1 := keep B12 z0_1; have w1z0_2 := z0_2; replace z0_2 := keep B12 z0_2; have w1z1_0 := z1_0; replace z1_0 := keep B12 z1_0; have w1z1_1 := z1_1; replace z1_1 := keep B12 z1_1; have w1z2_0 := z2_0; replace z2_0 := keep B12 z2_0; have w1z2_1 := z2_1; replace z2_1 := keep B12 z2_1; have w1z3_0 := z3_0; replace z3_0 := keep B12 z3_0; have w1z3_1 := z3_1; replace z3_1 := keep B12 z3_1; have w1z3_2 := z3_2; replace z3_2 := keep B12 z3_2; have w1z3_3 := z3_3; replace z3_3 := keep B12 z3_3; have w1z3_4 := z3_4; replace z3_4 := keep B12 z3_4; have h3 : w1.heap.size + 1 + 1 + 1 = w2.heap.size := (by rw [hW]; simp only [World.size_alloc]); have k0 : w.heap.size < w2.heap.size := (by omega); have k1 : w.heap.size + 1 < w2.heap.size := (by omega); have k2 : w.heap.size + 1 + 1 < w2.heap.size := (by omega); have k3 : w.heap.size + 1 + 1 + 1 < w2.heap.size := (by omega); clear hW))
  have fz0 : ∀ o, w1.frozen? ⟨w.heap.size + 1 + 1 + 1, o, none⟩ = false := fun o => (BF.2 _).trans (fR o)
  have fz1 : ∀ o, w1.frozen? ⟨w1.heap.size + 1, o, none⟩ = false := fun o => fresh_frozen (by omega)
  have fz2 : ∀ o, w1.frozen? ⟨w1.heap.size + 1 + 1, o, none⟩ = false := fun o => fresh_frozen (by omega)
  go_loopw [49] (fun i' wr => ∃ (k : Nat) (s : Hb) (hx1 hy1 nx1 ny1 ht1 : Nat), k ≤ 2 ∧ i' = .int .i64 k ∧ isH hx1 hy1 nx1 ny1 ht1 (s.2) ∧ Hid (s = cpA (sdA xs ys 0) (sdA xs ys 1) R F Y k) ∧ Bel w1 wr ∧ wr.cell? ⟨w1.heap.size, 0, none⟩ = some (.func (.func 80) #[] #[]) ∧ wr.cell? ⟨w1.heap.size + 1, 0, none⟩ = some (.float .f64 hx1) ∧ wr.cell? ⟨w1.heap.size + 1, 1, none⟩ = some (.float .f64 hy1) ∧ wr.cell? ⟨w1.heap.size + 1, 2, none⟩ = some (.float .f64 nx1) ∧ wr.cell? ⟨w1.heap.size + 1, 3, none⟩ = some (.float .f64 ny1) ∧ wr.cell? ⟨w1.heap.size + 1, 4, none⟩ = some (.float .f64 ht1) ∧ wr.cell? ⟨w1.heap.size + 1 + 1, 0, none⟩ = some (.bool s.1)) (fun i' _ => 2 - (intOf i').toNat)
  case atStart => exact ⟨0, (false, zeH), 0, 0, 0, 0, 0, by omega, rfl, zeH_is, hide rfl, B12, cb, ck0, ck1, ck2, ck3, ck4, ci⟩
  case round =>
    clear cb ck0 ck1 ck2 ck3 ck4 ci
    obtain ⟨k, ⟨s1, sH⟩, hx1, hy1, nx1, ny1, ht1, hk, rfl, hH, hE, hBr, cb, ck0, ck1, ck2, ck3, ck4, ci⟩ := hrel
    simp only at hH ci
    have lc := World.block_lt_of_cell? _ _ ci
    simp only at lc
    replace z0_0 := keep hBr w1z0_0
    replace z0_1 := keep hBr w1z0_1
    replace z0_2 := keep hBr w1z0_2
    replace z1_0 := keep hBr w1z1_0
    replace z1_1 := keep hBr w1z1_1
    replace z2_0 := keep hBr w1z2_0
    replace z2_1 := keep hBr w1z2_1
    replace z3_0 := keep hBr w1z3_0
    replace z3_1 := keep hBr w1z3_1
    replace z3_2 := keep hBr w1z3_2
    replace z3_3 := keep hBr w1z3_3
    replace z3_4 := keep hBr w1z3_4
    have hsz := hBr.size
    have lr0 : w.heap.size < wr.heap.size := by omega
    have lr1 : w.heap.size + 1 < wr.heap.size := by omega
    have lr2 : w.heap.size + 1 + 1 < wr.heap.size := by omega
    have lr3 : w.heap.size + 1 + 1 + 1 < wr.heap.size := by omega
    by_cases hlt : k < 2
    · have k1 : (k : Int) < 2 := by omega
      have hpk : isP (xs k) (ys k) (sdA xs ys k) := isP_self (o k hlt).1 (o k hlt).2
      obtain ⟨c0, c1⟩ := (sA.bel (bl_trans (bl_trans B0 BF) hBr)) k hlt
      cases qx : (ciX (sdA xs ys k) R F Y).1
      · go_wp2_with (first | (go_at_call 6; refine (circle_n _ hpk hr hf hw).mono ?_; rintro e w5 ⟨hx2, hy2, nx2, ny2, ht2, hX, rfl, hb⟩; rw [qx]; replace cb := keep hb (up_alloc cb); replace ck0 := keep hb (up_alloc ck0); replace ck1 := keep hb (up_alloc ck1); replace ck2 := keep hb (up_alloc ck2); replace ck3 := keep hb (up_alloc ck3); replace ck4 := keep hb (up_alloc ck4); replace ci := keep hb (up_alloc ci); have BW : Bel w1 w5 := bl_trans (bl_alloc hBr _ _) hb; clear hb; have lc := World.block_lt_of_cell? _ _ ci; simp only at lc))
        exact ⟨⟨k + 1, (s1, sH), hx1, hy1, nx1, ny1, ht1, by omega, by go_num, hH, hide (((cpT_no (s := (s1, sH)) qx).symm.trans (congrArg (fun z => cpT z (ciX (sdA xs ys k) R F Y)) (unhide hE))).trans (cpA_s hlt).symm), (bl_alloc BW _ _), up_alloc cb, up_alloc ck0, up_alloc ck1, up_alloc ck2, up_alloc ck3, up_alloc ck4, up_alloc ci⟩, by simp [intOf]; omega⟩
      · cases s1
        · go_wp2_with (first | (go_at_call 6; refine (circle_n _ hpk hr hf hw).mono ?_; rintro e w5 ⟨hx2, hy2, nx2, ny2, ht2, hX, rfl, hb⟩; rw [qx]; replace cb := keep hb (up_alloc cb); replace ck0 := keep hb (up_alloc ck0); replace ck1 := keep hb (up_alloc ck1); replace ck2 := keep hb (up_alloc ck2); replace ck3 := keep hb (up_alloc ck3); replace ck4 := keep hb (up_alloc ck4); replace ci := keep hb (up_alloc ci); have BW : Bel w1 w5 := bl_trans (bl_alloc hBr _ _) hb; clear hb; have lc := World.block_lt_of_cell? _ _ ci; simp only at lc) | (go_at_call 97; refine (tellS0 _ (by repeat (first | (with_reducible exact ci) | (with_reducible refine up_alloc ?_))) (by repeat (first | (with_reducible exact cb) | (with_reducible refine up_alloc ?_))) (by repeat (first | (with_reducible exact ck0) | (with_reducible refine up_alloc ?_))) (by repeat (first | (with_reducible exact ck1) | (with_reducible refine up_alloc ?_))) (by repeat (first | (with_reducible exact ck2) | (with_reducible refine up_alloc ?_))) (by repeat (first | (with_reducible exact ck3) | (with_reducible refine up_alloc ?_))) (by repeat (first | (with_reducible exact ck4) | (with_reducible refine up_alloc ?_))) (by omega) (by omega) (by omega) (fun o => (((by repeat (first | (with_reducible exact BW) | (with_reducible refine bl_alloc ?_ _ _))) : Bel w1 _).2 _).trans (fz1 o)) (fun o => (((by repeat (first | (with_reducible exact BW) | (with_reducible refine bl_alloc ?_ _ _))) : Bel w1 _).2 _).trans (fz2 o)) rfl).mono ?_; rintro e w6 ⟨rfl, g0, g1, g2, g3, g4, gi, gb, bX, -⟩; replace bX := bX w1 (by repeat (first | (with_reducible exact BW) | (with_reducible refine bl_alloc ?_ _ _))) (by omega) (by omega)))
          exact ⟨⟨k + 1, (true, (ciX (sdA xs ys k) R F Y).2), hx2, hy2, nx2, ny2, ht2, by omega, by go_num, hX, hide (((cpT_0 (s := (false, sH)) qx rfl).symm.trans (congrArg (fun z => cpT z (ciX (sdA xs ys k) R F Y)) (unhide hE))).trans (cpA_s hlt).symm), bX, gb, g0, g1, g2, g3, g4, gi⟩, by simp [intOf]; omega⟩
        · cases qt : ltK .f64 (ciX (sdA xs ys k) R F Y).2.2.2 sH.2.2
          · go_wp2_with (first | (go_at_call 6; refine (circle_n _ hpk hr hf hw).mono ?_; rintro e w5 ⟨hx2, hy2, nx2, ny2, ht2, hX, rfl, hb⟩; rw [qx]; replace cb := keep hb (up_alloc cb); replace ck0 := keep hb (up_alloc ck0); replace ck1 := keep hb (up_alloc ck1); replace ck2 := keep hb (up_alloc ck2); replace ck3 := keep hb (up_alloc ck3); replace ck4 := keep hb (up_alloc ck4); replace ci := keep hb (up_alloc ci); have BW : Bel w1 w5 := bl_trans (bl_alloc hBr _ _) hb; clear hb; have lc := World.block_lt_of_cell? _ _ ci; simp only at lc; have HL := (lt_is hX.2.2 hH.2.2).trans qt) | (go_at_call 97; refine (tellS2 _ (by repeat (first | (with_reducible exact ci) | (with_reducible refine up_alloc ?_))) (by repeat (first | (with_reducible exact cb) | (with_reducible refine up_alloc ?_))) (by repeat (first | (with_reducible exact ck0) | (with_reducible refine up_alloc ?_))) (by repeat (first | (with_reducible exact ck1) | (with_reducible refine up_alloc ?_))) (by repeat (first | (with_reducible exact ck2) | (with_reducible refine up_alloc ?_))) (by repeat (first | (with_reducible exact ck3) | (with_reducible refine up_alloc ?_))) (by repeat (first | (with_reducible exact ck4) | (with_reducible refine up_alloc ?_))) (by omega) (by omega) (by omega) (fun o => (((by repeat (first | (with_reducible exact BW) | (with_reducible refine bl_alloc ?_ _ _))) : Bel w1 _).2 _).trans (fz1 o)) (fun o => (((by repeat (first | (with_reducible exact BW) | (with_reducible refine bl_alloc ?_ _ _))) : Bel w1 _).2 _).trans (fz2 o)) rfl HL).mono ?_; rintro e w6 ⟨rfl, g0, g1, g2, g3, g4, gi, gb, bX, -⟩; replace bX := bX w1 (by repeat (first | (with_reducible exact BW) | (with_reducible refine bl_alloc ?_ _ _))) (by omega) (by omega)))
            exact ⟨⟨k + 1, (true, sH), hx1, hy1, nx1, ny1, ht1, by omega, by go_num, hH, hide (((cpT_2 (s := (true, sH)) qx rfl qt).symm.trans (congrArg (fun z => cpT z (ciX (sdA xs ys k) R F Y)) (unhide hE))).trans (cpA_s hlt).symm), bX, gb, g0, g1, g2, g3, g4, gi⟩, by simp [intOf]; omega⟩
          · go_wp2_with (first | (go_at_call 6; refine (circle_n _ hpk hr hf hw).mono ?_; rintro e w5 ⟨hx2, hy2, nx2, ny2, ht2, hX, rfl, hb⟩; rw [qx]; replace cb := keep hb (up_alloc cb); replace ck0 := keep hb (up_alloc ck0); replace ck1 := keep hb (up_alloc ck1); replace ck2 := keep hb (up_alloc ck2); replace ck3 := keep hb (up_alloc ck3); replace ck4 := keep hb (up_alloc ck4); replace ci := keep hb (up_alloc ci); have BW : Bel w1 w5 := bl_trans (bl_alloc hBr _ _) hb; clear hb; have lc := World.block_lt_of_cell? _ _ ci; simp only at lc; have HL := (lt_is hX.2.2 hH.2.2).trans qt) | (go_at_call 97; refine (tellS1 _ (by repeat (first | (with_reducible exact ci) | (with_reducible refine up_alloc ?_))) (by repeat (first | (with_reducible exact cb) | (with_reducible refine up_alloc ?_))) (by repeat (first | (with_reducible exact ck0) | (with_reducible refine up_alloc ?_))) (by repeat (first | (with_reducible exact ck1) | (with_reducible refine up_alloc ?_))) (by repeat (first | (with_reducible exact ck2) | (with_reducible refine up_alloc ?_))) (by repeat (first | (with_reducible exact ck3) | (with_reducible refine up_alloc ?_))) (by repeat (first | (with_reducible exact ck4) | (with_reducible refine up_alloc ?_))) (by omega) (by omega) (by omega) (fun o => (((by repeat (first | (with_reducible exact BW) | (with_reducible refine bl_alloc ?_ _ _))) : Bel w1 _).2 _).trans (fz1 o)) (fun o => (((by repeat (first | (with_reducible exact BW) | (with_reducible refine bl_alloc ?_ _ _))) : Bel w1 _).2 _).trans (fz2 o)) rfl HL).mono ?_; rintro e w6 ⟨rfl, g0, g1, g2, g3, g4, gi, gb, bX, -⟩; replace bX := bX w1 (by repeat (first | (with_reducible exact BW) | (with_reducible refine bl_alloc ?_ _ _))) (by omega) (by omega)))
            exact ⟨⟨k + 1, (true, (ciX (sdA xs ys k) R F Y).2), hx2, hy2, nx2, ny2, ht2, by omega, by go_num, hX, hide (((cpT_1 (s := (true, sH)) qx rfl qt).symm.trans (congrArg (fun z => cpT z (ciX (sdA xs ys k) R F Y)) (unhide hE))).trans (cpA_s hlt).symm), bX, gb, g0, g1, g2, g3, g4, gi⟩, by simp [intOf]; omega⟩
    · have hkn : k = 2 := by omega
      subst hkn
      have hpA : isP (xs 0) (ys 0) (sdA xs ys 0) := isP_self (o 0 (by decide)).1 (o 0 (by decide)).2
      have hpB : isP (xs 1) (ys 1) (sdA xs ys 1) := isP_self (o 1 (by decide)).1 (o 1 (by decide)).2
      obtain ⟨a0, a1⟩ := (sA.bel (bl_trans (bl_trans B0 BF) hBr)) 0 (by decide)
      obtain ⟨b0, b1⟩ := (sA.bel (bl_trans (bl_trans B0 BF) hBr)) 1 (by decide)
      simp only [Nat.zero_mul, Nat.add_zero, Nat.one_mul] at a0 a1 b0 b1
      have b2 : wr.cell? ⟨b, off + 3, none⟩ = some (.float .f64 (ys 1)) := b1
      go_wp2
      refine wp_region_new 12 rfl (fun i v => match i with | 0 => v = .pointer (some ⟨w.heap.size, 2, none⟩) | 1 => v = .slice (some ⟨b, off, none⟩) 2 cap | 2 => v = .pointer (some ⟨b, off, none⟩) | 3 => v = .agg #[.float .f64 (xs 0), .float .f64 (ys 0)] | 4 => v = .pointer (some ⟨w.heap.size, 2, none⟩) | 5 => v = .slice (some ⟨b, off, none⟩) 2 cap | 6 => v = .pointer (some ⟨b, (off + 2), none⟩) | 7 => v = .agg #[.float .f64 (xs 1), .float .f64 (ys 1)] | _ => False) [(8, #[.float .f64 0, .float .f64 0], 24), (9, #[.float .f64 0, .float .f64 0], 24)] [(10, 8, 3), (11, 9, 7)] ?A_wp (by kernel_rfl) (by kernel_rfl) ?hA_wp ?ha_wp ?hst_wp ?hq_wp ?ht_wp
      case hA_wp =>
        intro s
        simp only [putL, dstO, Act.put, List.getElem?_toArray, List.getElem?_cons_zero, List.getElem?_cons_succ, Option.bind_some, List.setIfInBounds_toArray, List.set_cons_zero, List.set_cons_succ, if_true]
        all_goals exact rfl
      case ha_wp =>
        intro i o c ty hi ho hal B W K hK
        rcases (show i = 0 ∨ i = 1 ∨ i = 2 ∨ i = 3 ∨ i = 4 ∨ i = 5 ∨ i = 6 ∨ i = 7 ∨ i = 8 ∨ i = 9 ∨ i = 10 ∨ i = 11 by omega) with rfl | rfl | rfl | rfl | rfl | rfl | rfl | rfl | rfl | rfl | rfl | rfl
        · cases (show none = some (c, ty) from hal)
        · cases (show none = some (c, ty) from hal)
        · cases (show none = some (c, ty) from hal)
        · cases (show none = some (c, ty) from hal)
        · cases (show none = some (c, ty) from hal)
        · cases (show none = some (c, ty) from hal)
        · cases (show none = some (c, ty) from hal)
        · cases (show none = some (c, ty) from hal)
        · cases ho; cases (show some (#[.float .f64 0, .float .f64 0], 24) = some (c, ty) from hal); go_simp; exact hK.out
        · cases ho; cases (show some (#[.float .f64 0, .float .f64 0], 24) = some (c, ty) from hal); go_simp; exact hK.out
        · cases (show none = some (c, ty) from hal)
        · cases (show none = some (c, ty) from hal)
      case hst_wp =>
        intro t o a d c ty hlt ho hts hal s hs W b eb hc hf K hK
        rcases (show t = 0 ∨ t = 1 ∨ t = 2 ∨ t = 3 ∨ t = 4 ∨ t = 5 ∨ t = 6 ∨ t = 7 ∨ t = 8 ∨ t = 9 ∨ t = 10 ∨ t = 11 by omega) with rfl | rfl | rfl | rfl | rfl | rfl | rfl | rfl | rfl | rfl | rfl | rfl
        · cases (show none = some (a, d) from hts)
        · cases (show none = some (a, d) from hts)
        · cases (show none = some (a, d) from hts)
        · cases (show none = some (a, d) from hts)
        · cases (show none = some (a, d) from hts)
        · cases (show none = some (a, d) from hts)
        · cases (show none = some (a, d) from hts)
        · cases (show none = some (a, d) from hts)
        · cases (show none = some (a, d) from hts)
        · cases (show none = some (a, d) from hts)
        · cases ho; cases (show some (8, 3) = some (a, d) from hts); cases (show some (#[.float .f64 0, .float .f64 0], 24) = some (c, ty) from hal)
          have e3 : s 3 = _ := hs 3 (by decide) rfl rfl (by kernel_rfl)
          obtain ⟨u0, hu0⟩ := Option.isSome_iff_exists.1 (hc 0 (by decide))
          obtain ⟨u1, hu1⟩ := Option.isSome_iff_exists.1 (hc 1 (by decide))
          simp only [eb, e3] at hK ⊢
          clear hs
          go_simp
          exact hK.out
        · cases ho; cases (show some (9, 7) = some (a, d) from hts); cases (show some (#[.float .f64 0, .float .f64 0], 24) = some (c, ty) from hal)
          have e7 : s 7 = _ := hs 7 (by decide) rfl rfl (by kernel_rfl)
          obtain ⟨u0, hu0⟩ := Option.isSome_iff_exists.1 (hc 0 (by decide))
          obtain ⟨u1, hu1⟩ := Option.isSome_iff_exists.1 (hc 1 (by decide))
          simp only [eb, e7] at hK ⊢
          clear hs
          go_simp
          exact hK.out
      case hq_wp =>
        intro i o hi hal hts ho s hs W hb K hK
        have uz0_0 := keep hb z0_0; have uz0_1 := keep hb z0_1; have uz0_2 := keep hb z0_2; have uz1_0 := keep hb z1_0; have uz1_1 := keep hb z1_1; have uz2_0 := keep hb z2_0; have uz2_1 := keep hb z2_1; have uz3_0 := keep hb z3_0; have uz3_1 := keep hb z3_1; have uz3_2 := keep hb z3_2; have uz3_3 := keep hb z3_3; have uz3_4 := keep hb z3_4; have ua0 := keep hb a0; have ua1 := keep hb a1; have ub0 := keep hb b0; have ub1 := keep hb b1; have ub2 := keep hb b2
        rcases (show i = 0 ∨ i = 1 ∨ i = 2 ∨ i = 3 ∨ i = 4 ∨ i = 5 ∨ i = 6 ∨ i = 7 ∨ i = 8 ∨ i = 9 ∨ i = 10 ∨ i = 11 by omega) with rfl | rfl | rfl | rfl | rfl | rfl | rfl | rfl | rfl | rfl | rfl | rfl
        rotate_left 1
        cases ho
        have e0 : s 0 = _ := hs 0 (by decide) rfl rfl (by kernel_rfl)
        simp only [e0] at hK ⊢
        rotate_left 1
        cases ho
        have e1 : s 1 = _ := hs 1 (by decide) rfl rfl (by kernel_rfl)
        simp only [e1] at hK ⊢
        rotate_left 1
        cases ho
        have e2 : s 2 = _ := hs 2 (by decide) rfl rfl (by kernel_rfl)
        simp only [e2] at hK ⊢
        rotate_left 2
        cases ho
        have e4 : s 4 = _ := hs 4 (by decide) rfl rfl (by kernel_rfl)
        simp only [e4] at hK ⊢
        rotate_left 1
        cases ho
        have e5 : s 5 = _ := hs 5 (by decide) rfl rfl (by kernel_rfl)
        simp only [e5] at hK ⊢
        rotate_left 1
        cases ho
        have e6 : s 6 = _ := hs 6 (by decide) rfl rfl (by kernel_rfl)
        simp only [e6] at hK ⊢
        rotate_left 1
        · cases (show some _ = none from hal)
        · cases (show some _ = none from hal)
        · cases (show some _ = none from hts)
        · cases (show some _ = none from hts)
        all_goals
          try cases ho
          simp only [Act.put, List.setIfInBounds_toArray, List.set_cons_zero, List.set_cons_succ] at hK
          clear hs hal hts
          go_simp
          all_goals first | exact hK.out _ _ rfl (bl_refl _) | exact hK.out _ _ rfl (by assumption) | exact hK.out _ _ (by assumption) (by assumption)
      case ht_wp =>
        intro s hs w7 hb hJ
        have e0 : s 0 = _ := hs 0 (by decide) rfl rfl
        have e1 : s 1 = _ := hs 1 (by decide) rfl rfl
        have e2 : s 2 = _ := hs 2 (by decide) rfl rfl
        have e3 : s 3 = _ := hs 3 (by decide) rfl rfl
        have e4 : s 4 = _ := hs 4 (by decide) rfl rfl
        have e5 : s 5 = _ := hs 5 (by decide) rfl rfl
        have e6 : s 6 = _ := hs 6 (by decide) rfl rfl
        have e7 : s 7 = _ := hs 7 (by decide) rfl rfl
        obtain ⟨p8, e8, n8, l8, cl8⟩ := hJ.1 8 _ _ (by decide) rfl rfl
        have k_p8_0 : w7.cell? ⟨p8, 0, none⟩ = some (cellAt (s 3) 0) := cl8 0 (by decide)
        have k_p8_1 : w7.cell? ⟨p8, 1, none⟩ = some (cellAt (s 3) 1) := cl8 1 (by decide)
        rw [e3] at k_p8_0 k_p8_1
        simp only [cellAt] at k_p8_0 k_p8_1
        obtain ⟨p9, e9, n9, l9, cl9⟩ := hJ.1 9 _ _ (by decide) rfl rfl
        have k_p9_0 : w7.cell? ⟨p9, 0, none⟩ = some (cellAt (s 7) 0) := cl9 0 (by decide)
        have k_p9_1 : w7.cell? ⟨p9, 1, none⟩ = some (cellAt (s 7) 1) := cl9 1 (by decide)
        rw [e7] at k_p9_0 k_p9_1
        simp only [cellAt] at k_p9_0 k_p9_1
        have ne89 : p8 ≠ p9 := fun h => hJ.2 8 9 (by decide) (by decide) (by decide) rfl rfl rfl rfl (by rw [e8, e9, h])
        simp only [e0, e1, e2, e3, e4, e5, e6, e7, e8, e9]
        clear hs hJ e0 e1 e2 e3 e4 e5 e6 e7 e8 e9 cl8 cl9
        replace z0_0 := keep hb z0_0; replace z0_1 := keep hb z0_1; replace z0_2 := keep hb z0_2; replace z1_0 := keep hb z1_0; replace z1_1 := keep hb z1_1; replace z2_0 := keep hb z2_0; replace z2_1 := keep hb z2_1; replace z3_0 := keep hb z3_0; replace z3_1 := keep hb z3_1; replace z3_2 := keep hb z3_2; replace z3_3 := keep hb z3_3; replace z3_4 := keep hb z3_4; replace cb := keep hb cb; replace ck0 := keep hb ck0; replace ck1 := keep hb ck1; replace ck2 := keep hb ck2; replace ck3 := keep hb ck3; replace ck4 := keep hb ck4; replace ci := keep hb ci
        replace hBr := bl_trans hBr hb
        clear hb
        have q8 : w1.heap.size + 1 + 1 < p8 := by omega
        have q9 : w1.heap.size + 1 + 1 < p9 := by omega
        go_wp2_with (first | (go_at_call 19; refine (vSub_n _ hpB hpA).mono ?_; rintro e w8 ⟨sx, sy, hS, rfl, hb⟩; replace z0_0 := keep hb z0_0; replace z0_1 := keep hb z0_1; replace z0_2 := keep hb z0_2; replace z1_0 := keep hb z1_0; replace z1_1 := keep hb z1_1; replace z2_0 := keep hb z2_0; replace z2_1 := keep hb z2_1; replace z3_0 := keep hb z3_0; replace z3_1 := keep hb z3_1; replace z3_2 := keep hb z3_2; replace z3_3 := keep hb z3_3; replace z3_4 := keep hb z3_4; replace cb := keep hb cb; replace ck0 := keep hb ck0; replace ck1 := keep hb ck1; replace ck2 := keep hb ck2; replace ck3 := keep hb ck3; replace ck4 := keep hb ck4; replace ci := keep hb ci; replace k_p8_0 := keep hb k_p8_0; replace k_p8_1 := keep hb k_p8_1; replace k_p9_0 := keep hb k_p9_0; replace k_p9_1 := keep hb k_p9_1; replace hBr := bl_trans hBr hb; clear hb) | (go_at_call 27; refine (vUnit_n _ hS).mono ?_; rintro e w9 ⟨ux, uy, ub, hU, -, rfl, hb⟩; replace z0_0 := keep hb z0_0; replace z0_1 := keep hb z0_1; replace z0_2 := keep hb z0_2; replace z1_0 := keep hb z1_0; replace z1_1 := keep hb z1_1; replace z2_0 := keep hb z2_0; replace z2_1 := keep hb z2_1; replace z3_0 := keep hb z3_0; replace z3_1 := keep hb z3_1; replace z3_2 := keep hb z3_2; replace z3_3 := keep hb z3_3; replace z3_4 := keep hb z3_4; replace cb := keep hb cb; replace ck0 := keep hb ck0; replace ck1 := keep hb ck1; replace ck2 := keep hb ck2; replace ck3 := keep hb ck3; replace ck4 := keep hb ck4; replace ci := keep hb ci; replace k_p8_0 := keep hb k_p8_0; replace k_p8_1 := keep hb k_p8_1; replace k_p9_0 := keep hb k_p9_0; replace k_p9_1 := keep hb k_p9_1; replace hBr := bl_trans hBr hb; clear hb))
        have B2 : Bel w9 (w9.alloc (.cells #[.float .f64 ux, .float .f64 uy] 24)) := bl_alloc (bl_refl _) _ _
        have u0 : (w9.alloc (.cells #[.float .f64 ux, .float .f64 uy] 24)).cell? ⟨w9.heap.size, 0, none⟩ = some (.float .f64 ux) := by rw [World.cell?_alloc_new]; rfl
        have u1 : (w9.alloc (.cells #[.float .f64 ux, .float .f64 uy] 24)).cell? ⟨w9.heap.size, 1, none⟩ = some (.float .f64 uy) := by rw [World.cell?_alloc_new]; rfl
        replace z0_0 := keep B2 z0_0; replace z0_1 := keep B2 z0_1; replace z0_2 := keep B2 z0_2; replace z1_0 := keep B2 z1_0; replace z1_1 := keep B2 z1_1; replace z2_0 := keep B2 z2_0; replace z2_1 := keep B2 z2_1; replace z3_0 := keep B2 z3_0; replace z3_1 := keep B2 z3_1; replace z3_2 := keep B2 z3_2; replace z3_3 := keep B2 z3_3; replace z3_4 := keep B2 z3_4; replace cb := keep B2 cb; replace ck0 := keep B2 ck0; replace ck1 := keep B2 ck1; replace ck2 := keep B2 ck2; replace ck3 := keep B2 ck3; replace ck4 := keep B2 ck4; replace ci := keep B2 ci; replace k_p8_0 := keep B2 k_p8_0; replace k_p8_1 := keep B2 k_p8_1; replace k_p9_0 := keep B2 k_p9_0; replace k_p9_1 := keep B2 k_p9_1
        replace hBr := bl_trans hBr B2
        clear B2
        have lci := World.block_lt_of_cell? _ _ ci
        simp only at lci
        refine wp_region_new 7 rfl (fun i v => match i with | 0 => v = .agg #[.float .f64 ux, .float .f64 uy] | 1 => ∃ x y, isP x y (lfP (uvF (suF (sdA xs ys 1) (sdA xs ys 0)))) ∧ v = .agg #[.float .f64 x, .float .f64 y] | 2 => v = .pointer (some ⟨w.heap.size, 1, none⟩) | 3 => v = .float .f64 r | 4 => ∃ x y, isP x y (cpO (sdA xs ys 0) (sdA xs ys 1) R) ∧ v = .agg #[.float .f64 x, .float .f64 y] | _ => False) [(5, #[.float .f64 0, .float .f64 0], 24)] [(6, 5, 4)] ?A_wq (by kernel_rfl) (by kernel_rfl) ?hA_wq ?ha_wq ?hst_wq ?hq_wq ?ht_wq
        case hA_wq =>
          intro s
          simp only [putL, dstO, Act.put, List.getElem?_toArray, List.getElem?_cons_zero, List.getElem?_cons_succ, Option.bind_some, List.setIfInBounds_toArray, List.set_cons_zero, List.set_cons_succ, if_true]
          all_goals exact rfl
        case ha_wq =>
          intro i o c ty hi ho hal B W K hK
          rcases (show i = 0 ∨ i = 1 ∨ i = 2 ∨ i = 3 ∨ i = 4 ∨ i = 5 ∨ i = 6 by omega) with rfl | rfl | rfl | rfl | rfl | rfl | rfl
          · cases (show none = some (c, ty) from hal)
          · cases (show none = some (c, ty) from hal)
          · cases (show none = some (c, ty) from hal)
          · cases (show none = some (c, ty) from hal)
          · cases (show none = some (c, ty) from hal)
          · cases ho; cases (show some (#[.float .f64 0, .float .f64 0], 24) = some (c, ty) from hal); go_simp; exact hK.out
          · cases (show none = some (c, ty) from hal)
        case hst_wq =>
          intro t o a d c ty hlt ho hts hal s hs W b eb hc hf K hK
          rcases (show t = 0 ∨ t = 1 ∨ t = 2 ∨ t = 3 ∨ t = 4 ∨ t = 5 ∨ t = 6 by omega) with rfl | rfl | rfl | rfl | rfl | rfl | rfl
          · cases (show none = some (a, d) from hts)
          · cases (show none = some (a, d) from hts)
          · cases (show none = some (a, d) from hts)
          · cases (show none = some (a, d) from hts)
          · cases (show none = some (a, d) from hts)
          · cases (show none = some (a, d) from hts)
          · cases ho; cases (show some (5, 4) = some (a, d) from hts); cases (show some (#[.float .f64 0, .float .f64 0], 24) = some (c, ty) from hal)
            obtain ⟨ox, oy, hO, e4⟩ := hs 4 (by decide) rfl rfl (by kernel_rfl)
            obtain ⟨u0, hu0⟩ := Option.isSome_iff_exists.1 (hc 0 (by decide))
            obtain ⟨u1, hu1⟩ := Option.isSome_iff_exists.1 (hc 1 (by decide))
            simp only [eb, e4] at hK ⊢
            clear hs
            go_simp
            exact hK.out
        case hq_wq =>
          intro i o hi hal hts ho s hs W hb K hK
          have uz0_0 := keep hb z0_0; have uz0_1 := keep hb z0_1; have uz0_2 := keep hb z0_2; have uz1_0 := keep hb z1_0; have uz1_1 := keep hb z1_1; have uz2_0 := keep hb z2_0; have uz2_1 := keep hb z2_1; have uz3_0 := keep hb z3_0; have uz3_1 := keep hb z3_1; have uz3_2 := keep hb z3_2; have uz3_3 := keep hb z3_3; have uz3_4 := keep hb z3_4; have uu0 := keep hb u0; have uu1 := keep hb u1
          rcases (show i = 0 ∨ i = 1 ∨ i = 2 ∨ i = 3 ∨ i = 4 ∨ i = 5 ∨ i = 6 by omega) with rfl | rfl | rfl | rfl | rfl | rfl | rfl
          rotate_left 1
          cases ho
          have e0 : s 0 = _ := hs 0 (by decide) rfl rfl (by kernel_rfl)
          simp only [e0] at hK ⊢
          rotate_left 2
          cases ho
          have e2 : s 2 = _ := hs 2 (by decide) rfl rfl (by kernel_rfl)
          simp only [e2] at hK ⊢
          rotate_left 1
          cases ho
          obtain ⟨x1, y1, h1, e1⟩ := hs 1 (by decide) rfl rfl (by kernel_rfl)
          have e3 : s 3 = _ := hs 3 (by decide) rfl rfl (by kernel_rfl)
          simp only [e1, e3] at hK ⊢
          rotate_left 1
          · cases (show some _ = none from hal)
          · cases (show some _ = none from hts)
          all_goals
            try cases ho
            simp only [Act.put, List.setIfInBounds_toArray, List.set_cons_zero, List.set_cons_succ] at hK
            clear hs hal hts
            go_simp
            all_goals (try go_wp2_with (first | (go_at_call 82; refine (vLeft_n _ hU).mono ?_; rintro e w' ⟨x, y, h1, rfl, hb1⟩) | (go_at_call 81; refine (vScale_n _ h1 hr).mono ?_; rintro e w' ⟨x, y, h4, rfl, hb1⟩)))
            all_goals first | with_reducible exact hK.out _ _ ⟨_, _, h1, rfl⟩ hb1 | with_reducible exact hK.out _ _ ⟨_, _, h4, rfl⟩ hb1 | with_reducible exact hK.out _ _ rfl (bl_refl _) | with_reducible exact hK.out _ _ rfl (by assumption) | exact hK.out _ _ ⟨_, _, h1, rfl⟩ hb1 | exact hK.out _ _ ⟨_, _, h4, rfl⟩ hb1 | exact hK.out _ _ rfl (bl_refl _) | exact hK.out _ _ rfl (by assumption) | exact hK.out _ _ (by assumption) (by assumption)
        case ht_wq =>
          intro s hs wb hb hJ
          have e0 : s 0 = _ := hs 0 (by decide) rfl rfl
          obtain ⟨_, _, _, e1⟩ := hs 1 (by decide) rfl rfl
          have e2 : s 2 = _ := hs 2 (by decide) rfl rfl
          have e3 : s 3 = _ := hs 3 (by decide) rfl rfl
          obtain ⟨ox, oy, hO, e4⟩ := hs 4 (by decide) rfl rfl
          obtain ⟨p5, e5, n5, l5, cl5⟩ := hJ.1 5 _ _ (by decide) rfl rfl
          have k_p5_0 : wb.cell? ⟨p5, 0, none⟩ = some (cellAt (s 4) 0) := cl5 0 (by decide)
          have k_p5_1 : wb.cell? ⟨p5, 1, none⟩ = some (cellAt (s 4) 1) := cl5 1 (by decide)
          rw [e4] at k_p5_0 k_p5_1
          simp only [cellAt] at k_p5_0 k_p5_1
          simp only [e0, e1, e2, e3, e4, e5]
          clear hs hJ e0 e1 e2 e3 e4 e5 cl5
          replace z0_0 := keep hb z0_0; replace z0_1 := keep hb z0_1; replace z0_2 := keep hb z0_2; replace z1_0 := keep hb z1_0; replace z1_1 := keep hb z1_1; replace z2_0 := keep hb z2_0; replace z2_1 := keep hb z2_1; replace z3_0 := keep hb z3_0; replace z3_1 := keep hb z3_1; replace z3_2 := keep hb z3_2; replace z3_3 := keep hb z3_3; replace z3_4 := keep hb z3_4; replace cb := keep hb cb; replace ck0 := keep hb ck0; replace ck1 := keep hb ck1; replace ck2 := keep hb ck2; replace ck3 := keep hb ck3; replace ck4 := keep hb ck4; replace ci := keep hb ci; replace k_p8_0 := keep hb k_p8_0; replace k_p8_1 := keep hb k_p8_1; replace k_p9_0 := keep hb k_p9_0; replace k_p9_1 := keep hb k_p9_1
          replace hBr := bl_trans hBr hb
          obtain ⟨o0, o1⟩ : wb.cell? ⟨p5, 0, none⟩ = some (.float .f64 ox) ∧ wb.cell? ⟨p5, 1, none⟩ = some (.float .f64 oy) := ⟨k_p5_0, k_p5_1⟩
          clear hb u0 u1
          have q5 : w1.heap.size + 1 + 1 < p5 := by omega
          have qi0 : ∀ X : World, (Instr.index 90 (.agg #[.func (.func 83) #[] #[], .func (.func 19) #[] #[]]) (.int .i64 0)).run Tryz.prog X = .ok (.func (.func 83) #[] #[]) X := fun X => by kernel_rfl
          have qi1 : ∀ X : World, (Instr.index 90 (.agg #[.func (.func 83) #[] #[], .func (.func 19) #[] #[]]) (.int .i64 1)).run Tryz.prog X = .ok (.func (.func 19) #[] #[]) X := fun X => by kernel_rfl
          go_wp2
          go_loopw [89] (fun i' wr => ∃ (k : Nat) (s : Hb) (hx1 hy1 nx1 ny1 ht1 : Nat), k ≤ 2 ∧ i' = .int .i64 k ∧ isH hx1 hy1 nx1 ny1 ht1 (s.2) ∧ Hid (s = cpS (sdA xs ys 0) (sdA xs ys 1) R F Y k) ∧ Bel w1 wr ∧ wr.cell? ⟨w1.heap.size, 0, none⟩ = some (.func (.func 80) #[] #[]) ∧ wr.cell? ⟨w1.heap.size + 1, 0, none⟩ = some (.float .f64 hx1) ∧ wr.cell? ⟨w1.heap.size + 1, 1, none⟩ = some (.float .f64 hy1) ∧ wr.cell? ⟨w1.heap.size + 1, 2, none⟩ = some (.float .f64 nx1) ∧ wr.cell? ⟨w1.heap.size + 1, 3, none⟩ = some (.float .f64 ny1) ∧ wr.cell? ⟨w1.heap.size + 1, 4, none⟩ = some (.float .f64 ht1) ∧ wr.cell? ⟨w1.heap.size + 1 + 1, 0, none⟩ = some (.bool s.1) ∧ wr.cell? ⟨p8, 0, none⟩ = some (.float .f64 (xs 0)) ∧ wr.cell? ⟨p8, 1, none⟩ = some (.float .f64 (ys 0)) ∧ wr.cell? ⟨p9, 0, none⟩ = some (.float .f64 (xs 1)) ∧ wr.cell? ⟨p9, 1, none⟩ = some (.float .f64 (ys 1)) ∧ wr.cell? ⟨p5, 0, none⟩ = some (.float .f64 ox) ∧ wr.cell? ⟨p5, 1, none⟩ = some (.float .f64 oy)) (fun i' _ => 2 - (intOf i').toNat)
          case atStart => exact ⟨0, _, _, _, _, _, _, by omega, rfl, hH, hide (show _ = cpA (sdA xs ys 0) (sdA xs ys 1) R F Y 2 from unhide hE), hBr, cb, ck0, ck1, ck2, ck3, ck4, ci, k_p8_0, k_p8_1, k_p9_0, k_p9_1, o0, o1⟩
          case round =>
            have hBb := hBr
            clear cb ck0 ck1 ck2 ck3 ck4 ci hBr hE hH k_p8_0 k_p8_1 k_p9_0 k_p9_1 o0 o1
            obtain ⟨k, ⟨s1, sH⟩, hx1, hy1, nx1, ny1, ht1, hk, rfl, hH, hE, hBr, cb, ck0, ck1, ck2, ck3, ck4, ci, k_p8_0, k_p8_1, k_p9_0, k_p9_1, o0, o1⟩ := hrel
            simp only at hH ci
            have lc := World.block_lt_of_cell? _ _ ci
            simp only at lc
            replace z0_0 := keep hBr w1z0_0; replace z0_1 := keep hBr w1z0_1; replace z0_2 := keep hBr w1z0_2; replace z1_0 := keep hBr w1z1_0; replace z1_1 := keep hBr w1z1_1; replace z2_0 := keep hBr w1z2_0; replace z2_1 := keep hBr w1z2_1; replace z3_0 := keep hBr w1z3_0; replace z3_1 := keep hBr w1z3_1; replace z3_2 := keep hBr w1z3_2; replace z3_3 := keep hBr w1z3_3; replace z3_4 := keep hBr w1z3_4
            have hsz := hBr.size
            have lr0 : w.heap.size < wr.heap.size := (by omega); have lr1 : w.heap.size + 1 < wr.heap.size := (by omega); have lr2 : w.heap.size + 1 + 1 < wr.heap.size := (by omega); have lr3 : w.heap.size + 1 + 1 + 1 < wr.heap.size := (by omega)
            rcases (show k = 0 ∨ k = 1 ∨ k = 2 by omega) with rfl | rfl | rfl
            · go_wp2
              refine wp_region_new 19 rfl (fun i v => match i with | 0 => v = .func (.func 83) #[] #[] | 1 => v = .agg #[.float .f64 (xs 0), .float .f64 (ys 0)] | 2 => v = .agg #[.float .f64 ox, .float .f64 oy] | 3 => ∃ x y, isP x y (adF (sdA xs ys 0) (cpO (sdA xs ys 0) (sdA xs ys 1) R)) ∧ v = .agg #[.float .f64 x, .float .f64 y] | 4 => v = .func (.func 83) #[] #[] | 5 => v = .agg #[.float .f64 (xs 1), .float .f64 (ys 1)] | 6 => v = .agg #[.float .f64 ox, .float .f64 oy] | 7 => ∃ x y, isP x y (adF (sdA xs ys 1) (cpO (sdA xs ys 0) (sdA xs ys 1) R)) ∧ v = .agg #[.float .f64 x, .float .f64 y] | 8 => v = .agg #[.float .f64 fx, .float .f64 fy] | 9 => v = .agg #[.float .f64 wx, .float .f64 wy] | 10 => ∃ hx2 hy2 nx2 ny2 ht2 : Nat, isH hx2 hy2 nx2 ny2 ht2 ((sgX (adF (sdA xs ys 0) (cpO (sdA xs ys 0) (sdA xs ys 1) R)) (adF (sdA xs ys 1) (cpO (sdA xs ys 0) (sdA xs ys 1) R)) F Y).2) ∧ v = .tuple #[.agg #[.float .f64 hx2, .float .f64 hy2, .float .f64 nx2, .float .f64 ny2, .float .f64 ht2], .bool (sgX (adF (sdA xs ys 0) (cpO (sdA xs ys 0) (sdA xs ys 1) R)) (adF (sdA xs ys 1) (cpO (sdA xs ys 0) (sdA xs ys 1) R)) F Y).1, .int .i64 (sgE (adF (sdA xs ys 0) (cpO (sdA xs ys 0) (sdA xs ys 1) R)) (adF (sdA xs ys 1) (cpO (sdA xs ys 0) (sdA xs ys 1) R)) F Y)] | 11 => ∃ hx2 hy2 nx2 ny2 ht2 : Nat, isH hx2 hy2 nx2 ny2 ht2 ((sgX (adF (sdA xs ys 0) (cpO (sdA xs ys 0) (sdA xs ys 1) R)) (adF (sdA xs ys 1) (cpO (sdA xs ys 0) (sdA xs ys 1) R)) F Y).2) ∧ v = .tuple #[.agg #[.float .f64 hx2, .float .f64 hy2, .float .f64 nx2, .float .f64 ny2, .float .f64 ht2], .bool (sgX (adF (sdA xs ys 0) (cpO (sdA xs ys 0) (sdA xs ys 1) R)) (adF (sdA xs ys 1) (cpO (sdA xs ys 0) (sdA xs ys 1) R)) F Y).1, .int .i64 (sgE (adF (sdA xs ys 0) (cpO (sdA xs ys 0) (sdA xs ys 1) R)) (adF (sdA xs ys 1) (cpO (sdA xs ys 0) (sdA xs ys 1) R)) F Y)] | 12 => ∃ hx2 hy2 nx2 ny2 ht2 : Nat, isH hx2 hy2 nx2 ny2 ht2 ((sgX (adF (sdA xs ys 0) (cpO (sdA xs ys 0) (sdA xs ys 1) R)) (adF (sdA xs ys 1) (cpO (sdA xs ys 0) (sdA xs ys 1) R)) F Y).2) ∧ v = .agg #[.float .f64 hx2, .float .f64 hy2, .float .f64 nx2, .float .f64 ny2, .float .f64 ht2] | 13 => v = .bool (sgX (adF (sdA xs ys 0) (cpO (sdA xs ys 0) (sdA xs ys 1) R)) (adF (sdA xs ys 1) (cpO (sdA xs ys 0) (sdA xs ys 1) R)) F Y).1 | 14 => v = .int .i64 (sgE (adF (sdA xs ys 0) (cpO (sdA xs ys 0) (sdA xs ys 1) R)) (adF (sdA xs ys 1) (cpO (sdA xs ys 0) (sdA xs ys 1) R)) F Y) | 17 => v = .bool (sgX (adF (sdA xs ys 0) (cpO (sdA xs ys 0) (sdA xs ys 1) R)) (adF (sdA xs ys 1) (cpO (sdA xs ys 0) (sdA xs ys 1) R)) F Y).1 | 18 => v = .int .i64 (sgE (adF (sdA xs ys 0) (cpO (sdA xs ys 0) (sdA xs ys 1) R)) (adF (sdA xs ys 1) (cpO (sdA xs ys 0) (sdA xs ys 1) R)) F Y) | _ => False) [(15, #[.float .f64 0, .float .f64 0, .float .f64 0, .float .f64 0, .float .f64 0], 28)] [(16, 15, 12)] ?A_ws0 (by kernel_rfl) (by kernel_rfl) ?hA_ws0 ?ha_ws0 ?hst_ws0 ?hq_ws0 ?ht_ws0
              case hA_ws0 =>
                intro s
                simp only [putL, dstO, Act.put, List.getElem?_toArray, List.getElem?_cons_zero, List.getElem?_cons_succ, Option.bind_some, List.setIfInBounds_toArray, List.set_cons_zero, List.set_cons_succ, if_true]
                all_goals exact rfl
              case ha_ws0 =>
                intro i o c ty hi ho hal B W K hK
                rcases (show i = 0 ∨ i = 1 ∨ i = 2 ∨ i = 3 ∨ i = 4 ∨ i = 5 ∨ i = 6 ∨ i = 7 ∨ i = 8 ∨ i = 9 ∨ i = 10 ∨ i = 11 ∨ i = 12 ∨ i = 13 ∨ i = 14 ∨ i = 15 ∨ i = 16 ∨ i = 17 ∨ i = 18 by omega) with rfl | rfl | rfl | rfl | rfl | rfl | rfl | rfl | rfl | rfl | rfl | rfl | rfl | rfl | rfl | rfl | rfl | rfl | rfl
                · cases (show none = some (c, ty) from hal)
                · cases (show none = some (c, ty) from hal)
                · cases (show none = some (c, ty) from hal)
                · cases (show none = some (c, ty) from hal)
                · cases (show none = some (c, ty) from hal)
                · cases (show none = some (c, ty) from hal)
                · cases (show none = some (c, ty) from hal)
                · cases (show none = some (c, ty) from hal)
                · cases (show none = some (c, ty) from hal)
                · cases (show none = some (c, ty) from hal)
                · cases (show none = some (c, ty) from hal)
                · cases (show none = some (c, ty) from hal)
                · cases (show none = some (c, ty) from hal)
                · cases (show none = some (c, ty) from hal)
                · cases (show none = some (c, ty) from hal)
                · cases ho; cases (show some (#[.float .f64 0, .float .f64 0, .float .f64 0, .float .f64 0, .float .f64 0], 28) = some (c, ty) from hal); go_simp; exact hK.out
                · cases (show none = some (c, ty) from hal)
                · cases (show none = some (c, ty) from hal)
                · cases (show none = some (c, ty) from hal)
              case hst_ws0 =>
                intro t o a d c ty hlt ho hts hal s hs W b eb hc hf K hK
                rcases (show t = 0 ∨ t = 1 ∨ t = 2 ∨ t = 3 ∨ t = 4 ∨ t = 5 ∨ t = 6 ∨ t = 7 ∨ t = 8 ∨ t = 9 ∨ t = 10 ∨ t = 11 ∨ t = 12 ∨ t = 13 ∨ t = 14 ∨ t = 15 ∨ t = 16 ∨ t = 17 ∨ t = 18 by omega) with rfl | rfl | rfl | rfl | rfl | rfl | rfl | rfl | rfl | rfl | rfl | rfl | rfl | rfl | rfl | rfl | rfl | rfl | rfl
                · cases (show none = some (a, d) from hts)
                · cases (show none = some (a, d) from hts)
                · cases (show none = some (a, d) from hts)
                · cases (show none = some (a, d) from hts)
                · cases (show none = some (a, d) from hts)
                · cases (show none = some (a, d) from hts)
                · cases (show none = some (a, d) from hts)
                · cases (show none = some (a, d) from hts)
                · cases (show none = some (a, d) from hts)
                · cases (show none = some (a, d) from hts)
                · cases (show none = some (a, d) from hts)
                · cases (show none = some (a, d) from hts)
                · cases (show none = some (a, d) from hts)
                · cases (show none = some (a, d) from hts)
                · cases (show none = some (a, d) from hts)
                · cases (show none = some (a, d) from hts)
                · cases ho; cases (show some (15, 12) = some (a, d) from hts); cases (show some (#[.float .f64 0, .float .f64 0, .float .f64 0, .float .f64 0, .float .f64 0], 28) = some (c, ty) from hal)
                  obtain ⟨hx2, hy2, nx2, ny2, ht2, h12, e12⟩ := hs 12 (by decide) rfl rfl (by kernel_rfl)
                  obtain ⟨u0, hu0⟩ := Option.isSome_iff_exists.1 (hc 0 (by decide))
                  obtain ⟨u1, hu1⟩ := Option.isSome_iff_exists.1 (hc 1 (by decide))
                  obtain ⟨u2, hu2⟩ := Option.isSome_iff_exists.1 (hc 2 (by decide))
                  obtain ⟨u3, hu3⟩ := Option.isSome_iff_exists.1 (hc 3 (by decide))
                  obtain ⟨u4, hu4⟩ := Option.isSome_iff_exists.1 (hc 4 (by decide))
                  simp only [eb, e12] at hK ⊢
                  clear hs
                  go_simp
                  exact hK.out
                · cases (show none = some (a, d) from hts)
                · cases (show none = some (a, d) from hts)
              case hq_ws0 =>
                intro i o hi hal hts ho s hs W hb K hK
                have uz0_0 := keep hb z0_0; have uz0_1 := keep hb z0_1; have uz0_2 := keep hb z0_2; have uz1_0 := keep hb z1_0; have uz1_1 := keep hb z1_1; have uz2_0 := keep hb z2_0; have uz2_1 := keep hb z2_1; have uz3_0 := keep hb z3_0; have uz3_1 := keep hb z3_1; have uz3_2 := keep hb z3_2; have uz3_3 := keep hb z3_3; have uz3_4 := keep hb z3_4; have uk_p8_0 := keep hb k_p8_0; have uk_p8_1 := keep hb k_p8_1; have uk_p9_0 := keep hb k_p9_0; have uk_p9_1 := keep hb k_p9_1; have uo0 := keep hb o0; have uo1 := keep hb o1
                rcases (show i = 0 ∨ i = 1 ∨ i = 2 ∨ i = 3 ∨ i = 4 ∨ i = 5 ∨ i = 6 ∨ i = 7 ∨ i = 8 ∨ i = 9 ∨ i = 10 ∨ i = 11 ∨ i = 12 ∨ i = 13 ∨ i = 14 ∨ i = 15 ∨ i = 16 ∨ i = 17 ∨ i = 18 by omega) with rfl | rfl | rfl | rfl | rfl | rfl | rfl | rfl | rfl | rfl | rfl | rfl | rfl | rfl | rfl | rfl | rfl | rfl | rfl
                rotate_left 3
                cases ho
                have e0 : s 0 = _ := hs 0 (by decide) rfl rfl (by kernel_rfl)
                have e1 : s 1 = _ := hs 1 (by decide) rfl rfl (by kernel_rfl)
                have e2 : s 2 = _ := hs 2 (by decide) rfl rfl (by kernel_rfl)
                simp only [e0, e1, e2] at hK ⊢
                rotate_left 4
                cases ho
                have e4 : s 4 = _ := hs 4 (by decide) rfl rfl (by kernel_rfl)
                have e5 : s 5 = _ := hs 5 (by decide) rfl rfl (by kernel_rfl)
                have e6 : s 6 = _ := hs 6 (by decide) rfl rfl (by kernel_rfl)
                simp only [e4, e5, e6] at hK ⊢
                rotate_left 3
                cases ho
                obtain ⟨x3, y3, h3, e3⟩ := hs 3 (by decide) rfl rfl (by kernel_rfl)
                obtain ⟨x7, y7, h7, e7⟩ := hs 7 (by decide) rfl rfl (by kernel_rfl)
                have e8 : s 8 = _ := hs 8 (by decide) rfl rfl (by kernel_rfl)
                have e9 : s 9 = _ := hs 9 (by decide) rfl rfl (by kernel_rfl)
                simp only [e3, e7, e8, e9] at hK ⊢
                rotate_left 1
                cases ho
                obtain ⟨hx2, hy2, nx2, ny2, ht2, h10, e10⟩ := hs 10 (by decide) rfl rfl (by kernel_rfl)
                simp only [e10] at hK ⊢
                rotate_left 1
                cases ho
                obtain ⟨hx2, hy2, nx2, ny2, ht2, h11, e11⟩ := hs 11 (by decide) rfl rfl (by kernel_rfl)
                simp only [e11] at hK ⊢
                rotate_left 1
                cases ho
                obtain ⟨hx2, hy2, nx2, ny2, ht2, h11, e11⟩ := hs 11 (by decide) rfl rfl (by kernel_rfl)
                simp only [e11] at hK ⊢
                rotate_left 1
                cases ho
                obtain ⟨hx2, hy2, nx2, ny2, ht2, h11, e11⟩ := hs 11 (by decide) rfl rfl (by kernel_rfl)
                simp only [e11] at hK ⊢
                rotate_left 1
                · cases (show some _ = none from hal)
                · cases (show some _ = none from hts)
                cases ho
                have e13 : s 13 = _ := hs 13 (by decide) rfl rfl (by kernel_rfl)
                simp only [e13] at hK ⊢
                rotate_left 1
                cases ho
                have e14 : s 14 = _ := hs 14 (by decide) rfl rfl (by kernel_rfl)
                simp only [e14] at hK ⊢
                rotate_left 1
                all_goals
                  try cases ho
                  simp only [Act.put, List.setIfInBounds_toArray, List.set_cons_zero, List.set_cons_succ] at hK
                  clear hs hal hts
                  go_simp
                  all_goals (try go_wp2_with (first | (go_at_call 83; with_reducible refine (vAdd_y _ hpA hO).mono ?_; rintro e w' ⟨x, y, h3, rfl, hb1⟩) | (go_at_call 83; with_reducible refine (vAdd_y _ hpB hO).mono ?_; rintro e w' ⟨x, y, h7, rfl, hb1⟩) | (go_at_call 9; refine (segment_n _ h3 h7 hf hw).mono ?_; rintro e w' ⟨hx2, hy2, nx2, ny2, ht2, h10, rfl, hb1⟩)))
                  all_goals first | with_reducible exact hK.out _ _ ⟨_, _, h3, rfl⟩ hb1 | with_reducible exact hK.out _ _ ⟨_, _, h7, rfl⟩ hb1 | with_reducible exact hK.out _ _ ⟨_, _, _, _, _, h10, rfl⟩ hb1 | with_reducible exact hK.out _ _ ⟨_, _, _, _, _, h10, rfl⟩ (bl_refl _) | with_reducible exact hK.out _ _ ⟨_, _, _, _, _, h11, rfl⟩ (bl_refl _) | with_reducible exact hK.out _ _ rfl (bl_refl _) | with_reducible exact hK.out _ _ rfl (by assumption) | exact hK.out _ _ ⟨_, _, h3, rfl⟩ hb1 | exact hK.out _ _ ⟨_, _, h7, rfl⟩ hb1 | exact hK.out _ _ ⟨_, _, _, _, _, h10, rfl⟩ hb1 | exact hK.out _ _ ⟨_, _, _, _, _, h10, rfl⟩ (bl_refl _) | exact hK.out _ _ ⟨_, _, _, _, _, h11, rfl⟩ (bl_refl _) | exact hK.out _ _ rfl (bl_refl _) | exact hK.out _ _ rfl (by assumption) | exact hK.out _ _ (by assumption) (by assumption)
              case ht_ws0 =>
                intro s hs w7 hb hJ
                have e0 : s 0 = _ := hs 0 (by decide) rfl rfl
                have e1 : s 1 = _ := hs 1 (by decide) rfl rfl
                have e2 : s 2 = _ := hs 2 (by decide) rfl rfl
                obtain ⟨_, _, _, e3⟩ := hs 3 (by decide) rfl rfl
                have e4 : s 4 = _ := hs 4 (by decide) rfl rfl
                have e5 : s 5 = _ := hs 5 (by decide) rfl rfl
                have e6 : s 6 = _ := hs 6 (by decide) rfl rfl
                obtain ⟨_, _, _, e7⟩ := hs 7 (by decide) rfl rfl
                have e8 : s 8 = _ := hs 8 (by decide) rfl rfl
                have e9 : s 9 = _ := hs 9 (by decide) rfl rfl
                obtain ⟨_, _, _, _, _, _, e10⟩ := hs 10 (by decide) rfl rfl
                obtain ⟨_, _, _, _, _, _, e11⟩ := hs 11 (by decide) rfl rfl
                obtain ⟨hx2, hy2, nx2, ny2, ht2, h12, e12⟩ := hs 12 (by decide) rfl rfl
                have e13 : s 13 = _ := hs 13 (by decide) rfl rfl
                have e14 : s 14 = _ := hs 14 (by decide) rfl rfl
                have e17 : s 17 = _ := hs 17 (by decide) rfl rfl
                have e18 : s 18 = _ := hs 18 (by decide) rfl rfl
                obtain ⟨p15, e15, n15, l15, cl15⟩ := hJ.1 15 _ _ (by decide) rfl rfl
                have k_p15_0 : w7.cell? ⟨p15, 0, none⟩ = some (cellAt (s 12) 0) := cl15 0 (by decide)
                have k_p15_1 : w7.cell? ⟨p15, 1, none⟩ = some (cellAt (s 12) 1) := cl15 1 (by decide)
                have k_p15_2 : w7.cell? ⟨p15, 2, none⟩ = some (cellAt (s 12) 2) := cl15 2 (by decide)
                have k_p15_3 : w7.cell? ⟨p15, 3, none⟩ = some (cellAt (s 12) 3) := cl15 3 (by decide)
                have k_p15_4 : w7.cell? ⟨p15, 4, none⟩ = some (cellAt (s 12) 4) := cl15 4 (by decide)
                rw [e12] at k_p15_0 k_p15_1 k_p15_2 k_p15_3 k_p15_4
                simp only [cellAt] at k_p15_0 k_p15_1 k_p15_2 k_p15_3 k_p15_4
                simp only [e0, e1, e2, e3, e4, e5, e6, e7, e8, e9, e10, e11, e12, e13, e14, e17, e18, e15]
                clear hs hJ e0 e1 e2 e3 e4 e5 e6 e7 e8 e9 e10 e11 e12 e13 e14 e17 e18 e15 cl15
                replace z0_0 := keep hb z0_0; replace z0_1 := keep hb z0_1; replace z0_2 := keep hb z0_2; replace z1_0 := keep hb z1_0; replace z1_1 := keep hb z1_1; replace z2_0 := keep hb z2_0; replace z2_1 := keep hb z2_1; replace z3_0 := keep hb z3_0; replace z3_1 := keep hb z3_1; replace z3_2 := keep hb z3_2; replace z3_3 := keep hb z3_3; replace z3_4 := keep hb z3_4; replace cb := keep hb cb; replace ck0 := keep hb ck0; replace ck1 := keep hb ck1; replace ck2 := keep hb ck2; replace ck3 := keep hb ck3; replace ck4 := keep hb ck4; replace ci := keep hb ci; replace k_p8_0 := keep hb k_p8_0; replace k_p8_1 := keep hb k_p8_1; replace k_p9_0 := keep hb k_p9_0; replace k_p9_1 := keep hb k_p9_1; replace o0 := keep hb o0; replace o1 := keep hb o1
                have BW := bl_trans hBr hb
                have lz := BW.size
                clear hb
                cases qx : (sgX (adF (sdA xs ys 0) (cpO (sdA xs ys 0) (sdA xs ys 1) R)) (adF (sdA xs ys 1) (cpO (sdA xs ys 0) (sdA xs ys 1) R)) F Y).1
                · (try rw [qx])
                  go_wp2
                  exact ⟨⟨1, (s1, sH), hx1, hy1, nx1, ny1, ht1, by omega, by go_num, hH, hide ((cpT_no (s := (s1, sH)) qx).symm.trans (congrArg (fun z => cpT z (sgX (adF (sdA xs ys 0) (cpO (sdA xs ys 0) (sdA xs ys 1) R)) (adF (sdA xs ys 1) (cpO (sdA xs ys 0) (sdA xs ys 1) R)) F Y)) (unhide hE))), BW, cb, ck0, ck1, ck2, ck3, ck4, ci, k_p8_0, k_p8_1, k_p9_0, k_p9_1, o0, o1⟩, by simp [intOf]⟩
                · (try rw [qx])
                  cases s1
                  · go_wp2_with (first | (go_at_call 97; refine (tellS0 _ ci cb ck0 ck1 ck2 ck3 ck4 (by omega) (by omega) (by omega) (fun o => (BW.2 _).trans (fz1 o)) (fun o => (BW.2 _).trans (fz2 o)) rfl).mono ?_; rintro e w6 ⟨rfl, g0, g1, g2, g3, g4, gi, gb, bX, gF⟩; replace bX := bX w1 BW (by omega) (by omega); replace k_p8_0 := gF _ _ _ (by omega) (by omega) k_p8_0; replace k_p8_1 := gF _ _ _ (by omega) (by omega) k_p8_1; replace k_p9_0 := gF _ _ _ (by omega) (by omega) k_p9_0; replace k_p9_1 := gF _ _ _ (by omega) (by omega) k_p9_1; replace o0 := gF _ _ _ (by omega) (by omega) o0; replace o1 := gF _ _ _ (by omega) (by omega) o1))
                    exact ⟨⟨1, (true, (sgX (adF (sdA xs ys 0) (cpO (sdA xs ys 0) (sdA xs ys 1) R)) (adF (sdA xs ys 1) (cpO (sdA xs ys 0) (sdA xs ys 1) R)) F Y).2), hx2, hy2, nx2, ny2, ht2, by omega, by go_num, h12, hide ((cpT_0 (s := (false, sH)) qx rfl).symm.trans (congrArg (fun z => cpT z (sgX (adF (sdA xs ys 0) (cpO (sdA xs ys 0) (sdA xs ys 1) R)) (adF (sdA xs ys 1) (cpO (sdA xs ys 0) (sdA xs ys 1) R)) F Y)) (unhide hE))), bX, gb, g0, g1, g2, g3, g4, gi, k_p8_0, k_p8_1, k_p9_0, k_p9_1, o0, o1⟩, by simp [intOf]⟩
                  · cases qt : ltK .f64 (sgX (adF (sdA xs ys 0) (cpO (sdA xs ys 0) (sdA xs ys 1) R)) (adF (sdA xs ys 1) (cpO (sdA xs ys 0) (sdA xs ys 1) R)) F Y).2.2.2 sH.2.2
                    · have HL := (lt_is h12.2.2 hH.2.2).trans qt
                      go_wp2_with (first | (go_at_call 97; refine (tellS2 _ ci cb ck0 ck1 ck2 ck3 ck4 (by omega) (by omega) (by omega) (fun o => (BW.2 _).trans (fz1 o)) (fun o => (BW.2 _).trans (fz2 o)) rfl HL).mono ?_; rintro e w6 ⟨rfl, g0, g1, g2, g3, g4, gi, gb, bX, gF⟩; replace bX := bX w1 BW (by omega) (by omega); replace k_p8_0 := gF _ _ _ (by omega) (by omega) k_p8_0; replace k_p8_1 := gF _ _ _ (by omega) (by omega) k_p8_1; replace k_p9_0 := gF _ _ _ (by omega) (by omega) k_p9_0; replace k_p9_1 := gF _ _ _ (by omega) (by omega) k_p9_1; replace o0 := gF _ _ _ (by omega) (by omega) o0; replace o1 := gF _ _ _ (by omega) (by omega) o1))
                      exact ⟨⟨1, (true, sH), hx1, hy1, nx1, ny1, ht1, by omega, by go_num, hH, hide ((cpT_2 (s := (true, sH)) qx rfl qt).symm.trans (congrArg (fun z => cpT z (sgX (adF (sdA xs ys 0) (cpO (sdA xs ys 0) (sdA xs ys 1) R)) (adF (sdA xs ys 1) (cpO (sdA xs ys 0) (sdA xs ys 1) R)) F Y)) (unhide hE))), bX, gb, g0, g1, g2, g3, g4, gi, k_p8_0, k_p8_1, k_p9_0, k_p9_1, o0, o1⟩, by simp [intOf]⟩
                    · have HL := (lt_is h12.2.2 hH.2.2).trans qt
                      go_wp2_with (first | (go_at_call 97; refine (tellS1 _ ci cb ck0 ck1 ck2 ck3 ck4 (by omega) (by omega) (by omega) (fun o => (BW.2 _).trans (fz1 o)) (fun o => (BW.2 _).trans (fz2 o)) rfl HL).mono ?_; rintro e w6 ⟨rfl, g0, g1, g2, g3, g4, gi, gb, bX, gF⟩; replace bX := bX w1 BW (by omega) (by omega); replace k_p8_0 := gF _ _ _ (by omega) (by omega) k_p8_0; replace k_p8_1 := gF _ _ _ (by omega) (by omega) k_p8_1; replace k_p9_0 := gF _ _ _ (by omega) (by omega) k_p9_0; replace k_p9_1 := gF _ _ _ (by omega) (by omega) k_p9_1; replace o0 := gF _ _ _ (by omega) (by omega) o0; replace o1 := gF _ _ _ (by omega) (by omega) o1))
                      exact ⟨⟨1, (true, (sgX (adF (sdA xs ys 0) (cpO (sdA xs ys 0) (sdA xs ys 1) R)) (adF (sdA xs ys 1) (cpO (sdA xs ys 0) (sdA xs ys 1) R)) F Y).2), hx2, hy2, nx2, ny2, ht2, by omega, by go_num, h12, hide ((cpT_1 (s := (true, sH)) qx rfl qt).symm.trans (congrArg (fun z => cpT z (sgX (adF (sdA xs ys 0) (cpO (sdA xs ys 0) (sdA xs ys 1) R)) (adF (sdA xs ys 1) (cpO (sdA xs ys 0) (sdA xs ys 1) R)) F Y)) (unhide hE))), bX, gb, g0, g1, g2, g3, g4, gi, k_p8_0, k_p8_1, k_p9_0, k_p9_1, o0, o1⟩, by simp [intOf]⟩
            · go_wp2
              refine wp_region_new 19 rfl (fun i v => match i with | 0 => v = .func (.func 19) #[] #[] | 1 => v = .agg #[.float .f64 (xs 0), .float .f64 (ys 0)] | 2 => v = .agg #[.float .f64 ox, .float .f64 oy] | 3 => ∃ x y, isP x y (suF (sdA xs ys 0) (cpO (sdA xs ys 0) (sdA xs ys 1) R)) ∧ v = .agg #[.float .f64 x, .float .f64 y] | 4 => v = .func (.func 19) #[] #[] | 5 => v = .agg #[.float .f64 (xs 1), .float .f64 (ys 1)] | 6 => v = .agg #[.float .f64 ox, .float .f64 oy] | 7 => ∃ x y, isP x y (suF (sdA xs ys 1) (cpO (sdA xs ys 0) (sdA xs ys 1) R)) ∧ v = .agg #[.float .f64 x, .float .f64 y] | 8 => v = .agg #[.float .f64 fx, .float .f64 fy] | 9 => v = .agg #[.float .f64 wx, .float .f64 wy] | 10 => ∃ hx2 hy2 nx2 ny2 ht2 : Nat, isH hx2 hy2 nx2 ny2 ht2 ((sgX (suF (sdA xs ys 0) (cpO (sdA xs ys 0) (sdA xs ys 1) R)) (suF (sdA xs ys 1) (cpO (sdA xs ys 0) (sdA xs ys 1) R)) F Y).2) ∧ v = .tuple #[.agg #[.float .f64 hx2, .float .f64 hy2, .float .f64 nx2, .float .f64 ny2, .float .f64 ht2], .bool (sgX (suF (sdA xs ys 0) (cpO (sdA xs ys 0) (sdA xs ys 1) R)) (suF (sdA xs ys 1) (cpO (sdA xs ys 0) (sdA xs ys 1) R)) F Y).1, .int .i64 (sgE (suF (sdA xs ys 0) (cpO (sdA xs ys 0) (sdA xs ys 1) R)) (suF (sdA xs ys 1) (cpO (sdA xs ys 0) (sdA xs ys 1) R)) F Y)] | 11 => ∃ hx2 hy2 nx2 ny2 ht2 : Nat, isH hx2 hy2 nx2 ny2 ht2 ((sgX (suF (sdA xs ys 0) (cpO (sdA xs ys 0) (sdA xs ys 1) R)) (suF (sdA xs ys 1) (cpO (sdA xs ys 0) (sdA xs ys 1) R)) F Y).2) ∧ v = .tuple #[.agg #[.float .f64 hx2, .float .f64 hy2, .float .f64 nx2, .float .f64 ny2, .float .f64 ht2], .bool (sgX (suF (sdA xs ys 0) (cpO (sdA xs ys 0) (sdA xs ys 1) R)) (suF (sdA xs ys 1) (cpO (sdA xs ys 0) (sdA xs ys 1) R)) F Y).1, .int .i64 (sgE (suF (sdA xs ys 0) (cpO (sdA xs ys 0) (sdA xs ys 1) R)) (suF (sdA xs ys 1) (cpO (sdA xs ys 0) (sdA xs ys 1) R)) F Y)] | 12 => ∃ hx2 hy2 nx2 ny2 ht2 : Nat, isH hx2 hy2 nx2 ny2 ht2 ((sgX (suF (sdA xs ys 0) (cpO (sdA xs ys 0) (sdA xs ys 1) R)) (suF (sdA xs ys 1) (cpO (sdA xs ys 0) (sdA xs ys 1) R)) F Y).2) ∧ v = .agg #[.float .f64 hx2, .float .f64 hy2, .float .f64 nx2, .float .f64 ny2, .float .f64 ht2] | 13 => v = .bool (sgX (suF (sdA xs ys 0) (cpO (sdA xs ys 0) (sdA xs ys 1) R)) (suF (sdA xs ys 1) (cpO (sdA xs ys 0) (sdA xs ys 1) R)) F Y).1 | 14 => v = .int .i64 (sgE (suF (sdA xs ys 0) (cpO (sdA xs ys 0) (sdA xs ys 1) R)) (suF (sdA xs ys 1) (cpO (sdA xs ys 0) (sdA xs ys 1) R)) F Y) | 17 => v = .bool (sgX (suF (sdA xs ys 0) (cpO (sdA xs ys 0) (sdA xs ys 1) R)) (suF (sdA xs ys 1) (cpO (sdA xs ys 0) (sdA xs ys 1) R)) F Y).1 | 18 => v = .int .i64 (sgE (suF (sdA xs ys 0) (cpO (sdA xs ys 0) (sdA xs ys 1) R)) (suF (sdA xs ys 1) (cpO (sdA xs ys 0) (sdA xs ys 1) R)) F Y) | _ => False) [(15, #[.float .f64 0, .float .f64 0, .float .f64 0, .float .f64 0, .float .f64 0], 28)] [(16, 15, 12)] ?A_ws1 (by kernel_rfl) (by kernel_rfl) ?hA_ws1 ?ha_ws1 ?hst_ws1 ?hq_ws1 ?ht_ws1
              case hA_ws1 =>
                intro s
                simp only [putL, dstO, Act.put, List.getElem?_toArray, List.getElem?_cons_zero, List.getElem?_cons_succ, Option.bind_some, List.setIfInBounds_toArray, List.set_cons_zero, List.set_cons_succ, if_true]
                all_goals exact rfl
              case ha_ws1 =>
                intro i o c ty hi ho hal B W K hK
                rcases (show i = 0 ∨ i = 1 ∨ i = 2 ∨ i = 3 ∨ i = 4 ∨ i = 5 ∨ i = 6 ∨ i = 7 ∨ i = 8 ∨ i = 9 ∨ i = 10 ∨ i = 11 ∨ i = 12 ∨ i = 13 ∨ i = 14 ∨ i = 15 ∨ i = 16 ∨ i = 17 ∨ i = 18 by omega) with rfl | rfl | rfl | rfl | rfl | rfl | rfl | rfl | rfl | rfl | rfl | rfl | rfl | rfl | rfl | rfl | rfl | rfl | rfl
                · cases (show none = some (c, ty) from hal)
                · cases (show none = some (c, ty) from hal)
                · cases (show none = some (c, ty) from hal)
                · cases (show none = some (c, ty) from hal)
                · cases (show none = some (c, ty) from hal)
                · cases (show none = some (c, ty) from hal)
                · cases (show none = some (c, ty) from hal)
                · cases (show none = some (c, ty) from hal)
                · cases (show none = some (c, ty) from hal)
                · cases (show none = some (c, ty) from hal)
                · cases (show none = some (c, ty) from hal)
                · cases (show none = some (c, ty) from hal)
                · cases (show none = some (c, ty) from hal)
                · cases (show none = some (c, ty) from hal)
                · cases (show none = some (c, ty) from hal)
                · cases ho; cases (show some (#[.float .f64 0, .float .f64 0, .float .f64 0, .float .f64 0, .float .f64 0], 28) = some (c, ty) from hal); go_simp; exact hK.out
                · cases (show none = some (c, ty) from hal)
                · cases (show none = some (c, ty) from hal)
                · cases (show none = some (c, ty) from hal)
              case hst_ws1 =>
                intro t o a d c ty hlt ho hts hal s hs W b eb hc hf K hK
                rcases (show t = 0 ∨ t = 1 ∨ t = 2 ∨ t = 3 ∨ t = 4 ∨ t = 5 ∨ t = 6 ∨ t = 7 ∨ t = 8 ∨ t = 9 ∨ t = 10 ∨ t = 11 ∨ t = 12 ∨ t = 13 ∨ t = 14 ∨ t = 15 ∨ t = 16 ∨ t = 17 ∨ t = 18 by omega) with rfl | rfl | rfl | rfl | rfl | rfl | rfl | rfl | rfl | rfl | rfl | rfl | rfl | rfl | rfl | rfl | rfl | rfl | rfl
                · cases (show none = some (a, d) from hts)
                · cases (show none = some (a, d) from hts)
                · cases (show none = some (a, d) from hts)
                · cases (show none = some (a, d) from hts)
                · cases (show none = some (a, d) from hts)
                · cases (show none = some (a, d) from hts)
                · cases (show none = some (a, d) from hts)
                · cases (show none = some (a, d) from hts)
                · cases (show none = some (a, d) from hts)
                · cases (show none = some (a, d) from hts)
                · cases (show none = some (a, d) from hts)
                · cases (show none = some (a, d) from hts)
                · cases (show none = some (a, d) from hts)
                · cases (show none = some (a, d) from hts)
                · cases (show none = some (a, d) from hts)
                · cases (show none = some (a, d) from hts)
                · cases ho; cases (show some (15, 12) = some (a, d) from hts); cases (show some (#[.float .f64 0, .float .f64 0, .float .f64 0, .float .f64 0, .float .f64 0], 28) = some (c, ty) from hal)
                  obtain ⟨hx2, hy2, nx2, ny2, ht2, h12, e12⟩ := hs 12 (by decide) rfl rfl (by kernel_rfl)
                  obtain ⟨u0, hu0⟩ := Option.isSome_iff_exists.1 (hc 0 (by decide))
                  obtain ⟨u1, hu1⟩ := Option.isSome_iff_exists.1 (hc 1 (by decide))
                  obtain ⟨u2, hu2⟩ := Option.isSome_iff_exists.1 (hc 2 (by decide))
                  obtain ⟨u3, hu3⟩ := Option.isSome_iff_exists.1 (hc 3 (by decide))
                  obtain ⟨u4, hu4⟩ := Option.isSome_iff_exists.1 (hc 4 (by decide))
                  simp only [eb, e12] at hK ⊢
                  clear hs
                  go_simp
                  exact hK.out
                · cases (show none = some (a, d) from hts)
                · cases (show none = some (a, d) from hts)
              case hq_ws1 =>
                intro i o hi hal hts ho s hs W hb K hK
                have uz0_0 := keep hb z0_0; have uz0_1 := keep hb z0_1; have uz0_2 := keep hb z0_2; have uz1_0 := keep hb z1_0; have uz1_1 := keep hb z1_1; have uz2_0 := keep hb z2_0; have uz2_1 := keep hb z2_1; have uz3_0 := keep hb z3_0; have uz3_1 := keep hb z3_1; have uz3_2 := keep hb z3_2; have uz3_3 := keep hb z3_3; have uz3_4 := keep hb z3_4; have uk_p8_0 := keep hb k_p8_0; have uk_p8_1 := keep hb k_p8_1; have uk_p9_0 := keep hb k_p9_0; have uk_p9_1 := keep hb k_p9_1; have uo0 := keep hb o0; have uo1 := keep hb o1
                rcases (show i = 0 ∨ i = 1 ∨ i = 2 ∨ i = 3 ∨ i = 4 ∨ i = 5 ∨ i = 6 ∨ i = 7 ∨ i = 8 ∨ i = 9 ∨ i = 10 ∨ i = 11 ∨ i = 12 ∨ i = 13 ∨ i = 14 ∨ i = 15 ∨ i = 16 ∨ i = 17 ∨ i = 18 by omega) with rfl | rfl | rfl | rfl | rfl | rfl | rfl | rfl | rfl | rfl | rfl | rfl | rfl | rfl | rfl | rfl | rfl | rfl | rfl
                rotate_left 3
                cases ho
                have e0 : s 0 = _ := hs 0 (by decide) rfl rfl (by kernel_rfl)
                have e1 : s 1 = _ := hs 1 (by decide) rfl rfl (by kernel_rfl)
                have e2 : s 2 = _ := hs 2 (by decide) rfl rfl (by kernel_rfl)
                simp only [e0, e1, e2] at hK ⊢
                rotate_left 4
                cases ho
                have e4 : s 4 = _ := hs 4 (by decide) rfl rfl (by kernel_rfl)
                have e5 : s 5 = _ := hs 5 (by decide) rfl rfl (by kernel_rfl)
                have e6 : s 6 = _ := hs 6 (by decide) rfl rfl (by kernel_rfl)
                simp only [e4, e5, e6] at hK ⊢
                rotate_left 3
                cases ho
                obtain ⟨x3, y3, h3, e3⟩ := hs 3 (by decide) rfl rfl (by kernel_rfl)
                obtain ⟨x7, y7, h7, e7⟩ := hs 7 (by decide) rfl rfl (by kernel_rfl)
                have e8 : s 8 = _ := hs 8 (by decide) rfl rfl (by kernel_rfl)
                have e9 : s 9 = _ := hs 9 (by decide) rfl rfl (by kernel_rfl)
                simp only [e3, e7, e8, e9] at hK ⊢
                rotate_left 1
                cases ho
                obtain ⟨hx2, hy2, nx2, ny2, ht2, h10, e10⟩ := hs 10 (by decide) rfl rfl (by kernel_rfl)
                simp only [e10] at hK ⊢
                rotate_left 1
                cases ho
                obtain ⟨hx2, hy2, nx2, ny2, ht2, h11, e11⟩ := hs 11 (by decide) rfl rfl (by kernel_rfl)
                simp only [e11] at hK ⊢
                rotate_left 1
                cases ho
                obtain ⟨hx2, hy2, nx2, ny2, ht2, h11, e11⟩ := hs 11 (by decide) rfl rfl (by kernel_rfl)
                simp only [e11] at hK ⊢
                rotate_left 1
                cases ho
                obtain ⟨hx2, hy2, nx2, ny2, ht2, h11, e11⟩ := hs 11 (by decide) rfl rfl (by kernel_rfl)
                simp only [e11] at hK ⊢
                rotate_left 1
                · cases (show some _ = none from hal)
                · cases (show some _ = none from hts)
                cases ho
                have e13 : s 13 = _ := hs 13 (by decide) rfl rfl (by kernel_rfl)
                simp only [e13] at hK ⊢
                rotate_left 1
                cases ho
                have e14 : s 14 = _ := hs 14 (by decide) rfl rfl (by kernel_rfl)
                simp only [e14] at hK ⊢
                rotate_left 1
                all_goals
                  try cases ho
                  simp only [Act.put, List.setIfInBounds_toArray, List.set_cons_zero, List.set_cons_succ] at hK
                  clear hs hal hts
                  go_simp
                  all_goals (try go_wp2_with (first | (go_at_call 19; with_reducible refine (vSub_n _ hpA hO).mono ?_; rintro e w' ⟨x, y, h3, rfl, hb1⟩) | (go_at_call 19; with_reducible refine (vSub_n _ hpB hO).mono ?_; rintro e w' ⟨x, y, h7, rfl, hb1⟩) | (go_at_call 9; refine (segment_n _ h3 h7 hf hw).mono ?_; rintro e w' ⟨hx2, hy2, nx2, ny2, ht2, h10, rfl, hb1⟩)))
                  all_goals first | with_reducible exact hK.out _ _ ⟨_, _, h3, rfl⟩ hb1 | with_reducible exact hK.out _ _ ⟨_, _, h7, rfl⟩ hb1 | with_reducible exact hK.out _ _ ⟨_, _, _, _, _, h10, rfl⟩ hb1 | with_reducible exact hK.out _ _ ⟨_, _, _, _, _, h10, rfl⟩ (bl_refl _) | with_reducible exact hK.out _ _ ⟨_, _, _, _, _, h11, rfl⟩ (bl_refl _) | with_reducible exact hK.out _ _ rfl (bl_refl _) | with_reducible exact hK.out _ _ rfl (by assumption) | exact hK.out _ _ ⟨_, _, h3, rfl⟩ hb1 | exact hK.out _ _ ⟨_, _, h7, rfl⟩ hb1 | exact hK.out _ _ ⟨_, _, _, _, _, h10, rfl⟩ hb1 | exact hK.out _ _ ⟨_, _, _, _, _, h10, rfl⟩ (bl_refl _) | exact hK.out _ _ ⟨_, _, _, _, _, h11, rfl⟩ (bl_refl _) | exact hK.out _ _ rfl (bl_refl _) | exact hK.out _ _ rfl (by assumption) | exact hK.out _ _ (by assumption) (by assumption)
              case ht_ws1 =>
                intro s hs w7 hb hJ
                have e0 : s 0 = _ := hs 0 (by decide) rfl rfl
                have e1 : s 1 = _ := hs 1 (by decide) rfl rfl
                have e2 : s 2 = _ := hs 2 (by decide) rfl rfl
                obtain ⟨_, _, _, e3⟩ := hs 3 (by decide) rfl rfl
                have e4 : s 4 = _ := hs 4 (by decide) rfl rfl
                have e5 : s 5 = _ := hs 5 (by decide) rfl rfl
                have e6 : s 6 = _ := hs 6 (by decide) rfl rfl
                obtain ⟨_, _, _, e7⟩ := hs 7 (by decide) rfl rfl
                have e8 : s 8 = _ := hs 8 (by decide) rfl rfl
                have e9 : s 9 = _ := hs 9 (by decide) rfl rfl
                obtain ⟨_, _, _, _, _, _, e10⟩ := hs 10 (by decide) rfl rfl
                obtain ⟨_, _, _, _, _, _, e11⟩ := hs 11 (by decide) rfl rfl
                obtain ⟨hx2, hy2, nx2, ny2, ht2, h12, e12⟩ := hs 12 (by decide) rfl rfl
                have e13 : s 13 = _ := hs 13 (by decide) rfl rfl
                have e14 : s 14 = _ := hs 14 (by decide) rfl rfl
                have e17 : s 17 = _ := hs 17 (by decide) rfl rfl
                have e18 : s 18 = _ := hs 18 (by decide) rfl rfl
                obtain ⟨p15, e15, n15, l15, cl15⟩ := hJ.1 15 _ _ (by decide) rfl rfl
                have k_p15_0 : w7.cell? ⟨p15, 0, none⟩ = some (cellAt (s 12) 0) := cl15 0 (by decide)
                have k_p15_1 : w7.cell? ⟨p15, 1, none⟩ = some (cellAt (s 12) 1) := cl15 1 (by decide)
                have k_p15_2 : w7.cell? ⟨p15, 2, none⟩ = some (cellAt (s 12) 2) := cl15 2 (by decide)
                have k_p15_3 : w7.cell? ⟨p15, 3, none⟩ = some (cellAt (s 12) 3) := cl15 3 (by decide)
                have k_p15_4 : w7.cell? ⟨p15, 4, none⟩ = some (cellAt (s 12) 4) := cl15 4 (by decide)
                rw [e12] at k_p15_0 k_p15_1 k_p15_2 k_p15_3 k_p15_4
                simp only [cellAt] at k_p15_0 k_p15_1 k_p15_2 k_p15_3 k_p15_4
                simp only [e0, e1, e2, e3, e4, e5, e6, e7, e8, e9, e10, e11, e12, e13, e14, e17, e18, e15]
                clear hs hJ e0 e1 e2 e3 e4 e5 e6 e7 e8 e9 e10 e11 e12 e13 e14 e17 e18 e15 cl15
                replace z0_0 := keep hb z0_0; replace z0_1 := keep hb z0_1; replace z0_2 := keep hb z0_2; replace z1_0 := keep hb z1_0; replace z1_1 := keep hb z1_1; replace z2_0 := keep hb z2_0; replace z2_1 := keep hb z2_1; replace z3_0 := keep hb z3_0; replace z3_1 := keep hb z3_1; replace z3_2 := keep hb z3_2; replace z3_3 := keep hb z3_3; replace z3_4 := keep hb z3_4; replace cb := keep hb cb; replace ck0 := keep hb ck0; replace ck1 := keep hb ck1; replace ck2 := keep hb ck2; replace ck3 := keep hb ck3; replace ck4 := keep hb ck4; replace ci := keep hb ci; replace k_p8_0 := keep hb k_p8_0; replace k_p8_1 := keep hb k_p8_1; replace k_p9_0 := keep hb k_p9_0; replace k_p9_1 := keep hb k_p9_1; replace o0 := keep hb o0; replace o1 := keep hb o1
                have BW := bl_trans hBr hb
                have lz := BW.size
                clear hb
                cases qx : (sgX (suF (sdA xs ys 0) (cpO (sdA xs ys 0) (sdA xs ys 1) R)) (suF (sdA xs ys 1) (cpO (sdA xs ys 0) (sdA xs ys 1) R)) F Y).1
                · (try rw [qx])
                  go_wp2
                  exact ⟨⟨2, (s1, sH), hx1, hy1, nx1, ny1, ht1, by omega, by go_num, hH, hide ((cpT_no (s := (s1, sH)) qx).symm.trans (congrArg (fun z => cpT z (sgX (suF (sdA xs ys 0) (cpO (sdA xs ys 0) (sdA xs ys 1) R)) (suF (sdA xs ys 1) (cpO (sdA xs ys 0) (sdA xs ys 1) R)) F Y)) (unhide hE))), BW, cb, ck0, ck1, ck2, ck3, ck4, ci, k_p8_0, k_p8_1, k_p9_0, k_p9_1, o0, o1⟩, by simp [intOf]⟩
                · (try rw [qx])
                  cases s1
                  · go_wp2_with (first | (go_at_call 97; refine (tellS0 _ ci cb ck0 ck1 ck2 ck3 ck4 (by omega) (by omega) (by omega) (fun o => (BW.2 _).trans (fz1 o)) (fun o => (BW.2 _).trans (fz2 o)) rfl).mono ?_; rintro e w6 ⟨rfl, g0, g1, g2, g3, g4, gi, gb, bX, gF⟩; replace bX := bX w1 BW (by omega) (by omega); replace k_p8_0 := gF _ _ _ (by omega) (by omega) k_p8_0; replace k_p8_1 := gF _ _ _ (by omega) (by omega) k_p8_1; replace k_p9_0 := gF _ _ _ (by omega) (by omega) k_p9_0; replace k_p9_1 := gF _ _ _ (by omega) (by omega) k_p9_1; replace o0 := gF _ _ _ (by omega) (by omega) o0; replace o1 := gF _ _ _ (by omega) (by omega) o1))
                    exact ⟨⟨2, (true, (sgX (suF (sdA xs ys 0) (cpO (sdA xs ys 0) (sdA xs ys 1) R)) (suF (sdA xs ys 1) (cpO (sdA xs ys 0) (sdA xs ys 1) R)) F Y).2), hx2, hy2, nx2, ny2, ht2, by omega, by go_num, h12, hide ((cpT_0 (s := (false, sH)) qx rfl).symm.trans (congrArg (fun z => cpT z (sgX (suF (sdA xs ys 0) (cpO (sdA xs ys 0) (sdA xs ys 1) R)) (suF (sdA xs ys 1) (cpO (sdA xs ys 0) (sdA xs ys 1) R)) F Y)) (unhide hE))), bX, gb, g0, g1, g2, g3, g4, gi, k_p8_0, k_p8_1, k_p9_0, k_p9_1, o0, o1⟩, by simp [intOf]⟩
                  · cases qt : ltK .f64 (sgX (suF (sdA xs ys 0) (cpO (sdA xs ys 0) (sdA xs ys 1) R)) (suF (sdA xs ys 1) (cpO (sdA xs ys 0) (sdA xs ys 1) R)) F Y).2.2.2 sH.2.2
                    · have HL := (lt_is h12.2.2 hH.2.2).trans qt
                      go_wp2_with (first | (go_at_call 97; refine (tellS2 _ ci cb ck0 ck1 ck2 ck3 ck4 (by omega) (by omega) (by omega) (fun o => (BW.2 _).trans (fz1 o)) (fun o => (BW.2 _).trans (fz2 o)) rfl HL).mono ?_; rintro e w6 ⟨rfl, g0, g1, g2, g3, g4, gi, gb, bX, gF⟩; replace bX := bX w1 BW (by omega) (by omega); replace k_p8_0 := gF _ _ _ (by omega) (by omega) k_p8_0; replace k_p8_1 := gF _ _ _ (by omega) (by omega) k_p8_1; replace k_p9_0 := gF _ _ _ (by omega) (by omega) k_p9_0; replace k_p9_1 := gF _ _ _ (by omega) (by omega) k_p9_1; replace o0 := gF _ _ _ (by omega) (by omega) o0; replace o1 := gF _ _ _ (by omega) (by omega) o1))
                      exact ⟨⟨2, (true, sH), hx1, hy1, nx1, ny1, ht1, by omega, by go_num, hH, hide ((cpT_2 (s := (true, sH)) qx rfl qt).symm.trans (congrArg (fun z => cpT z (sgX (suF (sdA xs ys 0) (cpO (sdA xs ys 0) (sdA xs ys 1) R)) (suF (sdA xs ys 1) (cpO (sdA xs ys 0) (sdA xs ys 1) R)) F Y)) (unhide hE))), bX, gb, g0, g1, g2, g3, g4, gi, k_p8_0, k_p8_1, k_p9_0, k_p9_1, o0, o1⟩, by simp [intOf]⟩
                    · have HL := (lt_is h12.2.2 hH.2.2).trans qt
                      go_wp2_with (first | (go_at_call 97; refine (tellS1 _ ci cb ck0 ck1 ck2 ck3 ck4 (by omega) (by omega) (by omega) (fun o => (BW.2 _).trans (fz1 o)) (fun o => (BW.2 _).trans (fz2 o)) rfl HL).mono ?_; rintro e w6 ⟨rfl, g0, g1, g2, g3, g4, gi, gb, bX, gF⟩; replace bX := bX w1 BW (by omega) (by omega); replace k_p8_0 := gF _ _ _ (by omega) (by omega) k_p8_0; replace k_p8_1 := gF _ _ _ (by omega) (by omega) k_p8_1; replace k_p9_0 := gF _ _ _ (by omega) (by omega) k_p9_0; replace k_p9_1 := gF _ _ _ (by omega) (by omega) k_p9_1; replace o0 := gF _ _ _ (by omega) (by omega) o0; replace o1 := gF _ _ _ (by omega) (by omega) o1))
                      exact ⟨⟨2, (true, (sgX (suF (sdA xs ys 0) (cpO (sdA xs ys 0) (sdA xs ys 1) R)) (suF (sdA xs ys 1) (cpO (sdA xs ys 0) (sdA xs ys 1) R)) F Y).2), hx2, hy2, nx2, ny2, ht2, by omega, by go_num, h12, hide ((cpT_1 (s := (true, sH)) qx rfl qt).symm.trans (congrArg (fun z => cpT z (sgX (suF (sdA xs ys 0) (cpO (sdA xs ys 0) (sdA xs ys 1) R)) (suF (sdA xs ys 1) (cpO (sdA xs ys 0) (sdA xs ys 1) R)) F Y)) (unhide hE))), bX, gb, g0, g1, g2, g3, g4, gi, k_p8_0, k_p8_1, k_p9_0, k_p9_1, o0, o1⟩, by simp [intOf]⟩
            · have fE : ∀ o, wr.frozen? ⟨w.heap.size + 1 + 1 + 1, o, none⟩ = false := fun o => (hBr.2 _).trans (fz0 o)
              have lq : w.heap.size + 1 + 1 + 1 < wr.heap.size := by omega
              go_wp2_with (first | (go_at_call 98; refine (best_n _ ci ck0 ck1 ck2 ck3 ck4).mono ?_; rintro e w8 ⟨rfl, hb⟩; replace z3_0 := keep hb z3_0; replace z3_1 := keep hb z3_1; replace z3_2 := keep hb z3_2; replace z3_3 := keep hb z3_3; replace z3_4 := keep hb z3_4; replace fE : ∀ o, w8.frozen? ⟨w.heap.size + 1 + 1 + 1, o, none⟩ = false := fun o => (hb.2 _).trans (fE o); replace lq := Nat.lt_of_lt_of_le lq hb.size; have B8 := bl_trans (bl_trans (bl_trans B0 BF) hBr) hb; clear hb))
              refine fin5a (G := bodyPost _ _ _ _ _) (by repeat (first | (with_reducible exact z3_0) | (with_reducible refine up_drewN ?_) | (with_reducible refine up_alloc ?_))) (by repeat (first | (with_reducible exact z3_1) | (with_reducible refine up_drewN ?_) | (with_reducible refine up_alloc ?_))) (by repeat (first | (with_reducible exact z3_2) | (with_reducible refine up_drewN ?_) | (with_reducible refine up_alloc ?_))) (by repeat (first | (with_reducible exact z3_3) | (with_reducible refine up_drewN ?_) | (with_reducible refine up_alloc ?_))) (by repeat (first | (with_reducible exact z3_4) | (with_reducible refine up_drewN ?_) | (with_reducible refine up_alloc ?_))) B8 (by omega) fun X r0 r1 r2 r3 r4 bX => ?_
              refine bodyPost_ret (capsule_res _ _ _ _ _ _ _ _ _ _ rfl rfl rfl r0 r1 r2 r3 r4) rfl ⟨hx1, hy1, nx1, ny1, ht1, ?_, ?_, bX⟩
              · rw [← unhide hE]; exact hH
              · exact congrArg (fun z : Hb => Ending.returned (.tuple #[.agg #[.float .f64 hx1, .float .f64 hy1, .float .f64 nx1, .float .f64 ny1, .float .f64 ht1], .bool z.1, .int .i64 0])) (unhide hE)

end Go.Proofs.YtdeooadeohojcaaGreat
