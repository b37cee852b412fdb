/-
  What each function of package poly answers, and what the reference of its chapter answers: one contract a function, for every float: the answer stands in the relation of its formula to what was given; of the memory that was there nothing has turned.
-/
import Derived.Test.YtdeooadeohojcaaGreatVec
import Derived.Test.YtdeooadeohojcaaGreatYa
import Derived.Below
import Derived.WalkKit
import Derived.WalkLawsBesides
import Derived.WalkSpells
import Derived.ProofKit
import Derived.OpenShut
import Derived.Deep.RegionHeld3
namespace Go.Proofs.YtdeooadeohojcaaGreat
open Go.ChangeShapes Go.WideShapes Go.ChangeAt Go.RowKit
set_option linter.unusedVariables false
set_option linter.unusedSimpArgs false


theorem bxYb0 (w : World) (cx cy fx fy wx wy : Nat) (W : World) (hW : W = ((((w.alloc (.cells #[.float .f64 cx, .float .f64 cy] 24)).alloc (.cells #[.float .f64 fx, .float .f64 fy] 24)).alloc (.cells #[.float .f64 wx, .float .f64 wy] 24)).alloc (.cells #[.float .f64 0, .float .f64 0, .float .f64 0, .float .f64 0, .float .f64 0] 28))) : W.cell? ⟨w.heap.size, 0, none⟩ = some (.float .f64 cx) ∧ W.cell? ⟨w.heap.size, 1, none⟩ = some (.float .f64 cy) ∧ W.cell? ⟨w.heap.size + 1, 0, none⟩ = some (.float .f64 fx) ∧ W.cell? ⟨w.heap.size + 1, 1, none⟩ = some (.float .f64 fy) ∧ W.cell? ⟨w.heap.size + 1 + 1, 0, none⟩ = some (.float .f64 wx) ∧ W.cell? ⟨w.heap.size + 1 + 1, 1, none⟩ = some (.float .f64 wy) ∧ W.cell? ⟨w.heap.size + 1 + 1 + 1, 0, none⟩ = some (.float .f64 0) ∧ W.cell? ⟨w.heap.size + 1 + 1 + 1, 1, none⟩ = some (.float .f64 0) ∧ W.cell? ⟨w.heap.size + 1 + 1 + 1, 2, none⟩ = some (.float .f64 0) ∧ W.cell? ⟨w.heap.size + 1 + 1 + 1, 3, none⟩ = some (.float .f64 0) ∧ W.cell? ⟨w.heap.size + 1 + 1 + 1, 4, none⟩ = some (.float .f64 0) ∧ Bel w W := by
  have z0_0 : (w.alloc (.cells #[.float .f64 cx, .float .f64 cy] 24)).cell? ⟨w.heap.size, 0, none⟩ = some (.float .f64 cx) := by rw [World.cell?_alloc_new]; rfl
  replace z0_0 := up_alloc (o := .cells #[.float .f64 fx, .float .f64 fy] 24) z0_0
  replace z0_0 := up_alloc (o := .cells #[.float .f64 wx, .float .f64 wy] 24) z0_0
  replace z0_0 := up_alloc (o := .cells #[.float .f64 0, .float .f64 0, .float .f64 0, .float .f64 0, .float .f64 0] 28) z0_0
  have z0_1 : (w.alloc (.cells #[.float .f64 cx, .float .f64 cy] 24)).cell? ⟨w.heap.size, 1, none⟩ = some (.float .f64 cy) := by rw [World.cell?_alloc_new]; rfl
  replace z0_1 := up_alloc (o := .cells #[.float .f64 fx, .float .f64 fy] 24) z0_1
  replace z0_1 := up_alloc (o := .cells #[.float .f64 wx, .float .f64 wy] 24) z0_1
  replace z0_1 := up_alloc (o := .cells #[.float .f64 0, .float .f64 0, .float .f64 0, .float .f64 0, .float .f64 0] 28) z0_1
  have z1_0 : ((w.alloc (.cells #[.float .f64 cx, .float .f64 cy] 24)).alloc (.cells #[.float .f64 fx, .float .f64 fy] 24)).cell? ⟨w.heap.size + 1, 0, none⟩ = some (.float .f64 fx) := by rw [← (show (w.alloc (.cells #[.float .f64 cx, .float .f64 cy] 24)).heap.size = w.heap.size + 1 by simp only [World.size_alloc]), World.cell?_alloc_new]; rfl
  replace z1_0 := up_alloc (o := .cells #[.float .f64 wx, .float .f64 wy] 24) z1_0
  replace z1_0 := up_alloc (o := .cells #[.float .f64 0, .float .f64 0, .float .f64 0, .float .f64 0, .float .f64 0] 28) z1_0
  have z1_1 : ((w.alloc (.cells #[.float .f64 cx, .float .f64 cy] 24)).alloc (.cells #[.float .f64 fx, .float .f64 fy] 24)).cell? ⟨w.heap.size + 1, 1, none⟩ = some (.float .f64 fy) := by rw [← (show (w.alloc (.cells #[.float .f64 cx, .float .f64 cy] 24)).heap.size = w.heap.size + 1 by simp only [World.size_alloc]), World.cell?_alloc_new]; rfl
  replace z1_1 := up_alloc (o := .cells #[.float .f64 wx, .float .f64 wy] 24) z1_1
  replace z1_1 := up_alloc (o := .cells #[.float .f64 0, .float .f64 0, .float .f64 0, .float .f64 0, .float .f64 0] 28) z1_1
  have z2_0 : (((w.alloc (.cells #[.float .f64 cx, .float .f64 cy] 24)).alloc (.cells #[.float .f64 fx, .float .f64 fy] 24)).alloc (.cells #[.float .f64 wx, .float .f64 wy] 24)).cell? ⟨w.heap.size + 1 + 1, 0, none⟩ = some (.float .f64 wx) := by rw [← (show ((w.alloc (.cells #[.float .f64 cx, .float .f64 cy] 24)).alloc (.cells #[.float .f64 fx, .float .f64 fy] 24)).heap.size = w.heap.size + 1 + 1 by simp only [World.size_alloc]), World.cell?_alloc_new]; rfl
  replace z2_0 := up_alloc (o := .cells #[.float .f64 0, .float .f64 0, .float .f64 0, .float .f64 0, .float .f64 0] 28) z2_0
  have z2_1 : (((w.alloc (.cells #[.float .f64 cx, .float .f64 cy] 24)).alloc (.cells #[.float .f64 fx, .float .f64 fy] 24)).alloc (.cells #[.float .f64 wx, .float .f64 wy] 24)).cell? ⟨w.heap.size + 1 + 1, 1, none⟩ = some (.float .f64 wy) := by rw [← (show ((w.alloc (.cells #[.float .f64 cx, .float .f64 cy] 24)).alloc (.cells #[.float .f64 fx, .float .f64 fy] 24)).heap.size = w.heap.size + 1 + 1 by simp only [World.size_alloc]), World.cell?_alloc_new]; rfl
  replace z2_1 := up_alloc (o := .cells #[.float .f64 0, .float .f64 0, .float .f64 0, .float .f64 0, .float .f64 0] 28) z2_1
  have z3_0 : ((((w.alloc (.cells #[.float .f64 cx, .float .f64 cy] 24)).alloc (.cells #[.float .f64 fx, .float .f64 fy] 24)).alloc (.cells #[.float .f64 wx, .float .f64 wy] 24)).alloc (.cells #[.float .f64 0, .float .f64 0, .float .f64 0, .float .f64 0, .float .f64 0] 28)).cell? ⟨w.heap.size + 1 + 1 + 1, 0, none⟩ = some (.float .f64 0) := by rw [← (show (((w.alloc (.cells #[.float .f64 cx, .float .f64 cy] 24)).alloc (.cells #[.float .f64 fx, .float .f64 fy] 24)).alloc (.cells #[.float .f64 wx, .float .f64 wy] 24)).heap.size = w.heap.size + 1 + 1 + 1 by simp only [World.size_alloc]), World.cell?_alloc_new]; rfl
  have z3_1 : ((((w.alloc (.cells #[.float .f64 cx, .float .f64 cy] 24)).alloc (.cells #[.float .f64 fx, .float .f64 fy] 24)).alloc (.cells #[.float .f64 wx, .float .f64 wy] 24)).alloc (.cells #[.float .f64 0, .float .f64 0, .float .f64 0, .float .f64 0, .float .f64 0] 28)).cell? ⟨w.heap.size + 1 + 1 + 1, 1, none⟩ = some (.float .f64 0) := by rw [← (show (((w.alloc (.cells #[.float .f64 cx, .float .f64 cy] 24)).alloc (.cells #[.float .f64 fx, .float .f64 fy] 24)).alloc (.cells #[.float .f64 wx, .float .f64 wy] 24)).heap.size = w.heap.size + 1 + 1 + 1 by simp only [World.size_alloc]), World.cell?_alloc_new]; rfl
  have z3_2 : ((((w.alloc (.cells #[.float .f64 cx, .float .f64 cy] 24)).alloc (.cells #[.float .f64 fx, .float .f64 fy] 24)).alloc (.cells #[.float .f64 wx, .float .f64 wy] 24)).alloc (.cells #[.float .f64 0, .float .f64 0, .float .f64 0, .float .f64 0, .float .f64 0] 28)).cell? ⟨w.heap.size + 1 + 1 + 1, 2, none⟩ = some (.float .f64 0) := by rw [← (show (((w.alloc (.cells #[.float .f64 cx, .float .f64 cy] 24)).alloc (.cells #[.float .f64 fx, .float .f64 fy] 24)).alloc (.cells #[.float .f64 wx, .float .f64 wy] 24)).heap.size = w.heap.size + 1 + 1 + 1 by simp only [World.size_alloc]), World.cell?_alloc_new]; rfl
  have z3_3 : ((((w.alloc (.cells #[.float .f64 cx, .float .f64 cy] 24)).alloc (.cells #[.float .f64 fx, .float .f64 fy] 24)).alloc (.cells #[.float .f64 wx, .float .f64 wy] 24)).alloc (.cells #[.float .f64 0, .float .f64 0, .float .f64 0, .float .f64 0, .float .f64 0] 28)).cell? ⟨w.heap.size + 1 + 1 + 1, 3, none⟩ = some (.float .f64 0) := by rw [← (show (((w.alloc (.cells #[.float .f64 cx, .float .f64 cy] 24)).alloc (.cells #[.float .f64 fx, .float .f64 fy] 24)).alloc (.cells #[.float .f64 wx, .float .f64 wy] 24)).heap.size = w.heap.size + 1 + 1 + 1 by simp only [World.size_alloc]), World.cell?_alloc_new]; rfl
  have z3_4 : ((((w.alloc (.cells #[.float .f64 cx, .float .f64 cy] 24)).alloc (.cells #[.float .f64 fx, .float .f64 fy] 24)).alloc (.cells #[.float .f64 wx, .float .f64 wy] 24)).alloc (.cells #[.float .f64 0, .float .f64 0, .float .f64 0, .float .f64 0, .float .f64 0] 28)).cell? ⟨w.heap.size + 1 + 1 + 1, 4, none⟩ = some (.float .f64 0) := by rw [← (show (((w.alloc (.cells #[.float .f64 cx, .float .f64 cy] 24)).alloc (.cells #[.float .f64 fx, .float .f64 fy] 24)).alloc (.cells #[.float .f64 wx, .float .f64 wy] 24)).heap.size = w.heap.size + 1 + 1 + 1 by simp only [World.size_alloc]), World.cell?_alloc_new]; rfl
  have B0 : Bel w ((((w.alloc (.cells #[.float .f64 cx, .float .f64 cy] 24)).alloc (.cells #[.float .f64 fx, .float .f64 fy] 24)).alloc (.cells #[.float .f64 wx, .float .f64 wy] 24)).alloc (.cells #[.float .f64 0, .float .f64 0, .float .f64 0, .float .f64 0, .float .f64 0] 28)) := bl_alloc (bl_alloc (bl_alloc (bl_alloc (bl_refl w) _ _) _ _) _ _) _ _
  subst hW
  exact ⟨z0_0, z0_1, z1_0, z1_1, z2_0, z2_1, z3_0, z3_1, z3_2, z3_3, z3_4, B0⟩

theorem ckYb1 (w : World) (cx cy fx fy wx wy : Nat) {W0 W1 : World} (hb : Bel W0 W1) (h : W0.cell? ⟨w.heap.size, 0, none⟩ = some (.float .f64 cx) ∧ W0.cell? ⟨w.heap.size, 1, none⟩ = some (.float .f64 cy) ∧ W0.cell? ⟨w.heap.size + 1, 0, none⟩ = some (.float .f64 fx) ∧ W0.cell? ⟨w.heap.size + 1, 1, none⟩ = some (.float .f64 fy) ∧ W0.cell? ⟨w.heap.size + 1 + 1, 0, none⟩ = some (.float .f64 wx) ∧ W0.cell? ⟨w.heap.size + 1 + 1, 1, none⟩ = some (.float .f64 wy) ∧ W0.cell? ⟨w.heap.size + 1 + 1 + 1, 0, none⟩ = some (.float .f64 0) ∧ W0.cell? ⟨w.heap.size + 1 + 1 + 1, 1, none⟩ = some (.float .f64 0) ∧ W0.cell? ⟨w.heap.size + 1 + 1 + 1, 2, none⟩ = some (.float .f64 0) ∧ W0.cell? ⟨w.heap.size + 1 + 1 + 1, 3, none⟩ = some (.float .f64 0) ∧ W0.cell? ⟨w.heap.size + 1 + 1 + 1, 4, none⟩ = some (.float .f64 0)) : W1.cell? ⟨w.heap.size, 0, none⟩ = some (.float .f64 cx) ∧ W1.cell? ⟨w.heap.size, 1, none⟩ = some (.float .f64 cy) ∧ W1.cell? ⟨w.heap.size + 1, 0, none⟩ = some (.float .f64 fx) ∧ W1.cell? ⟨w.heap.size + 1, 1, none⟩ = some (.float .f64 fy) ∧ W1.cell? ⟨w.heap.size + 1 + 1, 0, none⟩ = some (.float .f64 wx) ∧ W1.cell? ⟨w.heap.size + 1 + 1, 1, none⟩ = some (.float .f64 wy) ∧ W1.cell? ⟨w.heap.size + 1 + 1 + 1, 0, none⟩ = some (.float .f64 0) ∧ W1.cell? ⟨w.heap.size + 1 + 1 + 1, 1, none⟩ = some (.float .f64 0) ∧ W1.cell? ⟨w.heap.size + 1 + 1 + 1, 2, none⟩ = some (.float .f64 0) ∧ W1.cell? ⟨w.heap.size + 1 + 1 + 1, 3, none⟩ = some (.float .f64 0) ∧ W1.cell? ⟨w.heap.size + 1 + 1 + 1, 4, none⟩ = some (.float .f64 0) := ⟨keep hb h.1, keep hb h.2.1, keep hb h.2.2.1, keep hb h.2.2.2.1, keep hb h.2.2.2.2.1, keep hb h.2.2.2.2.2.1, keep hb h.2.2.2.2.2.2.1, keep hb h.2.2.2.2.2.2.2.1, keep hb h.2.2.2.2.2.2.2.2.1, keep hb h.2.2.2.2.2.2.2.2.2.1, keep hb h.2.2.2.2.2.2.2.2.2.2⟩

theorem ltYb2 {w W : World} {o0 o1 o2 o3 : Obj} (h : Bel ((((w.alloc o0).alloc o1).alloc o2).alloc o3) W) : w.heap.size < W.heap.size ∧ w.heap.size + 1 < W.heap.size ∧ w.heap.size + 1 + 1 < W.heap.size ∧ w.heap.size + 1 + 1 + 1 < W.heap.size := by
  have hz := h.size
  simp only [World.size_alloc] at hz
  refine ⟨?_, ?_, ?_, ?_⟩ <;> omega

theorem gwYb3 (w : World) (cx cy fx fy wx wy : Nat) {W0 W1 : World} (hb : Bel W0 W1) (h : Bel ((((w.alloc (.cells #[.float .f64 cx, .float .f64 cy] 24)).alloc (.cells #[.float .f64 fx, .float .f64 fy] 24)).alloc (.cells #[.float .f64 wx, .float .f64 wy] 24)).alloc (.cells #[.float .f64 0, .float .f64 0, .float .f64 0, .float .f64 0, .float .f64 0] 28)) W0) : Bel ((((w.alloc (.cells #[.float .f64 cx, .float .f64 cy] 24)).alloc (.cells #[.float .f64 fx, .float .f64 fy] 24)).alloc (.cells #[.float .f64 wx, .float .f64 wy] 24)).alloc (.cells #[.float .f64 0, .float .f64 0, .float .f64 0, .float .f64 0, .float .f64 0] 28)) W1 := bl_trans h hb

theorem fzYb4 (w : World) (cx cy fx fy wx wy : Nat) : ∀ o, ((((w.alloc (.cells #[.float .f64 cx, .float .f64 cy] 24)).alloc (.cells #[.float .f64 fx, .float .f64 fy] 24)).alloc (.cells #[.float .f64 wx, .float .f64 wy] 24)).alloc (.cells #[.float .f64 0, .float .f64 0, .float .f64 0, .float .f64 0, .float .f64 0] 28)).frozen? ⟨w.heap.size + 1 + 1 + 1, o, none⟩ = false := fun o => ((show Bel (((w.alloc (.cells #[.float .f64 cx, .float .f64 cy] 24)).alloc (.cells #[.float .f64 fx, .float .f64 fy] 24)).alloc (.cells #[.float .f64 wx, .float .f64 wy] 24)) ((((w.alloc (.cells #[.float .f64 cx, .float .f64 cy] 24)).alloc (.cells #[.float .f64 fx, .float .f64 fy] 24)).alloc (.cells #[.float .f64 wx, .float .f64 wy] 24)).alloc (.cells #[.float .f64 0, .float .f64 0, .float .f64 0, .float .f64 0, .float .f64 0] 28)) by repeat (first | exact bl_refl _ | apply bl_alloc)).2 _).trans (fresh_frozen (by simp only [World.size_alloc]; exact Nat.le_refl _))

theorem fin5 {w Z : World} {n : Nat} {p q r s t p0 q0 r0 s0 t0 : Value} (G : World → Prop) (h0 : Z.cell? ⟨n, 0, none⟩ = some p0) (h1 : Z.cell? ⟨n, 1, none⟩ = some q0) (h2 : Z.cell? ⟨n, 2, none⟩ = some r0) (h3 : Z.cell? ⟨n, 3, none⟩ = some s0) (h4 : Z.cell? ⟨n, 4, none⟩ = some t0) (hB : Bel w Z) (hn : w.heap.size ≤ n)
    (h : ∀ X : World, X.cell? ⟨n, 0, none⟩ = some p → X.cell? ⟨n, 1, none⟩ = some q → X.cell? ⟨n, 2, none⟩ = some r → X.cell? ⟨n, 3, none⟩ = some s → X.cell? ⟨n, 4, none⟩ = some t → Bel w X → G X) : G (((((Z.setCell ⟨n, 0, none⟩ p).setCell ⟨n, 1, none⟩ q).setCell ⟨n, 2, none⟩ r).setCell ⟨n, 3, none⟩ s).setCell ⟨n, 4, none⟩ t) := by
  obtain ⟨X, hX, a0, a1, a2, a3, a4, _, bX⟩ := put5_all (p := p) (q := q) (r := r) (s := s) (t := t) h0 h1 h2 h3 h4
  rw [← hX]
  exact h X a0 a1 a2 a3 a4 (bX _ hB hn)
theorem fin5a {w Z : World} {n : Nat} {p q r s t p0 q0 r0 s0 t0 : Value} {c : Array Value} {ty : TypeId} (G : World → Prop) (h0 : Z.cell? ⟨n, 0, none⟩ = some p0) (h1 : Z.cell? ⟨n, 1, none⟩ = some q0) (h2 : Z.cell? ⟨n, 2, none⟩ = some r0) (h3 : Z.cell? ⟨n, 3, none⟩ = some s0) (h4 : Z.cell? ⟨n, 4, none⟩ = some t0) (hB : Bel w Z) (hn : w.heap.size ≤ n)
    (h : ∀ X : World, X.cell? ⟨n, 0, none⟩ = some p → X.cell? ⟨n, 1, none⟩ = some q → X.cell? ⟨n, 2, none⟩ = some r → X.cell? ⟨n, 3, none⟩ = some s → X.cell? ⟨n, 4, none⟩ = some t → Bel w X → G X) : G ((((((Z.setCell ⟨n, 0, none⟩ p).setCell ⟨n, 1, none⟩ q).setCell ⟨n, 2, none⟩ r).setCell ⟨n, 3, none⟩ s).setCell ⟨n, 4, none⟩ t).alloc (.cells c ty)) :=
  fin5 (fun X => G (X.alloc (.cells c ty))) h0 h1 h2 h3 h4 hB hn fun X a0 a1 a2 a3 a4 bX => h _ (up_alloc a0) (up_alloc a1) (up_alloc a2) (up_alloc a3) (up_alloc a4) (bl_alloc bX _ _)

set_option maxRecDepth 100000 in
theorem circle_res (tmps : Array Value) (Z : World) (r hx hy nx ny ht : Nat) (bb : Bool) (er : Int) (h4 : tmps[8]?.getD undef = .pointer (some ⟨r, 0, none⟩)) (h5 : tmps[9]?.getD undef = .bool bb) (h6 : tmps[10]?.getD undef = .int .i64 er) (c0 : Z.cell? ⟨r, 0, none⟩ = some (.float .f64 hx)) (c1 : Z.cell? ⟨r, 1, none⟩ = some (.float .f64 hy)) (c2 : Z.cell? ⟨r, 2, none⟩ = some (.float .f64 nx)) (c3 : Z.cell? ⟨r, 3, none⟩ = some (.float .f64 ny)) (c4 : Z.cell? ⟨r, 4, none⟩ = some (.float .f64 ht)) :
    (results Tryz.f6 tmps).run Tryz.prog Z = .ok (.tuple #[.agg #[.float .f64 hx, .float .f64 hy, .float .f64 nx, .float .f64 ny, .float .f64 ht], .bool bb, .int .i64 er]) Z := by
  simp [results, Tryz.results6, h4, h5, h6, c0, c1, c2, c3, c4, go_sem]
  first | done | rfl | exact ⟨rfl, rfl⟩

set_option maxRecDepth 100000 in
theorem circle_b1 {cx cy r fx fy wx wy R : Nat} {C F Y : Vp} (w : World) (hc : isP cx cy C) (hr : isF r R) (hf : isP fx fy F) (hw : isP wx wy Y) (q1 : inB C.1 C.2 = false) : Calls Tryz.prog 6 #[.agg #[.float .f64 cx, .float .f64 cy], .float .f64 r, .agg #[.float .f64 fx, .float .f64 fy], .agg #[.float .f64 wx, .float .f64 wy]] w fun e w' => ∃ hx9 hy9 nx9 ny9 ht9 : Nat, isH hx9 hy9 nx9 ny9 ht9 (((false, zeH)).2) ∧ e = .returned (.tuple #[.agg #[.float .f64 hx9, .float .f64 hy9, .float .f64 nx9, .float .f64 ny9, .float .f64 ht9], .bool ((false, zeH)).1, .int .i64 (5)]) ∧ Bel w w' := by
  have c1 := cmp_lt .f64
  have c2 := cmp_gt .f64
  have c5 := cmp_eq .f64
  have c3 := cmp_le2 .f64
  have c4 := cmp_ge2 .f64
  obtain ⟨z0_0, z0_1, z1_0, z1_1, z2_0, z2_1, z3_0, z3_1, z3_2, z3_3, z3_4, B0⟩ := bxYb0 w cx cy fx fy wx wy _ rfl
  have fR := fzYb4 w cx cy fx fy wx wy
  go_enter Tryz.func6, Tryz.ntmps6
  go_wp2_with (first | (go_at_call 16; refine (vIn_n _ hc).mono ?_; rintro e w1 ⟨rfl, hb⟩; rw [q1]; have hq := ckYb1 w cx cy fx fy wx wy hb (by refine ⟨?_, ?_, ?_, ?_, ?_, ?_, ?_, ?_, ?_, ?_, ?_⟩ <;> first | assumption | go_keep); clear z0_0 z0_1 z1_0 z1_1 z2_0 z2_1 z3_0 z3_1 z3_2 z3_3 z3_4; obtain ⟨z0_0, z0_1, z1_0, z1_1, z2_0, z2_1, z3_0, z3_1, z3_2, z3_3, z3_4⟩ := hq; have BF := hb; clear hb) | (go_at_call 17; refine (refused_n _ _).mono ?_; rintro e w2 ⟨rfl, hb⟩; have hq := ckYb1 w cx cy fx fy wx wy hb (by refine ⟨?_, ?_, ?_, ?_, ?_, ?_, ?_, ?_, ?_, ?_, ?_⟩ <;> first | assumption | go_keep); clear z0_0 z0_1 z1_0 z1_1 z2_0 z2_1 z3_0 z3_1 z3_2 z3_3 z3_4; obtain ⟨z0_0, z0_1, z1_0, z1_1, z2_0, z2_1, z3_0, z3_1, z3_2, z3_3, z3_4⟩ := hq; replace BF := gwYb3 w cx cy fx fy wx wy hb (by repeat (first | exact BF | apply bl_alloc | apply bl_drewN)); clear hb; have fE : ∀ o, w2.frozen? ⟨w.heap.size + 1 + 1 + 1, o, none⟩ = false := fun o => (BF.2 _).trans (fR o)))
  refine fin5 (G := bodyPost _ _ _ _ _) (by repeat (first | (with_reducible exact z3_0) | (with_reducible refine up_drewN ?_) | (with_reducible refine up_alloc ?_))) (by repeat (first | (with_reducible exact z3_1) | (with_reducible refine up_drewN ?_) | (with_reducible refine up_alloc ?_))) (by repeat (first | (with_reducible exact z3_2) | (with_reducible refine up_drewN ?_) | (with_reducible refine up_alloc ?_))) (by repeat (first | (with_reducible exact z3_3) | (with_reducible refine up_drewN ?_) | (with_reducible refine up_alloc ?_))) (by repeat (first | (with_reducible exact z3_4) | (with_reducible refine up_drewN ?_) | (with_reducible refine up_alloc ?_))) (by have B := (bl_trans B0 BF); repeat (first | (with_reducible exact B) | (with_reducible refine bl_drewN ?_ _) | (with_reducible refine bl_alloc ?_ _ _))) (by omega) fun X r0 r1 r2 r3 r4 bX => ?_
  refine bodyPost_ret (circle_res _ _ _ _ _ _ _ _ _ _ rfl rfl rfl r0 r1 r2 r3 r4) rfl ⟨_, _, _, _, _, ?_, rfl, bX⟩
  exact zeH_is

set_option maxRecDepth 100000 in
theorem circle_b2 {cx cy r fx fy wx wy R : Nat} {C F Y : Vp} (w : World) (hc : isP cx cy C) (hr : isF r R) (hf : isP fx fy F) (hw : isP wx wy Y) (q1 : inB C.1 C.2 = true) (g1 : leK .f64 4472074429978902528 r = false) : Calls Tryz.prog 6 #[.agg #[.float .f64 cx, .float .f64 cy], .float .f64 r, .agg #[.float .f64 fx, .float .f64 fy], .agg #[.float .f64 wx, .float .f64 wy]] w fun e w' => ∃ hx9 hy9 nx9 ny9 ht9 : Nat, isH hx9 hy9 nx9 ny9 ht9 (((false, zeH)).2) ∧ e = .returned (.tuple #[.agg #[.float .f64 hx9, .float .f64 hy9, .float .f64 nx9, .float .f64 ny9, .float .f64 ht9], .bool ((false, zeH)).1, .int .i64 (5)]) ∧ Bel w w' := by
  have c1 := cmp_lt .f64
  have c2 := cmp_gt .f64
  have c5 := cmp_eq .f64
  have c3 := cmp_le2 .f64
  have c4 := cmp_ge2 .f64
  obtain ⟨z0_0, z0_1, z1_0, z1_1, z2_0, z2_1, z3_0, z3_1, z3_2, z3_3, z3_4, B0⟩ := bxYb0 w cx cy fx fy wx wy _ rfl
  have fR := fzYb4 w cx cy fx fy wx wy
  go_enter Tryz.func6, Tryz.ntmps6
  go_wp2_with (first | (go_at_call 16; refine (vIn_n _ hc).mono ?_; rintro e w1 ⟨rfl, hb⟩; rw [q1]; have hq := ckYb1 w cx cy fx fy wx wy hb (by refine ⟨?_, ?_, ?_, ?_, ?_, ?_, ?_, ?_, ?_, ?_, ?_⟩ <;> first | assumption | go_keep); clear z0_0 z0_1 z1_0 z1_1 z2_0 z2_1 z3_0 z3_1 z3_2 z3_3 z3_4; obtain ⟨z0_0, z0_1, z1_0, z1_1, z2_0, z2_1, z3_0, z3_1, z3_2, z3_3, z3_4⟩ := hq; have BF := hb; clear hb) | (go_at_call 17; refine (refused_n _ _).mono ?_; rintro e w2 ⟨rfl, hb⟩; have hq := ckYb1 w cx cy fx fy wx wy hb (by refine ⟨?_, ?_, ?_, ?_, ?_, ?_, ?_, ?_, ?_, ?_, ?_⟩ <;> first | assumption | go_keep); clear z0_0 z0_1 z1_0 z1_1 z2_0 z2_1 z3_0 z3_1 z3_2 z3_3 z3_4; obtain ⟨z0_0, z0_1, z1_0, z1_1, z2_0, z2_1, z3_0, z3_1, z3_2, z3_3, z3_4⟩ := hq; replace BF := gwYb3 w cx cy fx fy wx wy hb (by repeat (first | exact BF | apply bl_alloc | apply bl_drewN)); clear hb; have fE : ∀ o, w2.frozen? ⟨w.heap.size + 1 + 1 + 1, o, none⟩ = false := fun o => (BF.2 _).trans (fR o)))
  refine fin5 (G := bodyPost _ _ _ _ _) (by repeat (first | (with_reducible exact z3_0) | (with_reducible refine up_drewN ?_) | (with_reducible refine up_alloc ?_))) (by repeat (first | (with_reducible exact z3_1) | (with_reducible refine up_drewN ?_) | (with_reducible refine up_alloc ?_))) (by repeat (first | (with_reducible exact z3_2) | (with_reducible refine up_drewN ?_) | (with_reducible refine up_alloc ?_))) (by repeat (first | (with_reducible exact z3_3) | (with_reducible refine up_drewN ?_) | (with_reducible refine up_alloc ?_))) (by repeat (first | (with_reducible exact z3_4) | (with_reducible refine up_drewN ?_) | (with_reducible refine up_alloc ?_))) (by have B := (bl_trans B0 BF); repeat (first | (with_reducible exact B) | (with_reducible refine bl_drewN ?_ _) | (with_reducible refine bl_alloc ?_ _ _))) (by omega) fun X r0 r1 r2 r3 r4 bX => ?_
  refine bodyPost_ret (circle_res _ _ _ _ _ _ _ _ _ _ rfl rfl rfl r0 r1 r2 r3 r4) rfl ⟨_, _, _, _, _, ?_, rfl, bX⟩
  exact zeH_is

set_option maxRecDepth 100000 in
theorem circle_b3 {cx cy r fx fy wx wy R : Nat} {C F Y : Vp} (w : World) (hc : isP cx cy C) (hr : isF r R) (hf : isP fx fy F) (hw : isP wx wy Y) (q1 : inB C.1 C.2 = true) (g1 : leK .f64 4472074429978902528 r = true) (g2 : leK .f64 r 4787326403894837248 = false) : Calls Tryz.prog 6 #[.agg #[.float .f64 cx, .float .f64 cy], .float .f64 r, .agg #[.float .f64 fx, .float .f64 fy], .agg #[.float .f64 wx, .float .f64 wy]] w fun e w' => ∃ hx9 hy9 nx9 ny9 ht9 : Nat, isH hx9 hy9 nx9 ny9 ht9 (((false, zeH)).2) ∧ e = .returned (.tuple #[.agg #[.float .f64 hx9, .float .f64 hy9, .float .f64 nx9, .float .f64 ny9, .float .f64 ht9], .bool ((false, zeH)).1, .int .i64 (5)]) ∧ Bel w w' := by
  have c1 := cmp_lt .f64
  have c2 := cmp_gt .f64
  have c5 := cmp_eq .f64
  have c3 := cmp_le2 .f64
  have c4 := cmp_ge2 .f64
  obtain ⟨z0_0, z0_1, z1_0, z1_1, z2_0, z2_1, z3_0, z3_1, z3_2, z3_3, z3_4, B0⟩ := bxYb0 w cx cy fx fy wx wy _ rfl
  have fR := fzYb4 w cx cy fx fy wx wy
  go_enter Tryz.func6, Tryz.ntmps6
  go_wp2_with (first | (go_at_call 16; refine (vIn_n _ hc).mono ?_; rintro e w1 ⟨rfl, hb⟩; rw [q1]; have hq := ckYb1 w cx cy fx fy wx wy hb (by refine ⟨?_, ?_, ?_, ?_, ?_, ?_, ?_, ?_, ?_, ?_, ?_⟩ <;> first | assumption | go_keep); clear z0_0 z0_1 z1_0 z1_1 z2_0 z2_1 z3_0 z3_1 z3_2 z3_3 z3_4; obtain ⟨z0_0, z0_1, z1_0, z1_1, z2_0, z2_1, z3_0, z3_1, z3_2, z3_3, z3_4⟩ := hq; have BF := hb; clear hb) | (go_at_call 17; refine (refused_n _ _).mono ?_; rintro e w2 ⟨rfl, hb⟩; have hq := ckYb1 w cx cy fx fy wx wy hb (by refine ⟨?_, ?_, ?_, ?_, ?_, ?_, ?_, ?_, ?_, ?_, ?_⟩ <;> first | assumption | go_keep); clear z0_0 z0_1 z1_0 z1_1 z2_0 z2_1 z3_0 z3_1 z3_2 z3_3 z3_4; obtain ⟨z0_0, z0_1, z1_0, z1_1, z2_0, z2_1, z3_0, z3_1, z3_2, z3_3, z3_4⟩ := hq; replace BF := gwYb3 w cx cy fx fy wx wy hb (by repeat (first | exact BF | apply bl_alloc | apply bl_drewN)); clear hb; have fE : ∀ o, w2.frozen? ⟨w.heap.size + 1 + 1 + 1, o, none⟩ = false := fun o => (BF.2 _).trans (fR o)))
  refine fin5 (G := bodyPost _ _ _ _ _) (by repeat (first | (with_reducible exact z3_0) | (with_reducible refine up_drewN ?_) | (with_reducible refine up_alloc ?_))) (by repeat (first | (with_reducible exact z3_1) | (with_reducible refine up_drewN ?_) | (with_reducible refine up_alloc ?_))) (by repeat (first | (with_reducible exact z3_2) | (with_reducible refine up_drewN ?_) | (with_reducible refine up_alloc ?_))) (by repeat (first | (with_reducible exact z3_3) | (with_reducible refine up_drewN ?_) | (with_reducible refine up_alloc ?_))) (by repeat (first | (with_reducible exact z3_4) | (with_reducible refine up_drewN ?_) | (with_reducible refine up_alloc ?_))) (by have B := (bl_trans B0 BF); repeat (first | (with_reducible exact B) | (with_reducible refine bl_drewN ?_ _) | (with_reducible refine bl_alloc ?_ _ _))) (by omega) fun X r0 r1 r2 r3 r4 bX => ?_
  refine bodyPost_ret (circle_res _ _ _ _ _ _ _ _ _ _ rfl rfl rfl r0 r1 r2 r3 r4) rfl ⟨_, _, _, _, _, ?_, rfl, bX⟩
  exact zeH_is

set_option maxRecDepth 100000 in
theorem circle_ry {cx cy r fx fy wx wy R : Nat} {C F Y : Vp} (w : World) (hc : isP cx cy C) (hr : isF r R) (hf : isP fx fy F) (hw : isP wx wy Y) (q1 : inB C.1 C.2 = true) (g1 : leK .f64 4472074429978902528 r = true) (g2 : leK .f64 r 4787326403894837248 = true) (he : ryE F Y ≠ 0) : Calls Tryz.prog 6 #[.agg #[.float .f64 cx, .float .f64 cy], .float .f64 r, .agg #[.float .f64 fx, .float .f64 fy], .agg #[.float .f64 wx, .float .f64 wy]] w fun e w' => ∃ hx9 hy9 nx9 ny9 ht9 : Nat, isH hx9 hy9 nx9 ny9 ht9 (((false, zeH)).2) ∧ e = .returned (.tuple #[.agg #[.float .f64 hx9, .float .f64 hy9, .float .f64 nx9, .float .f64 ny9, .float .f64 ht9], .bool ((false, zeH)).1, .int .i64 (ryE F Y)]) ∧ Bel w w' := by
  have c1 := cmp_lt .f64
  have c2 := cmp_gt .f64
  have c5 := cmp_eq .f64
  have c3 := cmp_le2 .f64
  have c4 := cmp_ge2 .f64
  obtain ⟨z0_0, z0_1, z1_0, z1_1, z2_0, z2_1, z3_0, z3_1, z3_2, z3_3, z3_4, B0⟩ := bxYb0 w cx cy fx fy wx wy _ rfl
  have fR := fzYb4 w cx cy fx fy wx wy
  go_enter Tryz.func6, Tryz.ntmps6
  go_wp2_with (first | (go_at_call 16; refine (vIn_n _ hc).mono ?_; rintro e w1 ⟨rfl, hb⟩; rw [q1]; have hq := ckYb1 w cx cy fx fy wx wy hb (by refine ⟨?_, ?_, ?_, ?_, ?_, ?_, ?_, ?_, ?_, ?_, ?_⟩ <;> first | assumption | go_keep); clear z0_0 z0_1 z1_0 z1_1 z2_0 z2_1 z3_0 z3_1 z3_2 z3_3 z3_4; obtain ⟨z0_0, z0_1, z1_0, z1_1, z2_0, z2_1, z3_0, z3_1, z3_2, z3_3, z3_4⟩ := hq; have BF := hb; clear hb) | (go_at_call 18; refine (checkRay_n _ hf hw).mono ?_; rintro e w2 ⟨rfl, hb⟩; have hq := ckYb1 w cx cy fx fy wx wy hb (by refine ⟨?_, ?_, ?_, ?_, ?_, ?_, ?_, ?_, ?_, ?_, ?_⟩ <;> first | assumption | go_keep); clear z0_0 z0_1 z1_0 z1_1 z2_0 z2_1 z3_0 z3_1 z3_2 z3_3 z3_4; obtain ⟨z0_0, z0_1, z1_0, z1_1, z2_0, z2_1, z3_0, z3_1, z3_2, z3_3, z3_4⟩ := hq; replace BF := bl_trans BF hb; clear hb) | (go_at_call 17; refine (refused_n _ _).mono ?_; rintro e w3 ⟨rfl, hb⟩; have hq := ckYb1 w cx cy fx fy wx wy hb (by refine ⟨?_, ?_, ?_, ?_, ?_, ?_, ?_, ?_, ?_, ?_, ?_⟩ <;> first | assumption | go_keep); clear z0_0 z0_1 z1_0 z1_1 z2_0 z2_1 z3_0 z3_1 z3_2 z3_3 z3_4; obtain ⟨z0_0, z0_1, z1_0, z1_1, z2_0, z2_1, z3_0, z3_1, z3_2, z3_3, z3_4⟩ := hq; replace BF := gwYb3 w cx cy fx fy wx wy hb (by repeat (first | exact BF | apply bl_alloc | apply bl_drewN)); clear hb; have fE : ∀ o, w3.frozen? ⟨w.heap.size + 1 + 1 + 1, o, none⟩ = false := fun o => (BF.2 _).trans (fR o)))
  refine fin5 (G := bodyPost _ _ _ _ _) (by repeat (first | (with_reducible exact z3_0) | (with_reducible refine up_drewN ?_) | (with_reducible refine up_alloc ?_))) (by repeat (first | (with_reducible exact z3_1) | (with_reducible refine up_drewN ?_) | (with_reducible refine up_alloc ?_))) (by repeat (first | (with_reducible exact z3_2) | (with_reducible refine up_drewN ?_) | (with_reducible refine up_alloc ?_))) (by repeat (first | (with_reducible exact z3_3) | (with_reducible refine up_drewN ?_) | (with_reducible refine up_alloc ?_))) (by repeat (first | (with_reducible exact z3_4) | (with_reducible refine up_drewN ?_) | (with_reducible refine up_alloc ?_))) (by have B := (bl_trans B0 BF); repeat (first | (with_reducible exact B) | (with_reducible refine bl_drewN ?_ _) | (with_reducible refine bl_alloc ?_ _ _))) (by omega) fun X r0 r1 r2 r3 r4 bX => ?_
  refine bodyPost_ret (circle_res _ _ _ _ _ _ _ _ _ _ rfl rfl rfl r0 r1 r2 r3 r4) rfl ⟨_, _, _, _, _, ?_, rfl, bX⟩
  exact zeH_is

set_option maxRecDepth 100000 in
set_option maxHeartbeats 2000000 in
theorem circle_in {cx cy r fx fy wx wy R : Nat} {C F Y : Vp} (w : World) (hc : isP cx cy C) (hr : isF r R) (hf : isP fx fy F) (hw : isP wx wy Y) (q1 : inB C.1 C.2 = true) (g1 : leK .f64 4472074429978902528 r = true) (g2 : leK .f64 r 4787326403894837248 = true) (he : ryE F Y = 0) (qc : ltK .f64 0 (ciC C R F) = false) {qbb : Bool} (qb : ltK .f64 (ciB C F Y) 0 = qbb) : Calls Tryz.prog 6 #[.agg #[.float .f64 cx, .float .f64 cy], .float .f64 r, .agg #[.float .f64 fx, .float .f64 fy], .agg #[.float .f64 wx, .float .f64 wy]] w fun e w' => ∃ hx9 hy9 nx9 ny9 ht9 : Nat, isH hx9 hy9 nx9 ny9 ht9 (((true, onH F)).2) ∧ e = .returned (.tuple #[.agg #[.float .f64 hx9, .float .f64 hy9, .float .f64 nx9, .float .f64 ny9, .float .f64 ht9], .bool ((true, onH F)).1, .int .i64 (0)]) ∧ Bel w w' := by
  have c1 := cmp_lt .f64
  have c2 := cmp_gt .f64
  have c5 := cmp_eq .f64
  have c3 := cmp_le2 .f64
  have c4 := cmp_ge2 .f64
  have d1 := run_sub Tryz.prog
  have d2 := run_mul Tryz.prog
  have d3 := run_quo Tryz.prog
  have d4 := run_neg Tryz.prog
  obtain ⟨z0_0, z0_1, z1_0, z1_1, z2_0, z2_1, z3_0, z3_1, z3_2, z3_3, z3_4, B0⟩ := bxYb0 w cx cy fx fy wx wy _ rfl
  have fR := fzYb4 w cx cy fx fy wx wy
  go_enter Tryz.func6, Tryz.ntmps6
  go_wp2_with (first | (go_at_call 16; refine (vIn_n _ hc).mono ?_; rintro e w1 ⟨rfl, hb⟩; rw [q1]; have hq := ckYb1 w cx cy fx fy wx wy hb (by refine ⟨?_, ?_, ?_, ?_, ?_, ?_, ?_, ?_, ?_, ?_, ?_⟩ <;> first | assumption | go_keep); clear z0_0 z0_1 z1_0 z1_1 z2_0 z2_1 z3_0 z3_1 z3_2 z3_3 z3_4; obtain ⟨z0_0, z0_1, z1_0, z1_1, z2_0, z2_1, z3_0, z3_1, z3_2, z3_3, z3_4⟩ := hq; have BF := hb; clear hb) | (go_at_call 18; refine (checkRay_n _ hf hw).mono ?_; rintro e w2 ⟨rfl, hb⟩; have hq := ckYb1 w cx cy fx fy wx wy hb (by refine ⟨?_, ?_, ?_, ?_, ?_, ?_, ?_, ?_, ?_, ?_, ?_⟩ <;> first | assumption | go_keep); clear z0_0 z0_1 z1_0 z1_1 z2_0 z2_1 z3_0 z3_1 z3_2 z3_3 z3_4; obtain ⟨z0_0, z0_1, z1_0, z1_1, z2_0, z2_1, z3_0, z3_1, z3_2, z3_3, z3_4⟩ := hq; replace BF := bl_trans BF hb; clear hb) | (go_at_call 19; refine (vSub_n _ hf hc).mono ?_; rintro e w3 ⟨mx, my, hm, rfl, hb⟩; have hq := ckYb1 w cx cy fx fy wx wy hb (by refine ⟨?_, ?_, ?_, ?_, ?_, ?_, ?_, ?_, ?_, ?_, ?_⟩ <;> first | assumption | go_keep); clear z0_0 z0_1 z1_0 z1_1 z2_0 z2_1 z3_0 z3_1 z3_2 z3_3 z3_4; obtain ⟨z0_0, z0_1, z1_0, z1_1, z2_0, z2_1, z3_0, z3_1, z3_2, z3_3, z3_4⟩ := hq; replace BF := bl_trans BF hb; clear hb; obtain ⟨l0, l1, l2, l3⟩ := ltYb2 BF))
  have B2 : Bel w3 (w3.alloc (.cells #[.float .f64 mx, .float .f64 my] 24)) := bl_alloc (bl_refl _) _ _
  have k0 : (w3.alloc (.cells #[.float .f64 mx, .float .f64 my] 24)).cell? ⟨w3.heap.size, 0, none⟩ = some (.float .f64 mx) := by rw [World.cell?_alloc_new]; rfl
  have k1 : (w3.alloc (.cells #[.float .f64 mx, .float .f64 my] 24)).cell? ⟨w3.heap.size, 1, none⟩ = some (.float .f64 my) := by rw [World.cell?_alloc_new]; rfl
  have yz0_0 := keep B2 z0_0
  have yz0_1 := keep B2 z0_1
  have yz1_0 := keep B2 z1_0
  have yz1_1 := keep B2 z1_1
  have yz2_0 := keep B2 z2_0
  have yz2_1 := keep B2 z2_1
  have yz3_0 := keep B2 z3_0
  have yz3_1 := keep B2 z3_1
  have yz3_2 := keep B2 z3_2
  have yz3_3 := keep B2 z3_3
  have yz3_4 := keep B2 z3_4
  clear z0_0 z0_1 z1_0 z1_1 z2_0 z2_1 z3_0 z3_1 z3_2 z3_3 z3_4
  refine wp_region_mono 7 rfl (fun i W v => match i with | 0 => v = .agg #[.float .f64 wx, .float .f64 wy] | 1 => ∃ p, isF p (dtF Y Y) ∧ v = .float .f64 p | 2 => v = .agg #[.float .f64 mx, .float .f64 my] | 3 => v = .agg #[.float .f64 wx, .float .f64 wy] | 4 => ∃ p, isF p (ciB C F Y) ∧ v = .float .f64 p | 5 => ∃ p, isF p (dtF Y Y) ∧ v = .float .f64 p | 6 => ∃ p, isF p (ciB C F Y) ∧ v = .float .f64 p | _ => False) ?A_wm (by kernel_rfl) (by kernel_rfl) ?hA_wm ?hmo_wm ?hq_wm ?ht_wm
  case hA_wm =>
    intro s
    simp only [putL, dstO, Act.put, List.getElem?_toArray, List.getElem?_cons_zero, List.getElem?_cons_succ, Option.bind_some, List.setIfInBounds_toArray, List.set_cons_zero, List.set_cons_succ, if_true]
    all_goals exact rfl
  case hmo_wm =>
    intro i W W' v hi hb h
    rcases (show i = 0 ∨ i = 1 ∨ i = 2 ∨ i = 3 ∨ i = 4 ∨ i = 5 ∨ i = 6 by omega) with rfl | rfl | rfl | rfl | rfl | rfl | rfl
    all_goals first | exact h
  case hq_wm =>
    intro i o hi ho s W hs hb K hK
    have uz0_0 := keep hb yz0_0; have uz0_1 := keep hb yz0_1; have uz1_0 := keep hb yz1_0; have uz1_1 := keep hb yz1_1; have uz2_0 := keep hb yz2_0; have uz2_1 := keep hb yz2_1; have uz3_0 := keep hb yz3_0; have uz3_1 := keep hb yz3_1; have uz3_2 := keep hb yz3_2; have uz3_3 := keep hb yz3_3; have uz3_4 := keep hb yz3_4; have uk0 := keep hb k0; have uk1 := keep hb k1
    rcases (show i = 0 ∨ i = 1 ∨ i = 2 ∨ i = 3 ∨ i = 4 ∨ i = 5 ∨ i = 6 by omega) with rfl | rfl | rfl | rfl | rfl | rfl | rfl
    all_goals
      cases ho
    rotate_left 1
    have e0 : s 0 = _ := hs 0 (by decide) (by kernel_rfl)
    simp only [e0] at hK ⊢
    rotate_left 3
    have e2 : s 2 = _ := hs 2 (by decide) (by kernel_rfl)
    have e3 : s 3 = _ := hs 3 (by decide) (by kernel_rfl)
    simp only [e2, e3] at hK ⊢
    rotate_left 1
    obtain ⟨a0, ha0, e1⟩ := hs 1 (by decide) (by kernel_rfl)
    simp only [e1] at hK ⊢
    rotate_left 1
    obtain ⟨b0, hb0, e4⟩ := hs 4 (by decide) (by kernel_rfl)
    simp only [e4] at hK ⊢
    rotate_left 1
    all_goals
      simp only [Act.put, List.setIfInBounds_toArray, List.set_cons_zero, List.set_cons_succ] at hK
      clear hs
      go_simp
      all_goals (try go_wp2_with (first | (go_at_call 20; refine (vSquare_n _ hw).mono ?_; rintro e w' ⟨p, h1, rfl, hb1⟩) | (go_at_call 21; refine (vDot_n _ hm hw).mono ?_; rintro e w' ⟨p, h4, rfl, hb1⟩)))
      all_goals first | exact hK.out _ _ ⟨_, h1, rfl⟩ hb1 | exact hK.out _ _ ⟨_, h4, rfl⟩ hb1 | exact hK.out _ _ ⟨_, ha0, rfl⟩ (bl_refl _) | exact hK.out _ _ ⟨_, hb0, rfl⟩ (bl_refl _) | exact hK.out _ _ rfl (bl_refl _) | exact hK.out _ _ rfl (by assumption) | exact hK.out _ _ (by assumption) (by assumption)
  case ht_wm =>
    intro s w4 hs hb
    have e0 : s 0 = _ := hs 0 (by decide)
    obtain ⟨_, _, e1⟩ := hs 1 (by decide)
    have e2 : s 2 = _ := hs 2 (by decide)
    have e3 : s 3 = _ := hs 3 (by decide)
    obtain ⟨_, _, e4⟩ := hs 4 (by decide)
    obtain ⟨a0, ha0, e5⟩ := hs 5 (by decide)
    obtain ⟨b0, hb0, e6⟩ := hs 6 (by decide)
    simp only [e0, e1, e2, e3, e4, e5, e6]
    clear hs e0 e1 e2 e3 e4 e5 e6
    have z0_0 := keep hb yz0_0; have z0_1 := keep hb yz0_1; have z1_0 := keep hb yz1_0; have z1_1 := keep hb yz1_1; have z2_0 := keep hb yz2_0; have z2_1 := keep hb yz2_1; have z3_0 := keep hb yz3_0; have z3_1 := keep hb yz3_1; have z3_2 := keep hb yz3_2; have z3_3 := keep hb yz3_3; have z3_4 := keep hb yz3_4
    replace k0 := keep hb k0
    replace k1 := keep hb k1
    have gb := (lt1_is hb0).trans qb
    replace BF := bl_trans (bl_trans BF B2) hb
    clear hb B2 yz0_0 yz0_1 yz1_0 yz1_1 yz2_0 yz2_1 yz3_0 yz3_1 yz3_2 yz3_3 yz3_4
    go_wp2_with (first | (go_at_call 20; refine (vSquare_n _ hm).mono ?_; rintro e w5 ⟨s, hs, rfl, hb⟩; have hq := ckYb1 w cx cy fx fy wx wy hb (by refine ⟨?_, ?_, ?_, ?_, ?_, ?_, ?_, ?_, ?_, ?_, ?_⟩ <;> first | assumption | go_keep); clear z0_0 z0_1 z1_0 z1_1 z2_0 z2_1 z3_0 z3_1 z3_2 z3_3 z3_4; obtain ⟨z0_0, z0_1, z1_0, z1_1, z2_0, z2_1, z3_0, z3_1, z3_2, z3_3, z3_4⟩ := hq; replace k0 := keep hb k0; replace k1 := keep hb k1; replace BF := gwYb3 w cx cy fx fy wx wy hb (by repeat (first | exact BF | apply bl_alloc | apply bl_drewN)); clear hb; obtain ⟨l0, l1, l2, l3⟩ := ltYb2 BF; have lk := World.block_lt_of_cell? _ _ k0; simp only at lk; have HC := fun W1 W2 => o_is (op := .sub) W2 hs (o_is (op := .mul) W1 hr hr); have gc := fun W1 W2 => (lt0_is (HC W1 W2)).trans qc; skip) | (go_at_call 22; refine (atOnce_n _ _ _).mono ?_; rintro e w6 ⟨rfl, hb⟩; have hq := ckYb1 w cx cy fx fy wx wy hb (by refine ⟨?_, ?_, ?_, ?_, ?_, ?_, ?_, ?_, ?_, ?_, ?_⟩ <;> first | assumption | go_keep); clear z0_0 z0_1 z1_0 z1_1 z2_0 z2_1 z3_0 z3_1 z3_2 z3_3 z3_4; obtain ⟨z0_0, z0_1, z1_0, z1_1, z2_0, z2_1, z3_0, z3_1, z3_2, z3_3, z3_4⟩ := hq; replace BF := gwYb3 w cx cy fx fy wx wy hb (by repeat (first | exact BF | apply bl_alloc | apply bl_drewN)); clear hb; have fE : ∀ o, w6.frozen? ⟨w.heap.size + 1 + 1 + 1, o, none⟩ = false := fun o => (BF.2 _).trans (fR o)))
    refine fin5 (G := bodyPost _ _ _ _ _) (by repeat (first | (with_reducible exact z3_0) | (with_reducible refine up_drewN ?_) | (with_reducible refine up_alloc ?_))) (by repeat (first | (with_reducible exact z3_1) | (with_reducible refine up_drewN ?_) | (with_reducible refine up_alloc ?_))) (by repeat (first | (with_reducible exact z3_2) | (with_reducible refine up_drewN ?_) | (with_reducible refine up_alloc ?_))) (by repeat (first | (with_reducible exact z3_3) | (with_reducible refine up_drewN ?_) | (with_reducible refine up_alloc ?_))) (by repeat (first | (with_reducible exact z3_4) | (with_reducible refine up_drewN ?_) | (with_reducible refine up_alloc ?_))) (by have B := (bl_trans B0 BF); repeat (first | (with_reducible exact B) | (with_reducible refine bl_drewN ?_ _) | (with_reducible refine bl_alloc ?_ _ _))) (by omega) fun X r0 r1 r2 r3 r4 bX => ?_
    refine bodyPost_ret (circle_res _ _ _ _ _ _ _ _ _ _ rfl rfl rfl r0 r1 r2 r3 r4) rfl ⟨_, _, _, _, _, ?_, rfl, bX⟩
    exact onH_is hf


set_option maxRecDepth 100000 in
set_option maxHeartbeats 2000000 in
theorem circle_nb {cx cy r fx fy wx wy R : Nat} {C F Y : Vp} (w : World) (hc : isP cx cy C) (hr : isF r R) (hf : isP fx fy F) (hw : isP wx wy Y) (q1 : inB C.1 C.2 = true) (g1 : leK .f64 4472074429978902528 r = true) (g2 : leK .f64 r 4787326403894837248 = true) (he : ryE F Y = 0) (qc : ltK .f64 0 (ciC C R F) = true) (qb : ltK .f64 (ciB C F Y) 0 = false) : Calls Tryz.prog 6 #[.agg #[.float .f64 cx, .float .f64 cy], .float .f64 r, .agg #[.float .f64 fx, .float .f64 fy], .agg #[.float .f64 wx, .float .f64 wy]] w fun e w' => ∃ hx9 hy9 nx9 ny9 ht9 : Nat, isH hx9 hy9 nx9 ny9 ht9 (((false, zeH)).2) ∧ e = .returned (.tuple #[.agg #[.float .f64 hx9, .float .f64 hy9, .float .f64 nx9, .float .f64 ny9, .float .f64 ht9], .bool ((false, zeH)).1, .int .i64 (0)]) ∧ Bel w w' := by
  have c1 := cmp_lt .f64
  have c2 := cmp_gt .f64
  have c5 := cmp_eq .f64
  have c3 := cmp_le2 .f64
  have c4 := cmp_ge2 .f64
  have d1 := run_sub Tryz.prog
  have d2 := run_mul Tryz.prog
  have d3 := run_quo Tryz.prog
  have d4 := run_neg Tryz.prog
  obtain ⟨z0_0, z0_1, z1_0, z1_1, z2_0, z2_1, z3_0, z3_1, z3_2, z3_3, z3_4, B0⟩ := bxYb0 w cx cy fx fy wx wy _ rfl
  have fR := fzYb4 w cx cy fx fy wx wy
  go_enter Tryz.func6, Tryz.ntmps6
  go_wp2_with (first | (go_at_call 16; refine (vIn_n _ hc).mono ?_; rintro e w1 ⟨rfl, hb⟩; rw [q1]; have hq := ckYb1 w cx cy fx fy wx wy hb (by refine ⟨?_, ?_, ?_, ?_, ?_, ?_, ?_, ?_, ?_, ?_, ?_⟩ <;> first | assumption | go_keep); clear z0_0 z0_1 z1_0 z1_1 z2_0 z2_1 z3_0 z3_1 z3_2 z3_3 z3_4; obtain ⟨z0_0, z0_1, z1_0, z1_1, z2_0, z2_1, z3_0, z3_1, z3_2, z3_3, z3_4⟩ := hq; have BF := hb; clear hb) | (go_at_call 18; refine (checkRay_n _ hf hw).mono ?_; rintro e w2 ⟨rfl, hb⟩; have hq := ckYb1 w cx cy fx fy wx wy hb (by refine ⟨?_, ?_, ?_, ?_, ?_, ?_, ?_, ?_, ?_, ?_, ?_⟩ <;> first | assumption | go_keep); clear z0_0 z0_1 z1_0 z1_1 z2_0 z2_1 z3_0 z3_1 z3_2 z3_3 z3_4; obtain ⟨z0_0, z0_1, z1_0, z1_1, z2_0, z2_1, z3_0, z3_1, z3_2, z3_3, z3_4⟩ := hq; replace BF := bl_trans BF hb; clear hb) | (go_at_call 19; refine (vSub_n _ hf hc).mono ?_; rintro e w3 ⟨mx, my, hm, rfl, hb⟩; have hq := ckYb1 w cx cy fx fy wx wy hb (by refine ⟨?_, ?_, ?_, ?_, ?_, ?_, ?_, ?_, ?_, ?_, ?_⟩ <;> first | assumption | go_keep); clear z0_0 z0_1 z1_0 z1_1 z2_0 z2_1 z3_0 z3_1 z3_2 z3_3 z3_4; obtain ⟨z0_0, z0_1, z1_0, z1_1, z2_0, z2_1, z3_0, z3_1, z3_2, z3_3, z3_4⟩ := hq; replace BF := bl_trans BF hb; clear hb; obtain ⟨l0, l1, l2, l3⟩ := ltYb2 BF))
  have B2 : Bel w3 (w3.alloc (.cells #[.float .f64 mx, .float .f64 my] 24)) := bl_alloc (bl_refl _) _ _
  have k0 : (w3.alloc (.cells #[.float .f64 mx, .float .f64 my] 24)).cell? ⟨w3.heap.size, 0, none⟩ = some (.float .f64 mx) := by rw [World.cell?_alloc_new]; rfl
  have k1 : (w3.alloc (.cells #[.float .f64 mx, .float .f64 my] 24)).cell? ⟨w3.heap.size, 1, none⟩ = some (.float .f64 my) := by rw [World.cell?_alloc_new]; rfl
  have yz0_0 := keep B2 z0_0
  have yz0_1 := keep B2 z0_1
  have yz1_0 := keep B2 z1_0
  have yz1_1 := keep B2 z1_1
  have yz2_0 := keep B2 z2_0
  have yz2_1 := keep B2 z2_1
  have yz3_0 := keep B2 z3_0
  have yz3_1 := keep B2 z3_1
  have yz3_2 := keep B2 z3_2
  have yz3_3 := keep B2 z3_3
  have yz3_4 := keep B2 z3_4
  clear z0_0 z0_1 z1_0 z1_1 z2_0 z2_1 z3_0 z3_1 z3_2 z3_3 z3_4
  refine wp_region_mono 7 rfl (fun i W v => match i with | 0 => v = .agg #[.float .f64 wx, .float .f64 wy] | 1 => ∃ p, isF p (dtF Y Y) ∧ v = .float .f64 p | 2 => v = .agg #[.float .f64 mx, .float .f64 my] | 3 => v = .agg #[.float .f64 wx, .float .f64 wy] | 4 => ∃ p, isF p (ciB C F Y) ∧ v = .float .f64 p | 5 => ∃ p, isF p (dtF Y Y) ∧ v = .float .f64 p | 6 => ∃ p, isF p (ciB C F Y) ∧ v = .float .f64 p | _ => False) ?A_wm (by kernel_rfl) (by kernel_rfl) ?hA_wm ?hmo_wm ?hq_wm ?ht_wm
  case hA_wm =>
    intro s
    simp only [putL, dstO, Act.put, List.getElem?_toArray, List.getElem?_cons_zero, List.getElem?_cons_succ, Option.bind_some, List.setIfInBounds_toArray, List.set_cons_zero, List.set_cons_succ, if_true]
    all_goals exact rfl
  case hmo_wm =>
    intro i W W' v hi hb h
    rcases (show i = 0 ∨ i = 1 ∨ i = 2 ∨ i = 3 ∨ i = 4 ∨ i = 5 ∨ i = 6 by omega) with rfl | rfl | rfl | rfl | rfl | rfl | rfl
    all_goals first | exact h
  case hq_wm =>
    intro i o hi ho s W hs hb K hK
    have uz0_0 := keep hb yz0_0; have uz0_1 := keep hb yz0_1; have uz1_0 := keep hb yz1_0; have uz1_1 := keep hb yz1_1; have uz2_0 := keep hb yz2_0; have uz2_1 := keep hb yz2_1; have uz3_0 := keep hb yz3_0; have uz3_1 := keep hb yz3_1; have uz3_2 := keep hb yz3_2; have uz3_3 := keep hb yz3_3; have uz3_4 := keep hb yz3_4; have uk0 := keep hb k0; have uk1 := keep hb k1
    rcases (show i = 0 ∨ i = 1 ∨ i = 2 ∨ i = 3 ∨ i = 4 ∨ i = 5 ∨ i = 6 by omega) with rfl | rfl | rfl | rfl | rfl | rfl | rfl
    all_goals
      cases ho
    rotate_left 1
    have e0 : s 0 = _ := hs 0 (by decide) (by kernel_rfl)
    simp only [e0] at hK ⊢
    rotate_left 3
    have e2 : s 2 = _ := hs 2 (by decide) (by kernel_rfl)
    have e3 : s 3 = _ := hs 3 (by decide) (by kernel_rfl)
    simp only [e2, e3] at hK ⊢
    rotate_left 1
    obtain ⟨a0, ha0, e1⟩ := hs 1 (by decide) (by kernel_rfl)
    simp only [e1] at hK ⊢
    rotate_left 1
    obtain ⟨b0, hb0, e4⟩ := hs 4 (by decide) (by kernel_rfl)
    simp only [e4] at hK ⊢
    rotate_left 1
    all_goals
      simp only [Act.put, List.setIfInBounds_toArray, List.set_cons_zero, List.set_cons_succ] at hK
      clear hs
      go_simp
      all_goals (try go_wp2_with (first | (go_at_call 20; refine (vSquare_n _ hw).mono ?_; rintro e w' ⟨p, h1, rfl, hb1⟩) | (go_at_call 21; refine (vDot_n _ hm hw).mono ?_; rintro e w' ⟨p, h4, rfl, hb1⟩)))
      all_goals first | exact hK.out _ _ ⟨_, h1, rfl⟩ hb1 | exact hK.out _ _ ⟨_, h4, rfl⟩ hb1 | exact hK.out _ _ ⟨_, ha0, rfl⟩ (bl_refl _) | exact hK.out _ _ ⟨_, hb0, rfl⟩ (bl_refl _) | exact hK.out _ _ rfl (bl_refl _) | exact hK.out _ _ rfl (by assumption) | exact hK.out _ _ (by assumption) (by assumption)
  case ht_wm =>
    intro s w4 hs hb
    have e0 : s 0 = _ := hs 0 (by decide)
    obtain ⟨_, _, e1⟩ := hs 1 (by decide)
    have e2 : s 2 = _ := hs 2 (by decide)
    have e3 : s 3 = _ := hs 3 (by decide)
    obtain ⟨_, _, e4⟩ := hs 4 (by decide)
    obtain ⟨a0, ha0, e5⟩ := hs 5 (by decide)
    obtain ⟨b0, hb0, e6⟩ := hs 6 (by decide)
    simp only [e0, e1, e2, e3, e4, e5, e6]
    clear hs e0 e1 e2 e3 e4 e5 e6
    have z0_0 := keep hb yz0_0; have z0_1 := keep hb yz0_1; have z1_0 := keep hb yz1_0; have z1_1 := keep hb yz1_1; have z2_0 := keep hb yz2_0; have z2_1 := keep hb yz2_1; have z3_0 := keep hb yz3_0; have z3_1 := keep hb yz3_1; have z3_2 := keep hb yz3_2; have z3_3 := keep hb yz3_3; have z3_4 := keep hb yz3_4
    replace k0 := keep hb k0
    replace k1 := keep hb k1
    have gb := (lt1_is hb0).trans qb
    replace BF := bl_trans (bl_trans BF B2) hb
    clear hb B2 yz0_0 yz0_1 yz1_0 yz1_1 yz2_0 yz2_1 yz3_0 yz3_1 yz3_2 yz3_3 yz3_4
    go_wp2_with (first | (go_at_call 20; refine (vSquare_n _ hm).mono ?_; rintro e w5 ⟨s, hs, rfl, hb⟩; have hq := ckYb1 w cx cy fx fy wx wy hb (by refine ⟨?_, ?_, ?_, ?_, ?_, ?_, ?_, ?_, ?_, ?_, ?_⟩ <;> first | assumption | go_keep); clear z0_0 z0_1 z1_0 z1_1 z2_0 z2_1 z3_0 z3_1 z3_2 z3_3 z3_4; obtain ⟨z0_0, z0_1, z1_0, z1_1, z2_0, z2_1, z3_0, z3_1, z3_2, z3_3, z3_4⟩ := hq; replace k0 := keep hb k0; replace k1 := keep hb k1; replace BF := gwYb3 w cx cy fx fy wx wy hb (by repeat (first | exact BF | apply bl_alloc | apply bl_drewN)); clear hb; obtain ⟨l0, l1, l2, l3⟩ := ltYb2 BF; have lk := World.block_lt_of_cell? _ _ k0; simp only at lk; have HC := fun W1 W2 => o_is (op := .sub) W2 hs (o_is (op := .mul) W1 hr hr); have gc := fun W1 W2 => (lt0_is (HC W1 W2)).trans qc; skip) | (go_at_call 23; refine (nothing_n _).mono ?_; rintro e w6 ⟨rfl, hb⟩; have hq := ckYb1 w cx cy fx fy wx wy hb (by refine ⟨?_, ?_, ?_, ?_, ?_, ?_, ?_, ?_, ?_, ?_, ?_⟩ <;> first | assumption | go_keep); clear z0_0 z0_1 z1_0 z1_1 z2_0 z2_1 z3_0 z3_1 z3_2 z3_3 z3_4; obtain ⟨z0_0, z0_1, z1_0, z1_1, z2_0, z2_1, z3_0, z3_1, z3_2, z3_3, z3_4⟩ := hq; replace BF := gwYb3 w cx cy fx fy wx wy hb (by repeat (first | exact BF | apply bl_alloc | apply bl_drewN)); clear hb; have fE : ∀ o, w6.frozen? ⟨w.heap.size + 1 + 1 + 1, o, none⟩ = false := fun o => (BF.2 _).trans (fR o)))
    refine fin5 (G := bodyPost _ _ _ _ _) (by repeat (first | (with_reducible exact z3_0) | (with_reducible refine up_drewN ?_) | (with_reducible refine up_alloc ?_))) (by repeat (first | (with_reducible exact z3_1) | (with_reducible refine up_drewN ?_) | (with_reducible refine up_alloc ?_))) (by repeat (first | (with_reducible exact z3_2) | (with_reducible refine up_drewN ?_) | (with_reducible refine up_alloc ?_))) (by repeat (first | (with_reducible exact z3_3) | (with_reducible refine up_drewN ?_) | (with_reducible refine up_alloc ?_))) (by repeat (first | (with_reducible exact z3_4) | (with_reducible refine up_drewN ?_) | (with_reducible refine up_alloc ?_))) (by have B := (bl_trans B0 BF); repeat (first | (with_reducible exact B) | (with_reducible refine bl_drewN ?_ _) | (with_reducible refine bl_alloc ?_ _ _))) (by omega) fun X r0 r1 r2 r3 r4 bX => ?_
    refine bodyPost_ret (circle_res _ _ _ _ _ _ _ _ _ _ rfl rfl rfl r0 r1 r2 r3 r4) rfl ⟨_, _, _, _, _, ?_, rfl, bX⟩
    exact zeH_is


set_option maxRecDepth 100000 in
set_option maxHeartbeats 2000000 in
theorem circle_nd {cx cy r fx fy wx wy R : Nat} {C F Y : Vp} (w : World) (hc : isP cx cy C) (hr : isF r R) (hf : isP fx fy F) (hw : isP wx wy Y) (q1 : inB C.1 C.2 = true) (g1 : leK .f64 4472074429978902528 r = true) (g2 : leK .f64 r 4787326403894837248 = true) (he : ryE F Y = 0) (qc : ltK .f64 0 (ciC C R F) = true) (qb : ltK .f64 (ciB C F Y) 0 = true) (qd : ltK .f64 (ciD C R F Y) 0 = true) : Calls Tryz.prog 6 #[.agg #[.float .f64 cx, .float .f64 cy], .float .f64 r, .agg #[.float .f64 fx, .float .f64 fy], .agg #[.float .f64 wx, .float .f64 wy]] w fun e w' => ∃ hx9 hy9 nx9 ny9 ht9 : Nat, isH hx9 hy9 nx9 ny9 ht9 (((false, zeH)).2) ∧ e = .returned (.tuple #[.agg #[.float .f64 hx9, .float .f64 hy9, .float .f64 nx9, .float .f64 ny9, .float .f64 ht9], .bool ((false, zeH)).1, .int .i64 (0)]) ∧ Bel w w' := by
  have c1 := cmp_lt .f64
  have c2 := cmp_gt .f64
  have c5 := cmp_eq .f64
  have c3 := cmp_le2 .f64
  have c4 := cmp_ge2 .f64
  have d1 := run_sub Tryz.prog
  have d2 := run_mul Tryz.prog
  have d3 := run_quo Tryz.prog
  have d4 := run_neg Tryz.prog
  obtain ⟨z0_0, z0_1, z1_0, z1_1, z2_0, z2_1, z3_0, z3_1, z3_2, z3_3, z3_4, B0⟩ := bxYb0 w cx cy fx fy wx wy _ rfl
  have fR := fzYb4 w cx cy fx fy wx wy
  go_enter Tryz.func6, Tryz.ntmps6
  go_wp2_with (first | (go_at_call 16; refine (vIn_n _ hc).mono ?_; rintro e w1 ⟨rfl, hb⟩; rw [q1]; have hq := ckYb1 w cx cy fx fy wx wy hb (by refine ⟨?_, ?_, ?_, ?_, ?_, ?_, ?_, ?_, ?_, ?_, ?_⟩ <;> first | assumption | go_keep); clear z0_0 z0_1 z1_0 z1_1 z2_0 z2_1 z3_0 z3_1 z3_2 z3_3 z3_4; obtain ⟨z0_0, z0_1, z1_0, z1_1, z2_0, z2_1, z3_0, z3_1, z3_2, z3_3, z3_4⟩ := hq; have BF := hb; clear hb) | (go_at_call 18; refine (checkRay_n _ hf hw).mono ?_; rintro e w2 ⟨rfl, hb⟩; have hq := ckYb1 w cx cy fx fy wx wy hb (by refine ⟨?_, ?_, ?_, ?_, ?_, ?_, ?_, ?_, ?_, ?_, ?_⟩ <;> first | assumption | go_keep); clear z0_0 z0_1 z1_0 z1_1 z2_0 z2_1 z3_0 z3_1 z3_2 z3_3 z3_4; obtain ⟨z0_0, z0_1, z1_0, z1_1, z2_0, z2_1, z3_0, z3_1, z3_2, z3_3, z3_4⟩ := hq; replace BF := bl_trans BF hb; clear hb) | (go_at_call 19; refine (vSub_n _ hf hc).mono ?_; rintro e w3 ⟨mx, my, hm, rfl, hb⟩; have hq := ckYb1 w cx cy fx fy wx wy hb (by refine ⟨?_, ?_, ?_, ?_, ?_, ?_, ?_, ?_, ?_, ?_, ?_⟩ <;> first | assumption | go_keep); clear z0_0 z0_1 z1_0 z1_1 z2_0 z2_1 z3_0 z3_1 z3_2 z3_3 z3_4; obtain ⟨z0_0, z0_1, z1_0, z1_1, z2_0, z2_1, z3_0, z3_1, z3_2, z3_3, z3_4⟩ := hq; replace BF := bl_trans BF hb; clear hb; obtain ⟨l0, l1, l2, l3⟩ := ltYb2 BF))
  have B2 : Bel w3 (w3.alloc (.cells #[.float .f64 mx, .float .f64 my] 24)) := bl_alloc (bl_refl _) _ _
  have k0 : (w3.alloc (.cells #[.float .f64 mx, .float .f64 my] 24)).cell? ⟨w3.heap.size, 0, none⟩ = some (.float .f64 mx) := by rw [World.cell?_alloc_new]; rfl
  have k1 : (w3.alloc (.cells #[.float .f64 mx, .float .f64 my] 24)).cell? ⟨w3.heap.size, 1, none⟩ = some (.float .f64 my) := by rw [World.cell?_alloc_new]; rfl
  have yz0_0 := keep B2 z0_0
  have yz0_1 := keep B2 z0_1
  have yz1_0 := keep B2 z1_0
  have yz1_1 := keep B2 z1_1
  have yz2_0 := keep B2 z2_0
  have yz2_1 := keep B2 z2_1
  have yz3_0 := keep B2 z3_0
  have yz3_1 := keep B2 z3_1
  have yz3_2 := keep B2 z3_2
  have yz3_3 := keep B2 z3_3
  have yz3_4 := keep B2 z3_4
  clear z0_0 z0_1 z1_0 z1_1 z2_0 z2_1 z3_0 z3_1 z3_2 z3_3 z3_4
  refine wp_region_mono 7 rfl (fun i W v => match i with | 0 => v = .agg #[.float .f64 wx, .float .f64 wy] | 1 => ∃ p, isF p (dtF Y Y) ∧ v = .float .f64 p | 2 => v = .agg #[.float .f64 mx, .float .f64 my] | 3 => v = .agg #[.float .f64 wx, .float .f64 wy] | 4 => ∃ p, isF p (ciB C F Y) ∧ v = .float .f64 p | 5 => ∃ p, isF p (dtF Y Y) ∧ v = .float .f64 p | 6 => ∃ p, isF p (ciB C F Y) ∧ v = .float .f64 p | _ => False) ?A_wm (by kernel_rfl) (by kernel_rfl) ?hA_wm ?hmo_wm ?hq_wm ?ht_wm
  case hA_wm =>
    intro s
    simp only [putL, dstO, Act.put, List.getElem?_toArray, List.getElem?_cons_zero, List.getElem?_cons_succ, Option.bind_some, List.setIfInBounds_toArray, List.set_cons_zero, List.set_cons_succ, if_true]
    all_goals exact rfl
  case hmo_wm =>
    intro i W W' v hi hb h
    rcases (show i = 0 ∨ i = 1 ∨ i = 2 ∨ i = 3 ∨ i = 4 ∨ i = 5 ∨ i = 6 by omega) with rfl | rfl | rfl | rfl | rfl | rfl | rfl
    all_goals first | exact h
  case hq_wm =>
    intro i o hi ho s W hs hb K hK
    have uz0_0 := keep hb yz0_0; have uz0_1 := keep hb yz0_1; have uz1_0 := keep hb yz1_0; have uz1_1 := keep hb yz1_1; have uz2_0 := keep hb yz2_0; have uz2_1 := keep hb yz2_1; have uz3_0 := keep hb yz3_0; have uz3_1 := keep hb yz3_1; have uz3_2 := keep hb yz3_2; have uz3_3 := keep hb yz3_3; have uz3_4 := keep hb yz3_4; have uk0 := keep hb k0; have uk1 := keep hb k1
    rcases (show i = 0 ∨ i = 1 ∨ i = 2 ∨ i = 3 ∨ i = 4 ∨ i = 5 ∨ i = 6 by omega) with rfl | rfl | rfl | rfl | rfl | rfl | rfl
    all_goals
      cases ho
    rotate_left 1
    have e0 : s 0 = _ := hs 0 (by decide) (by kernel_rfl)
    simp only [e0] at hK ⊢
    rotate_left 3
    have e2 : s 2 = _ := hs 2 (by decide) (by kernel_rfl)
    have e3 : s 3 = _ := hs 3 (by decide) (by kernel_rfl)
    simp only [e2, e3] at hK ⊢
    rotate_left 1
    obtain ⟨a0, ha0, e1⟩ := hs 1 (by decide) (by kernel_rfl)
    simp only [e1] at hK ⊢
    rotate_left 1
    obtain ⟨b0, hb0, e4⟩ := hs 4 (by decide) (by kernel_rfl)
    simp only [e4] at hK ⊢
    rotate_left 1
    all_goals
      simp only [Act.put, List.setIfInBounds_toArray, List.set_cons_zero, List.set_cons_succ] at hK
      clear hs
      go_simp
      all_goals (try go_wp2_with (first | (go_at_call 20; refine (vSquare_n _ hw).mono ?_; rintro e w' ⟨p, h1, rfl, hb1⟩) | (go_at_call 21; refine (vDot_n _ hm hw).mono ?_; rintro e w' ⟨p, h4, rfl, hb1⟩)))
      all_goals first | exact hK.out _ _ ⟨_, h1, rfl⟩ hb1 | exact hK.out _ _ ⟨_, h4, rfl⟩ hb1 | exact hK.out _ _ ⟨_, ha0, rfl⟩ (bl_refl _) | exact hK.out _ _ ⟨_, hb0, rfl⟩ (bl_refl _) | exact hK.out _ _ rfl (bl_refl _) | exact hK.out _ _ rfl (by assumption) | exact hK.out _ _ (by assumption) (by assumption)
  case ht_wm =>
    intro s w4 hs hb
    have e0 : s 0 = _ := hs 0 (by decide)
    obtain ⟨_, _, e1⟩ := hs 1 (by decide)
    have e2 : s 2 = _ := hs 2 (by decide)
    have e3 : s 3 = _ := hs 3 (by decide)
    obtain ⟨_, _, e4⟩ := hs 4 (by decide)
    obtain ⟨a0, ha0, e5⟩ := hs 5 (by decide)
    obtain ⟨b0, hb0, e6⟩ := hs 6 (by decide)
    simp only [e0, e1, e2, e3, e4, e5, e6]
    clear hs e0 e1 e2 e3 e4 e5 e6
    have z0_0 := keep hb yz0_0; have z0_1 := keep hb yz0_1; have z1_0 := keep hb yz1_0; have z1_1 := keep hb yz1_1; have z2_0 := keep hb yz2_0; have z2_1 := keep hb yz2_1; have z3_0 := keep hb yz3_0; have z3_1 := keep hb yz3_1; have z3_2 := keep hb yz3_2; have z3_3 := keep hb yz3_3; have z3_4 := keep hb yz3_4
    replace k0 := keep hb k0
    replace k1 := keep hb k1
    have gb := (lt1_is hb0).trans qb
    replace BF := bl_trans (bl_trans BF B2) hb
    clear hb B2 yz0_0 yz0_1 yz1_0 yz1_1 yz2_0 yz2_1 yz3_0 yz3_1 yz3_2 yz3_3 yz3_4
    go_wp2_with (first | (go_at_call 20; refine (vSquare_n _ hm).mono ?_; rintro e w5 ⟨s, hs, rfl, hb⟩; have hq := ckYb1 w cx cy fx fy wx wy hb (by refine ⟨?_, ?_, ?_, ?_, ?_, ?_, ?_, ?_, ?_, ?_, ?_⟩ <;> first | assumption | go_keep); clear z0_0 z0_1 z1_0 z1_1 z2_0 z2_1 z3_0 z3_1 z3_2 z3_3 z3_4; obtain ⟨z0_0, z0_1, z1_0, z1_1, z2_0, z2_1, z3_0, z3_1, z3_2, z3_3, z3_4⟩ := hq; replace k0 := keep hb k0; replace k1 := keep hb k1; replace BF := gwYb3 w cx cy fx fy wx wy hb (by repeat (first | exact BF | apply bl_alloc | apply bl_drewN)); clear hb; obtain ⟨l0, l1, l2, l3⟩ := ltYb2 BF; have lk := World.block_lt_of_cell? _ _ k0; simp only at lk; have HC := fun W1 W2 => o_is (op := .sub) W2 hs (o_is (op := .mul) W1 hr hr); have gc := fun W1 W2 => (lt0_is (HC W1 W2)).trans qc; have HD := fun W1 W2 W3 W4 W5 => o_is (op := .sub) W5 (o_is (op := .mul) W1 hb0 hb0) (o_is (op := .mul) W4 ha0 (HC W2 W3)); have gd := fun W1 W2 W3 W4 W5 => (lt1_is (HD W1 W2 W3 W4 W5)).trans qd; skip) | (go_at_call 23; refine (nothing_n _).mono ?_; rintro e w6 ⟨rfl, hb⟩; have hq := ckYb1 w cx cy fx fy wx wy hb (by refine ⟨?_, ?_, ?_, ?_, ?_, ?_, ?_, ?_, ?_, ?_, ?_⟩ <;> first | assumption | go_keep); clear z0_0 z0_1 z1_0 z1_1 z2_0 z2_1 z3_0 z3_1 z3_2 z3_3 z3_4; obtain ⟨z0_0, z0_1, z1_0, z1_1, z2_0, z2_1, z3_0, z3_1, z3_2, z3_3, z3_4⟩ := hq; replace BF := gwYb3 w cx cy fx fy wx wy hb (by repeat (first | exact BF | apply bl_alloc | apply bl_drewN)); clear hb; have fE : ∀ o, w6.frozen? ⟨w.heap.size + 1 + 1 + 1, o, none⟩ = false := fun o => (BF.2 _).trans (fR o)))
    refine fin5 (G := bodyPost _ _ _ _ _) (by repeat (first | (with_reducible exact z3_0) | (with_reducible refine up_drewN ?_) | (with_reducible refine up_alloc ?_))) (by repeat (first | (with_reducible exact z3_1) | (with_reducible refine up_drewN ?_) | (with_reducible refine up_alloc ?_))) (by repeat (first | (with_reducible exact z3_2) | (with_reducible refine up_drewN ?_) | (with_reducible refine up_alloc ?_))) (by repeat (first | (with_reducible exact z3_3) | (with_reducible refine up_drewN ?_) | (with_reducible refine up_alloc ?_))) (by repeat (first | (with_reducible exact z3_4) | (with_reducible refine up_drewN ?_) | (with_reducible refine up_alloc ?_))) (by have B := (bl_trans B0 BF); repeat (first | (with_reducible exact B) | (with_reducible refine bl_drewN ?_ _) | (with_reducible refine bl_alloc ?_ _ _))) (by omega) fun X r0 r1 r2 r3 r4 bX => ?_
    refine bodyPost_ret (circle_res _ _ _ _ _ _ _ _ _ _ rfl rfl rfl r0 r1 r2 r3 r4) rfl ⟨_, _, _, _, _, ?_, rfl, bX⟩
    exact zeH_is


set_option maxRecDepth 100000 in
set_option maxHeartbeats 2000000 in
theorem circle_np {cx cy r fx fy wx wy R : Nat} {C F Y : Vp} (w : World) (hc : isP cx cy C) (hr : isF r R) (hf : isP fx fy F) (hw : isP wx wy Y) (q1 : inB C.1 C.2 = true) (g1 : leK .f64 4472074429978902528 r = true) (g2 : leK .f64 r 4787326403894837248 = true) (he : ryE F Y = 0) (qc : ltK .f64 0 (ciC C R F) = true) (qb : ltK .f64 (ciB C F Y) 0 = true) (qd : ltK .f64 (ciD C R F Y) 0 = false) (qp : paB (ciT C R F Y) = false) : Calls Tryz.prog 6 #[.agg #[.float .f64 cx, .float .f64 cy], .float .f64 r, .agg #[.float .f64 fx, .float .f64 fy], .agg #[.float .f64 wx, .float .f64 wy]] w fun e w' => ∃ hx9 hy9 nx9 ny9 ht9 : Nat, isH hx9 hy9 nx9 ny9 ht9 (((false, zeH)).2) ∧ e = .returned (.tuple #[.agg #[.float .f64 hx9, .float .f64 hy9, .float .f64 nx9, .float .f64 ny9, .float .f64 ht9], .bool ((false, zeH)).1, .int .i64 (0)]) ∧ Bel w w' := by
  have c1 := cmp_lt .f64
  have c2 := cmp_gt .f64
  have c5 := cmp_eq .f64
  have c3 := cmp_le2 .f64
  have c4 := cmp_ge2 .f64
  have d1 := run_sub Tryz.prog
  have d2 := run_mul Tryz.prog
  have d3 := run_quo Tryz.prog
  have d4 := run_neg Tryz.prog
  obtain ⟨z0_0, z0_1, z1_0, z1_1, z2_0, z2_1, z3_0, z3_1, z3_2, z3_3, z3_4, B0⟩ := bxYb0 w cx cy fx fy wx wy _ rfl
  have fR := fzYb4 w cx cy fx fy wx wy
  go_enter Tryz.func6, Tryz.ntmps6
  go_wp2_with (first | (go_at_call 16; refine (vIn_n _ hc).mono ?_; rintro e w1 ⟨rfl, hb⟩; rw [q1]; have hq := ckYb1 w cx cy fx fy wx wy hb (by refine ⟨?_, ?_, ?_, ?_, ?_, ?_, ?_, ?_, ?_, ?_, ?_⟩ <;> first | assumption | go_keep); clear z0_0 z0_1 z1_0 z1_1 z2_0 z2_1 z3_0 z3_1 z3_2 z3_3 z3_4; obtain ⟨z0_0, z0_1, z1_0, z1_1, z2_0, z2_1, z3_0, z3_1, z3_2, z3_3, z3_4⟩ := hq; have BF := hb; clear hb) | (go_at_call 18; refine (checkRay_n _ hf hw).mono ?_; rintro e w2 ⟨rfl, hb⟩; have hq := ckYb1 w cx cy fx fy wx wy hb (by refine ⟨?_, ?_, ?_, ?_, ?_, ?_, ?_, ?_, ?_, ?_, ?_⟩ <;> first | assumption | go_keep); clear z0_0 z0_1 z1_0 z1_1 z2_0 z2_1 z3_0 z3_1 z3_2 z3_3 z3_4; obtain ⟨z0_0, z0_1, z1_0, z1_1, z2_0, z2_1, z3_0, z3_1, z3_2, z3_3, z3_4⟩ := hq; replace BF := bl_trans BF hb; clear hb) | (go_at_call 19; refine (vSub_n _ hf hc).mono ?_; rintro e w3 ⟨mx, my, hm, rfl, hb⟩; have hq := ckYb1 w cx cy fx fy wx wy hb (by refine ⟨?_, ?_, ?_, ?_, ?_, ?_, ?_, ?_, ?_, ?_, ?_⟩ <;> first | assumption | go_keep); clear z0_0 z0_1 z1_0 z1_1 z2_0 z2_1 z3_0 z3_1 z3_2 z3_3 z3_4; obtain ⟨z0_0, z0_1, z1_0, z1_1, z2_0, z2_1, z3_0, z3_1, z3_2, z3_3, z3_4⟩ := hq; replace BF := bl_trans BF hb; clear hb; obtain ⟨l0, l1, l2, l3⟩ := ltYb2 BF))
  have B2 : Bel w3 (w3.alloc (.cells #[.float .f64 mx, .float .f64 my] 24)) := bl_alloc (bl_refl _) _ _
  have k0 : (w3.alloc (.cells #[.float .f64 mx, .float .f64 my] 24)).cell? ⟨w3.heap.size, 0, none⟩ = some (.float .f64 mx) := by rw [World.cell?_alloc_new]; rfl
  have k1 : (w3.alloc (.cells #[.float .f64 mx, .float .f64 my] 24)).cell? ⟨w3.heap.size, 1, none⟩ = some (.float .f64 my) := by rw [World.cell?_alloc_new]; rfl
  have yz0_0 := keep B2 z0_0
  have yz0_1 := keep B2 z0_1
  have yz1_0 := keep B2 z1_0
  have yz1_1 := keep B2 z1_1
  have yz2_0 := keep B2 z2_0
  have yz2_1 := keep B2 z2_1
  have yz3_0 := keep B2 z3_0
  have yz3_1 := keep B2 z3_1
  have yz3_2 := keep B2 z3_2
  have yz3_3 := keep B2 z3_3
  have yz3_4 := keep B2 z3_4
  clear z0_0 z0_1 z1_0 z1_1 z2_0 z2_1 z3_0 z3_1 z3_2 z3_3 z3_4
  refine wp_region_mono 7 rfl (fun i W v => match i with | 0 => v = .agg #[.float .f64 wx, .float .f64 wy] | 1 => ∃ p, isF p (dtF Y Y) ∧ v = .float .f64 p | 2 => v = .agg #[.float .f64 mx, .float .f64 my] | 3 => v = .agg #[.float .f64 wx, .float .f64 wy] | 4 => ∃ p, isF p (ciB C F Y) ∧ v = .float .f64 p | 5 => ∃ p, isF p (dtF Y Y) ∧ v = .float .f64 p | 6 => ∃ p, isF p (ciB C F Y) ∧ v = .float .f64 p | _ => False) ?A_wm (by kernel_rfl) (by kernel_rfl) ?hA_wm ?hmo_wm ?hq_wm ?ht_wm
  case hA_wm =>
    intro s
    simp only [putL, dstO, Act.put, List.getElem?_toArray, List.getElem?_cons_zero, List.getElem?_cons_succ, Option.bind_some, List.setIfInBounds_toArray, List.set_cons_zero, List.set_cons_succ, if_true]
    all_goals exact rfl
  case hmo_wm =>
    intro i W W' v hi hb h
    rcases (show i = 0 ∨ i = 1 ∨ i = 2 ∨ i = 3 ∨ i = 4 ∨ i = 5 ∨ i = 6 by omega) with rfl | rfl | rfl | rfl | rfl | rfl | rfl
    all_goals first | exact h
  case hq_wm =>
    intro i o hi ho s W hs hb K hK
    have uz0_0 := keep hb yz0_0; have uz0_1 := keep hb yz0_1; have uz1_0 := keep hb yz1_0; have uz1_1 := keep hb yz1_1; have uz2_0 := keep hb yz2_0; have uz2_1 := keep hb yz2_1; have uz3_0 := keep hb yz3_0; have uz3_1 := keep hb yz3_1; have uz3_2 := keep hb yz3_2; have uz3_3 := keep hb yz3_3; have uz3_4 := keep hb yz3_4; have uk0 := keep hb k0; have uk1 := keep hb k1
    rcases (show i = 0 ∨ i = 1 ∨ i = 2 ∨ i = 3 ∨ i = 4 ∨ i = 5 ∨ i = 6 by omega) with rfl | rfl | rfl | rfl | rfl | rfl | rfl
    all_goals
      cases ho
    rotate_left 1
    have e0 : s 0 = _ := hs 0 (by decide) (by kernel_rfl)
    simp only [e0] at hK ⊢
    rotate_left 3
    have e2 : s 2 = _ := hs 2 (by decide) (by kernel_rfl)
    have e3 : s 3 = _ := hs 3 (by decide) (by kernel_rfl)
    simp only [e2, e3] at hK ⊢
    rotate_left 1
    obtain ⟨a0, ha0, e1⟩ := hs 1 (by decide) (by kernel_rfl)
    simp only [e1] at hK ⊢
    rotate_left 1
    obtain ⟨b0, hb0, e4⟩ := hs 4 (by decide) (by kernel_rfl)
    simp only [e4] at hK ⊢
    rotate_left 1
    all_goals
      simp only [Act.put, List.setIfInBounds_toArray, List.set_cons_zero, List.set_cons_succ] at hK
      clear hs
      go_simp
      all_goals (try go_wp2_with (first | (go_at_call 20; refine (vSquare_n _ hw).mono ?_; rintro e w' ⟨p, h1, rfl, hb1⟩) | (go_at_call 21; refine (vDot_n _ hm hw).mono ?_; rintro e w' ⟨p, h4, rfl, hb1⟩)))
      all_goals first | exact hK.out _ _ ⟨_, h1, rfl⟩ hb1 | exact hK.out _ _ ⟨_, h4, rfl⟩ hb1 | exact hK.out _ _ ⟨_, ha0, rfl⟩ (bl_refl _) | exact hK.out _ _ ⟨_, hb0, rfl⟩ (bl_refl _) | exact hK.out _ _ rfl (bl_refl _) | exact hK.out _ _ rfl (by assumption) | exact hK.out _ _ (by assumption) (by assumption)
  case ht_wm =>
    intro s w4 hs hb
    have e0 : s 0 = _ := hs 0 (by decide)
    obtain ⟨_, _, e1⟩ := hs 1 (by decide)
    have e2 : s 2 = _ := hs 2 (by decide)
    have e3 : s 3 = _ := hs 3 (by decide)
    obtain ⟨_, _, e4⟩ := hs 4 (by decide)
    obtain ⟨a0, ha0, e5⟩ := hs 5 (by decide)
    obtain ⟨b0, hb0, e6⟩ := hs 6 (by decide)
    simp only [e0, e1, e2, e3, e4, e5, e6]
    clear hs e0 e1 e2 e3 e4 e5 e6
    have z0_0 := keep hb yz0_0; have z0_1 := keep hb yz0_1; have z1_0 := keep hb yz1_0; have z1_1 := keep hb yz1_1; have z2_0 := keep hb yz2_0; have z2_1 := keep hb yz2_1; have z3_0 := keep hb yz3_0; have z3_1 := keep hb yz3_1; have z3_2 := keep hb yz3_2; have z3_3 := keep hb yz3_3; have z3_4 := keep hb yz3_4
    replace k0 := keep hb k0
    replace k1 := keep hb k1
    have gb := (lt1_is hb0).trans qb
    replace BF := bl_trans (bl_trans BF B2) hb
    clear hb B2 yz0_0 yz0_1 yz1_0 yz1_1 yz2_0 yz2_1 yz3_0 yz3_1 yz3_2 yz3_3 yz3_4
    go_wp2_with (first | (go_at_call 20; refine (vSquare_n _ hm).mono ?_; rintro e w5 ⟨s, hs, rfl, hb⟩; have hq := ckYb1 w cx cy fx fy wx wy hb (by refine ⟨?_, ?_, ?_, ?_, ?_, ?_, ?_, ?_, ?_, ?_, ?_⟩ <;> first | assumption | go_keep); clear z0_0 z0_1 z1_0 z1_1 z2_0 z2_1 z3_0 z3_1 z3_2 z3_3 z3_4; obtain ⟨z0_0, z0_1, z1_0, z1_1, z2_0, z2_1, z3_0, z3_1, z3_2, z3_3, z3_4⟩ := hq; replace k0 := keep hb k0; replace k1 := keep hb k1; replace BF := gwYb3 w cx cy fx fy wx wy hb (by repeat (first | exact BF | apply bl_alloc | apply bl_drewN)); clear hb; obtain ⟨l0, l1, l2, l3⟩ := ltYb2 BF; have lk := World.block_lt_of_cell? _ _ k0; simp only at lk; have HC := fun W1 W2 => o_is (op := .sub) W2 hs (o_is (op := .mul) W1 hr hr); have gc := fun W1 W2 => (lt0_is (HC W1 W2)).trans qc; have HD := fun W1 W2 W3 W4 W5 => o_is (op := .sub) W5 (o_is (op := .mul) W1 hb0 hb0) (o_is (op := .mul) W4 ha0 (HC W2 W3)); have gd := fun W1 W2 W3 W4 W5 => (lt1_is (HD W1 W2 W3 W4 W5)).trans qd; skip) | (go_at_call 24; refine (sqrt_any _ _).mono ?_; rintro e w6 ⟨rq, nq, hq, rfl, rfl⟩; have hq2 : isF rq (qF (ciD C R F Y)) := ⟨hq.1, by rw [sq_n hq, (HD _ _ _ _ _).2]; rfl⟩; have HT : ∀ W1 W2 : World, isF (fv .quo .f64 (fv .sub .f64 (Op.negFloat .f64 b0) rq W1) a0 W2) (ciT C R F Y) := fun W1 W2 => o_is (op := .quo) W2 (o_is (op := .sub) W1 (ng_is hb0) hq2) ha0) | (go_at_call 25; refine (isPart_n _ (HT _ _)).mono ?_; rintro e w7 ⟨rfl, rfl⟩; rw [qp]) | (go_at_call 23; refine (nothing_n _).mono ?_; rintro e w8 ⟨rfl, hb⟩; have hq := ckYb1 w cx cy fx fy wx wy hb (by refine ⟨?_, ?_, ?_, ?_, ?_, ?_, ?_, ?_, ?_, ?_, ?_⟩ <;> first | assumption | go_keep); clear z0_0 z0_1 z1_0 z1_1 z2_0 z2_1 z3_0 z3_1 z3_2 z3_3 z3_4; obtain ⟨z0_0, z0_1, z1_0, z1_1, z2_0, z2_1, z3_0, z3_1, z3_2, z3_3, z3_4⟩ := hq; replace BF := gwYb3 w cx cy fx fy wx wy hb (by repeat (first | exact BF | apply bl_alloc | apply bl_drewN)); clear hb; have fE : ∀ o, w8.frozen? ⟨w.heap.size + 1 + 1 + 1, o, none⟩ = false := fun o => (BF.2 _).trans (fR o)))
    refine fin5 (G := bodyPost _ _ _ _ _) (by repeat (first | (with_reducible exact z3_0) | (with_reducible refine up_drewN ?_) | (with_reducible refine up_alloc ?_))) (by repeat (first | (with_reducible exact z3_1) | (with_reducible refine up_drewN ?_) | (with_reducible refine up_alloc ?_))) (by repeat (first | (with_reducible exact z3_2) | (with_reducible refine up_drewN ?_) | (with_reducible refine up_alloc ?_))) (by repeat (first | (with_reducible exact z3_3) | (with_reducible refine up_drewN ?_) | (with_reducible refine up_alloc ?_))) (by repeat (first | (with_reducible exact z3_4) | (with_reducible refine up_drewN ?_) | (with_reducible refine up_alloc ?_))) (by have B := (bl_trans B0 BF); repeat (first | (with_reducible exact B) | (with_reducible refine bl_drewN ?_ _) | (with_reducible refine bl_alloc ?_ _ _))) (by omega) fun X r0 r1 r2 r3 r4 bX => ?_
    refine bodyPost_ret (circle_res _ _ _ _ _ _ _ _ _ _ rfl rfl rfl r0 r1 r2 r3 r4) rfl ⟨_, _, _, _, _, ?_, rfl, bX⟩
    exact zeH_is


set_option maxRecDepth 100000 in
set_option maxHeartbeats 2000000 in
theorem circle_hit {cx cy r fx fy wx wy R : Nat} {C F Y : Vp} (w : World) (hc : isP cx cy C) (hr : isF r R) (hf : isP fx fy F) (hw : isP wx wy Y) (q1 : inB C.1 C.2 = true) (g1 : leK .f64 4472074429978902528 r = true) (g2 : leK .f64 r 4787326403894837248 = true) (he : ryE F Y = 0) (qc : ltK .f64 0 (ciC C R F) = true) (qb : ltK .f64 (ciB C F Y) 0 = true) (qd : ltK .f64 (ciD C R F Y) 0 = false) (qp : paB (ciT C R F Y) = true) : Calls Tryz.prog 6 #[.agg #[.float .f64 cx, .float .f64 cy], .float .f64 r, .agg #[.float .f64 fx, .float .f64 fy], .agg #[.float .f64 wx, .float .f64 wy]] w fun e w' => ∃ hx9 hy9 nx9 ny9 ht9 : Nat, isH hx9 hy9 nx9 ny9 ht9 (((true, ciH C R F Y)).2) ∧ e = .returned (.tuple #[.agg #[.float .f64 hx9, .float .f64 hy9, .float .f64 nx9, .float .f64 ny9, .float .f64 ht9], .bool ((true, ciH C R F Y)).1, .int .i64 (0)]) ∧ Bel w w' := by
  have c1 := cmp_lt .f64
  have c2 := cmp_gt .f64
  have c5 := cmp_eq .f64
  have c3 := cmp_le2 .f64
  have c4 := cmp_ge2 .f64
  have d1 := run_sub Tryz.prog
  have d2 := run_mul Tryz.prog
  have d3 := run_quo Tryz.prog
  have d4 := run_neg Tryz.prog
  obtain ⟨z0_0, z0_1, z1_0, z1_1, z2_0, z2_1, z3_0, z3_1, z3_2, z3_3, z3_4, B0⟩ := bxYb0 w cx cy fx fy wx wy _ rfl
  have fR := fzYb4 w cx cy fx fy wx wy
  go_enter Tryz.func6, Tryz.ntmps6
  go_wp2_with (first | (go_at_call 16; refine (vIn_n _ hc).mono ?_; rintro e w1 ⟨rfl, hb⟩; rw [q1]; have hq := ckYb1 w cx cy fx fy wx wy hb (by refine ⟨?_, ?_, ?_, ?_, ?_, ?_, ?_, ?_, ?_, ?_, ?_⟩ <;> first | assumption | go_keep); clear z0_0 z0_1 z1_0 z1_1 z2_0 z2_1 z3_0 z3_1 z3_2 z3_3 z3_4; obtain ⟨z0_0, z0_1, z1_0, z1_1, z2_0, z2_1, z3_0, z3_1, z3_2, z3_3, z3_4⟩ := hq; have BF := hb; clear hb) | (go_at_call 18; refine (checkRay_n _ hf hw).mono ?_; rintro e w2 ⟨rfl, hb⟩; have hq := ckYb1 w cx cy fx fy wx wy hb (by refine ⟨?_, ?_, ?_, ?_, ?_, ?_, ?_, ?_, ?_, ?_, ?_⟩ <;> first | assumption | go_keep); clear z0_0 z0_1 z1_0 z1_1 z2_0 z2_1 z3_0 z3_1 z3_2 z3_3 z3_4; obtain ⟨z0_0, z0_1, z1_0, z1_1, z2_0, z2_1, z3_0, z3_1, z3_2, z3_3, z3_4⟩ := hq; replace BF := bl_trans BF hb; clear hb) | (go_at_call 19; refine (vSub_n _ hf hc).mono ?_; rintro e w3 ⟨mx, my, hm, rfl, hb⟩; have hq := ckYb1 w cx cy fx fy wx wy hb (by refine ⟨?_, ?_, ?_, ?_, ?_, ?_, ?_, ?_, ?_, ?_, ?_⟩ <;> first | assumption | go_keep); clear z0_0 z0_1 z1_0 z1_1 z2_0 z2_1 z3_0 z3_1 z3_2 z3_3 z3_4; obtain ⟨z0_0, z0_1, z1_0, z1_1, z2_0, z2_1, z3_0, z3_1, z3_2, z3_3, z3_4⟩ := hq; replace BF := bl_trans BF hb; clear hb; obtain ⟨l0, l1, l2, l3⟩ := ltYb2 BF))
  have B2 : Bel w3 (w3.alloc (.cells #[.float .f64 mx, .float .f64 my] 24)) := bl_alloc (bl_refl _) _ _
  have k0 : (w3.alloc (.cells #[.float .f64 mx, .float .f64 my] 24)).cell? ⟨w3.heap.size, 0, none⟩ = some (.float .f64 mx) := by rw [World.cell?_alloc_new]; rfl
  have k1 : (w3.alloc (.cells #[.float .f64 mx, .float .f64 my] 24)).cell? ⟨w3.heap.size, 1, none⟩ = some (.float .f64 my) := by rw [World.cell?_alloc_new]; rfl
  have yz0_0 := keep B2 z0_0
  have yz0_1 := keep B2 z0_1
  have yz1_0 := keep B2 z1_0
  have yz1_1 := keep B2 z1_1
  have yz2_0 := keep B2 z2_0
  have yz2_1 := keep B2 z2_1
  have yz3_0 := keep B2 z3_0
  have yz3_1 := keep B2 z3_1
  have yz3_2 := keep B2 z3_2
  have yz3_3 := keep B2 z3_3
  have yz3_4 := keep B2 z3_4
  clear z0_0 z0_1 z1_0 z1_1 z2_0 z2_1 z3_0 z3_1 z3_2 z3_3 z3_4
  refine wp_region_mono 7 rfl (fun i W v => match i with | 0 => v = .agg #[.float .f64 wx, .float .f64 wy] | 1 => ∃ p, isF p (dtF Y Y) ∧ v = .float .f64 p | 2 => v = .agg #[.float .f64 mx, .float .f64 my] | 3 => v = .agg #[.float .f64 wx, .float .f64 wy] | 4 => ∃ p, isF p (ciB C F Y) ∧ v = .float .f64 p | 5 => ∃ p, isF p (dtF Y Y) ∧ v = .float .f64 p | 6 => ∃ p, isF p (ciB C F Y) ∧ v = .float .f64 p | _ => False) ?A_wm (by kernel_rfl) (by kernel_rfl) ?hA_wm ?hmo_wm ?hq_wm ?ht_wm
  case hA_wm =>
    intro s
    simp only [putL, dstO, Act.put, List.getElem?_toArray, List.getElem?_cons_zero, List.getElem?_cons_succ, Option.bind_some, List.setIfInBounds_toArray, List.set_cons_zero, List.set_cons_succ, if_true]
    all_goals exact rfl
  case hmo_wm =>
    intro i W W' v hi hb h
    rcases (show i = 0 ∨ i = 1 ∨ i = 2 ∨ i = 3 ∨ i = 4 ∨ i = 5 ∨ i = 6 by omega) with rfl | rfl | rfl | rfl | rfl | rfl | rfl
    all_goals first | exact h
  case hq_wm =>
    intro i o hi ho s W hs hb K hK
    have uz0_0 := keep hb yz0_0; have uz0_1 := keep hb yz0_1; have uz1_0 := keep hb yz1_0; have uz1_1 := keep hb yz1_1; have uz2_0 := keep hb yz2_0; have uz2_1 := keep hb yz2_1; have uz3_0 := keep hb yz3_0; have uz3_1 := keep hb yz3_1; have uz3_2 := keep hb yz3_2; have uz3_3 := keep hb yz3_3; have uz3_4 := keep hb yz3_4; have uk0 := keep hb k0; have uk1 := keep hb k1
    rcases (show i = 0 ∨ i = 1 ∨ i = 2 ∨ i = 3 ∨ i = 4 ∨ i = 5 ∨ i = 6 by omega) with rfl | rfl | rfl | rfl | rfl | rfl | rfl
    all_goals
      cases ho
    rotate_left 1
    have e0 : s 0 = _ := hs 0 (by decide) (by kernel_rfl)
    simp only [e0] at hK ⊢
    rotate_left 3
    have e2 : s 2 = _ := hs 2 (by decide) (by kernel_rfl)
    have e3 : s 3 = _ := hs 3 (by decide) (by kernel_rfl)
    simp only [e2, e3] at hK ⊢
    rotate_left 1
    obtain ⟨a0, ha0, e1⟩ := hs 1 (by decide) (by kernel_rfl)
    simp only [e1] at hK ⊢
    rotate_left 1
    obtain ⟨b0, hb0, e4⟩ := hs 4 (by decide) (by kernel_rfl)
    simp only [e4] at hK ⊢
    rotate_left 1
    all_goals
      simp only [Act.put, List.setIfInBounds_toArray, List.set_cons_zero, List.set_cons_succ] at hK
      clear hs
      go_simp
      all_goals (try go_wp2_with (first | (go_at_call 20; refine (vSquare_n _ hw).mono ?_; rintro e w' ⟨p, h1, rfl, hb1⟩) | (go_at_call 21; refine (vDot_n _ hm hw).mono ?_; rintro e w' ⟨p, h4, rfl, hb1⟩)))
      all_goals first | exact hK.out _ _ ⟨_, h1, rfl⟩ hb1 | exact hK.out _ _ ⟨_, h4, rfl⟩ hb1 | exact hK.out _ _ ⟨_, ha0, rfl⟩ (bl_refl _) | exact hK.out _ _ ⟨_, hb0, rfl⟩ (bl_refl _) | exact hK.out _ _ rfl (bl_refl _) | exact hK.out _ _ rfl (by assumption) | exact hK.out _ _ (by assumption) (by assumption)
  case ht_wm =>
    intro s w4 hs hb
    have e0 : s 0 = _ := hs 0 (by decide)
    obtain ⟨_, _, e1⟩ := hs 1 (by decide)
    have e2 : s 2 = _ := hs 2 (by decide)
    have e3 : s 3 = _ := hs 3 (by decide)
    obtain ⟨_, _, e4⟩ := hs 4 (by decide)
    obtain ⟨a0, ha0, e5⟩ := hs 5 (by decide)
    obtain ⟨b0, hb0, e6⟩ := hs 6 (by decide)
    simp only [e0, e1, e2, e3, e4, e5, e6]
    clear hs e0 e1 e2 e3 e4 e5 e6
    have z0_0 := keep hb yz0_0; have z0_1 := keep hb yz0_1; have z1_0 := keep hb yz1_0; have z1_1 := keep hb yz1_1; have z2_0 := keep hb yz2_0; have z2_1 := keep hb yz2_1; have z3_0 := keep hb yz3_0; have z3_1 := keep hb yz3_1; have z3_2 := keep hb yz3_2; have z3_3 := keep hb yz3_3; have z3_4 := keep hb yz3_4
    replace k0 := keep hb k0
    replace k1 := keep hb k1
    have gb := (lt1_is hb0).trans qb
    replace BF := bl_trans (bl_trans BF B2) hb
    clear hb B2 yz0_0 yz0_1 yz1_0 yz1_1 yz2_0 yz2_1 yz3_0 yz3_1 yz3_2 yz3_3 yz3_4
    go_wp2_with (first | (go_at_call 20; refine (vSquare_n _ hm).mono ?_; rintro e w5 ⟨s, hs, rfl, hb⟩; have hq := ckYb1 w cx cy fx fy wx wy hb (by refine ⟨?_, ?_, ?_, ?_, ?_, ?_, ?_, ?_, ?_, ?_, ?_⟩ <;> first | assumption | go_keep); clear z0_0 z0_1 z1_0 z1_1 z2_0 z2_1 z3_0 z3_1 z3_2 z3_3 z3_4; obtain ⟨z0_0, z0_1, z1_0, z1_1, z2_0, z2_1, z3_0, z3_1, z3_2, z3_3, z3_4⟩ := hq; replace k0 := keep hb k0; replace k1 := keep hb k1; replace BF := gwYb3 w cx cy fx fy wx wy hb (by repeat (first | exact BF | apply bl_alloc | apply bl_drewN)); clear hb; obtain ⟨l0, l1, l2, l3⟩ := ltYb2 BF; have lk := World.block_lt_of_cell? _ _ k0; simp only at lk; have HC := fun W1 W2 => o_is (op := .sub) W2 hs (o_is (op := .mul) W1 hr hr); have gc := fun W1 W2 => (lt0_is (HC W1 W2)).trans qc; have HD := fun W1 W2 W3 W4 W5 => o_is (op := .sub) W5 (o_is (op := .mul) W1 hb0 hb0) (o_is (op := .mul) W4 ha0 (HC W2 W3)); have gd := fun W1 W2 W3 W4 W5 => (lt1_is (HD W1 W2 W3 W4 W5)).trans qd; skip) | (go_at_call 24; refine (sqrt_any _ _).mono ?_; rintro e w6 ⟨rq, nq, hq, rfl, rfl⟩; have hq2 : isF rq (qF (ciD C R F Y)) := ⟨hq.1, by rw [sq_n hq, (HD _ _ _ _ _).2]; rfl⟩; have HT : ∀ W1 W2 : World, isF (fv .quo .f64 (fv .sub .f64 (Op.negFloat .f64 b0) rq W1) a0 W2) (ciT C R F Y) := fun W1 W2 => o_is (op := .quo) W2 (o_is (op := .sub) W1 (ng_is hb0) hq2) ha0) | (go_at_call 25; refine (isPart_n _ (HT _ _)).mono ?_; rintro e w7 ⟨rfl, rfl⟩; rw [qp]) | (go_at_call 26; refine (vMore_n _ hf (HT _ _) hw).mono ?_; rintro e w8 ⟨ax, ay, hA, rfl, hb⟩; have hq := ckYb1 w cx cy fx fy wx wy hb (by refine ⟨?_, ?_, ?_, ?_, ?_, ?_, ?_, ?_, ?_, ?_, ?_⟩ <;> first | assumption | go_keep); clear z0_0 z0_1 z1_0 z1_1 z2_0 z2_1 z3_0 z3_1 z3_2 z3_3 z3_4; obtain ⟨z0_0, z0_1, z1_0, z1_1, z2_0, z2_1, z3_0, z3_1, z3_2, z3_3, z3_4⟩ := hq; replace BF := gwYb3 w cx cy fx fy wx wy hb (by repeat (first | exact BF | apply bl_alloc | apply bl_drewN)); clear hb; obtain ⟨l0, l1, l2, l3⟩ := ltYb2 BF) | (go_at_call 19; refine (vSub_n _ hA hc).mono ?_; rintro e w9 ⟨ox, oy, hO, rfl, hb⟩; have kb0 : w9.cell? ⟨w8.heap.size, 0, none⟩ = some (.float .f64 ax) := keep hb (by go_keep); have kb1 : w9.cell? ⟨w8.heap.size, 1, none⟩ = some (.float .f64 ay) := keep hb (by go_keep); have hq := ckYb1 w cx cy fx fy wx wy hb (by refine ⟨?_, ?_, ?_, ?_, ?_, ?_, ?_, ?_, ?_, ?_, ?_⟩ <;> first | assumption | go_keep); clear z0_0 z0_1 z1_0 z1_1 z2_0 z2_1 z3_0 z3_1 z3_2 z3_3 z3_4; obtain ⟨z0_0, z0_1, z1_0, z1_1, z2_0, z2_1, z3_0, z3_1, z3_2, z3_3, z3_4⟩ := hq; replace BF := gwYb3 w cx cy fx fy wx wy hb (by repeat (first | exact BF | apply bl_alloc | apply bl_drewN)); clear hb; obtain ⟨l0, l1, l2, l3⟩ := ltYb2 BF; have lkb := World.block_lt_of_cell? _ _ kb0; simp only at lkb) | (go_at_call 27; refine (vUnit_n _ hO).mono ?_; rintro e wa ⟨ux, uy, ub, hU, -, rfl, hb⟩; replace kb0 := keep hb kb0; replace kb1 := keep hb kb1; have hq := ckYb1 w cx cy fx fy wx wy hb (by refine ⟨?_, ?_, ?_, ?_, ?_, ?_, ?_, ?_, ?_, ?_, ?_⟩ <;> first | assumption | go_keep); clear z0_0 z0_1 z1_0 z1_1 z2_0 z2_1 z3_0 z3_1 z3_2 z3_3 z3_4; obtain ⟨z0_0, z0_1, z1_0, z1_1, z2_0, z2_1, z3_0, z3_1, z3_2, z3_3, z3_4⟩ := hq; replace BF := gwYb3 w cx cy fx fy wx wy hb (by repeat (first | exact BF | apply bl_alloc | apply bl_drewN)); clear hb; obtain ⟨l0, l1, l2, l3⟩ := ltYb2 BF; have fE : ∀ o, wa.frozen? ⟨w.heap.size + 1 + 1 + 1, o, none⟩ = false := fun o => (BF.2 _).trans (fR o); have lkb := World.block_lt_of_cell? _ _ kb0; simp only at lkb))
    refine fin5a (G := bodyPost _ _ _ _ _) (by repeat (first | (with_reducible exact z3_0) | (with_reducible refine up_drewN ?_) | (with_reducible refine up_alloc ?_))) (by repeat (first | (with_reducible exact z3_1) | (with_reducible refine up_drewN ?_) | (with_reducible refine up_alloc ?_))) (by repeat (first | (with_reducible exact z3_2) | (with_reducible refine up_drewN ?_) | (with_reducible refine up_alloc ?_))) (by repeat (first | (with_reducible exact z3_3) | (with_reducible refine up_drewN ?_) | (with_reducible refine up_alloc ?_))) (by repeat (first | (with_reducible exact z3_4) | (with_reducible refine up_drewN ?_) | (with_reducible refine up_alloc ?_))) (by have B := (bl_trans B0 BF); repeat (first | (with_reducible exact B) | (with_reducible refine bl_drewN ?_ _) | (with_reducible refine bl_alloc ?_ _ _))) (by omega) fun X r0 r1 r2 r3 r4 bX => ?_
    refine bodyPost_ret (circle_res _ _ _ _ _ _ _ _ _ _ rfl rfl rfl r0 r1 r2 r3 r4) rfl ⟨_, _, _, _, _, ?_, rfl, bX⟩
    simp only [ciH]; exact isH_of hA hU (HT _ _)


theorem circle_n {cx cy r fx fy wx wy R : Nat} {C F Y : Vp} (w : World) (hc : isP cx cy C) (hr : isF r R) (hf : isP fx fy F) (hw : isP wx wy Y) : Calls Tryz.prog 6 #[.agg #[.float .f64 cx, .float .f64 cy], .float .f64 r, .agg #[.float .f64 fx, .float .f64 fy], .agg #[.float .f64 wx, .float .f64 wy]] w fun e w' => ∃ hx9 hy9 nx9 ny9 ht9 : Nat, isH hx9 hy9 nx9 ny9 ht9 ((ciX C R F Y).2) ∧ e = .returned (.tuple #[.agg #[.float .f64 hx9, .float .f64 hy9, .float .f64 nx9, .float .f64 ny9, .float .f64 ht9], .bool (ciX C R F Y).1, .int .i64 (ciE C R F Y)]) ∧ Bel w w' := by
  have hrd : rdB R = (leK .f64 4472074429978902528 r && leK .f64 r 4787326403894837248) := (rd_is hr).symm
  cases q1 : inB C.1 C.2
  · have e1 : ciE C R F Y = 5 := by unfold ciE; rw [q1]; rfl
    have e2 : ciX C R F Y = (false, zeH) := by unfold ciX; rw [e1]; rfl
    rw [e1, e2]; exact circle_b1 w hc hr hf hw q1
  cases g1 : leK .f64 4472074429978902528 r
  · have e1 : ciE C R F Y = 5 := by unfold ciE; rw [hrd, q1, g1]; rfl
    have e2 : ciX C R F Y = (false, zeH) := by unfold ciX; rw [e1]; rfl
    rw [e1, e2]; exact circle_b2 w hc hr hf hw q1 g1
  cases g2 : leK .f64 r 4787326403894837248
  · have e1 : ciE C R F Y = 5 := by unfold ciE; rw [hrd, q1, g1, g2]; rfl
    have e2 : ciX C R F Y = (false, zeH) := by unfold ciX; rw [e1]; rfl
    rw [e1, e2]; exact circle_b3 w hc hr hf hw q1 g1 g2
  have e1 : ciE C R F Y = ryE F Y := by unfold ciE; rw [hrd, q1, g1, g2]; rfl
  by_cases he : ryE F Y = 0
  · have e2 : ciX C R F Y = ciR C R F Y := by unfold ciX; rw [e1, he]; rfl
    rw [e1, e2, he]
    unfold ciR
    cases qc : ltK .f64 0 (ciC C R F)
    · rw [pkF_no rfl]; exact circle_in w hc hr hf hw q1 g1 g2 he qc rfl
    rw [pkF_yes rfl]
    cases qb : ltK .f64 (ciB C F Y) 0
    · rw [Bool.false_and, pkF_no rfl]; exact circle_nb w hc hr hf hw q1 g1 g2 he qc qb
    cases qd : ltK .f64 (ciD C R F Y) 0
    · rw [show (true && !false) = true from rfl, pkF_yes rfl]
      cases qp : paB (ciT C R F Y)
      · rw [pkF_no rfl]; exact circle_np w hc hr hf hw q1 g1 g2 he qc qb qd qp
      · rw [pkF_yes rfl]; exact circle_hit w hc hr hf hw q1 g1 g2 he qc qb qd qp
    · rw [show (true && !true) = false from rfl, pkF_no rfl]; exact circle_nd w hc hr hf hw q1 g1 g2 he qc qb qd
  · have e2 : ciX C R F Y = (false, zeH) := by unfold ciX; rw [e1, decide_eq_false he]; rfl
    rw [e1, e2]; exact circle_ry w hc hr hf hw q1 g1 g2 he

end Go.Proofs.YtdeooadeohojcaaGreat
