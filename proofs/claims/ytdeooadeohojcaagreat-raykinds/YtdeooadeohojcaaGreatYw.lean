/-
  What each function of package poly answers, and what the reference of its chapter answers: one contract a function, for every float: the answer stands in the relation of its formula to what was given; of the memory that was there nothing has turned.
-/
import Derived.Deep.DeepCutAuto
import Derived.Test.YtdeooadeohojcaaGreatVec
import Derived.Test.YtdeooadeohojcaaGreatYq
import Derived.Test.YtdeooadeohojcaaGreatRx
import Derived.Test.YtdeooadeohojcaaGreatRyd
import Derived.Test.YtdeooadeohojcaaGreatYe
import Derived.Below
import Derived.WalkKit
import Derived.WalkLawsBesides
import Derived.WalkSpells
import Derived.ProofKit
import Derived.OpenShut
import Derived.Deep.RegionHeld3
namespace Go.Proofs.YtdeooadeohojcaaGreat
open Go.ChangeShapes Go.WideShapes Go.ChangeAt Go.RowKit
set_option linter.unusedVariables false
set_option linter.unusedSimpArgs false


theorem bxYw0 (w : World) (fx fy wx wy : Nat) (W : World) (hW : W = (((w.alloc (.cells #[.float .f64 fx, .float .f64 fy] 24)).alloc (.cells #[.float .f64 wx, .float .f64 wy] 24)).alloc (.cells #[.float .f64 0, .float .f64 0, .float .f64 0, .float .f64 0, .float .f64 0] 28))) : W.cell? ⟨w.heap.size, 0, none⟩ = some (.float .f64 fx) ∧ W.cell? ⟨w.heap.size, 1, none⟩ = some (.float .f64 fy) ∧ W.cell? ⟨w.heap.size + 1, 0, none⟩ = some (.float .f64 wx) ∧ W.cell? ⟨w.heap.size + 1, 1, none⟩ = some (.float .f64 wy) ∧ W.cell? ⟨w.heap.size + 1 + 1, 0, none⟩ = some (.float .f64 0) ∧ W.cell? ⟨w.heap.size + 1 + 1, 1, none⟩ = some (.float .f64 0) ∧ W.cell? ⟨w.heap.size + 1 + 1, 2, none⟩ = some (.float .f64 0) ∧ W.cell? ⟨w.heap.size + 1 + 1, 3, none⟩ = some (.float .f64 0) ∧ W.cell? ⟨w.heap.size + 1 + 1, 4, none⟩ = some (.float .f64 0) ∧ Bel w W := by
  have z0_0 : (w.alloc (.cells #[.float .f64 fx, .float .f64 fy] 24)).cell? ⟨w.heap.size, 0, none⟩ = some (.float .f64 fx) := by rw [World.cell?_alloc_new]; rfl
  replace z0_0 := up_alloc (o := .cells #[.float .f64 wx, .float .f64 wy] 24) z0_0
  replace z0_0 := up_alloc (o := .cells #[.float .f64 0, .float .f64 0, .float .f64 0, .float .f64 0, .float .f64 0] 28) z0_0
  have z0_1 : (w.alloc (.cells #[.float .f64 fx, .float .f64 fy] 24)).cell? ⟨w.heap.size, 1, none⟩ = some (.float .f64 fy) := by rw [World.cell?_alloc_new]; rfl
  replace z0_1 := up_alloc (o := .cells #[.float .f64 wx, .float .f64 wy] 24) z0_1
  replace z0_1 := up_alloc (o := .cells #[.float .f64 0, .float .f64 0, .float .f64 0, .float .f64 0, .float .f64 0] 28) z0_1
  have z1_0 : ((w.alloc (.cells #[.float .f64 fx, .float .f64 fy] 24)).alloc (.cells #[.float .f64 wx, .float .f64 wy] 24)).cell? ⟨w.heap.size + 1, 0, none⟩ = some (.float .f64 wx) := by rw [← (show (w.alloc (.cells #[.float .f64 fx, .float .f64 fy] 24)).heap.size = w.heap.size + 1 by simp only [World.size_alloc]), World.cell?_alloc_new]; rfl
  replace z1_0 := up_alloc (o := .cells #[.float .f64 0, .float .f64 0, .float .f64 0, .float .f64 0, .float .f64 0] 28) z1_0
  have z1_1 : ((w.alloc (.cells #[.float .f64 fx, .float .f64 fy] 24)).alloc (.cells #[.float .f64 wx, .float .f64 wy] 24)).cell? ⟨w.heap.size + 1, 1, none⟩ = some (.float .f64 wy) := by rw [← (show (w.alloc (.cells #[.float .f64 fx, .float .f64 fy] 24)).heap.size = w.heap.size + 1 by simp only [World.size_alloc]), World.cell?_alloc_new]; rfl
  replace z1_1 := up_alloc (o := .cells #[.float .f64 0, .float .f64 0, .float .f64 0, .float .f64 0, .float .f64 0] 28) z1_1
  have z2_0 : (((w.alloc (.cells #[.float .f64 fx, .float .f64 fy] 24)).alloc (.cells #[.float .f64 wx, .float .f64 wy] 24)).alloc (.cells #[.float .f64 0, .float .f64 0, .float .f64 0, .float .f64 0, .float .f64 0] 28)).cell? ⟨w.heap.size + 1 + 1, 0, none⟩ = some (.float .f64 0) := by rw [← (show ((w.alloc (.cells #[.float .f64 fx, .float .f64 fy] 24)).alloc (.cells #[.float .f64 wx, .float .f64 wy] 24)).heap.size = w.heap.size + 1 + 1 by simp only [World.size_alloc]), World.cell?_alloc_new]; rfl
  have z2_1 : (((w.alloc (.cells #[.float .f64 fx, .float .f64 fy] 24)).alloc (.cells #[.float .f64 wx, .float .f64 wy] 24)).alloc (.cells #[.float .f64 0, .float .f64 0, .float .f64 0, .float .f64 0, .float .f64 0] 28)).cell? ⟨w.heap.size + 1 + 1, 1, none⟩ = some (.float .f64 0) := by rw [← (show ((w.alloc (.cells #[.float .f64 fx, .float .f64 fy] 24)).alloc (.cells #[.float .f64 wx, .float .f64 wy] 24)).heap.size = w.heap.size + 1 + 1 by simp only [World.size_alloc]), World.cell?_alloc_new]; rfl
  have z2_2 : (((w.alloc (.cells #[.float .f64 fx, .float .f64 fy] 24)).alloc (.cells #[.float .f64 wx, .float .f64 wy] 24)).alloc (.cells #[.float .f64 0, .float .f64 0, .float .f64 0, .float .f64 0, .float .f64 0] 28)).cell? ⟨w.heap.size + 1 + 1, 2, none⟩ = some (.float .f64 0) := by rw [← (show ((w.alloc (.cells #[.float .f64 fx, .float .f64 fy] 24)).alloc (.cells #[.float .f64 wx, .float .f64 wy] 24)).heap.size = w.heap.size + 1 + 1 by simp only [World.size_alloc]), World.cell?_alloc_new]; rfl
  have z2_3 : (((w.alloc (.cells #[.float .f64 fx, .float .f64 fy] 24)).alloc (.cells #[.float .f64 wx, .float .f64 wy] 24)).alloc (.cells #[.float .f64 0, .float .f64 0, .float .f64 0, .float .f64 0, .float .f64 0] 28)).cell? ⟨w.heap.size + 1 + 1, 3, none⟩ = some (.float .f64 0) := by rw [← (show ((w.alloc (.cells #[.float .f64 fx, .float .f64 fy] 24)).alloc (.cells #[.float .f64 wx, .float .f64 wy] 24)).heap.size = w.heap.size + 1 + 1 by simp only [World.size_alloc]), World.cell?_alloc_new]; rfl
  have z2_4 : (((w.alloc (.cells #[.float .f64 fx, .float .f64 fy] 24)).alloc (.cells #[.float .f64 wx, .float .f64 wy] 24)).alloc (.cells #[.float .f64 0, .float .f64 0, .float .f64 0, .float .f64 0, .float .f64 0] 28)).cell? ⟨w.heap.size + 1 + 1, 4, none⟩ = some (.float .f64 0) := by rw [← (show ((w.alloc (.cells #[.float .f64 fx, .float .f64 fy] 24)).alloc (.cells #[.float .f64 wx, .float .f64 wy] 24)).heap.size = w.heap.size + 1 + 1 by simp only [World.size_alloc]), World.cell?_alloc_new]; rfl
  have B0 : Bel w (((w.alloc (.cells #[.float .f64 fx, .float .f64 fy] 24)).alloc (.cells #[.float .f64 wx, .float .f64 wy] 24)).alloc (.cells #[.float .f64 0, .float .f64 0, .float .f64 0, .float .f64 0, .float .f64 0] 28)) := bl_alloc (bl_alloc (bl_alloc (bl_refl w) _ _) _ _) _ _
  subst hW
  exact ⟨z0_0, z0_1, z1_0, z1_1, z2_0, z2_1, z2_2, z2_3, z2_4, B0⟩

theorem ckYw1 (w : World) (fx fy wx wy : Nat) {W0 W1 : World} (hb : Bel W0 W1) (h : W0.cell? ⟨w.heap.size, 0, none⟩ = some (.float .f64 fx) ∧ W0.cell? ⟨w.heap.size, 1, none⟩ = some (.float .f64 fy) ∧ W0.cell? ⟨w.heap.size + 1, 0, none⟩ = some (.float .f64 wx) ∧ W0.cell? ⟨w.heap.size + 1, 1, none⟩ = some (.float .f64 wy) ∧ W0.cell? ⟨w.heap.size + 1 + 1, 0, none⟩ = some (.float .f64 0) ∧ W0.cell? ⟨w.heap.size + 1 + 1, 1, none⟩ = some (.float .f64 0) ∧ W0.cell? ⟨w.heap.size + 1 + 1, 2, none⟩ = some (.float .f64 0) ∧ W0.cell? ⟨w.heap.size + 1 + 1, 3, none⟩ = some (.float .f64 0) ∧ W0.cell? ⟨w.heap.size + 1 + 1, 4, none⟩ = some (.float .f64 0)) : W1.cell? ⟨w.heap.size, 0, none⟩ = some (.float .f64 fx) ∧ W1.cell? ⟨w.heap.size, 1, none⟩ = some (.float .f64 fy) ∧ W1.cell? ⟨w.heap.size + 1, 0, none⟩ = some (.float .f64 wx) ∧ W1.cell? ⟨w.heap.size + 1, 1, none⟩ = some (.float .f64 wy) ∧ W1.cell? ⟨w.heap.size + 1 + 1, 0, none⟩ = some (.float .f64 0) ∧ W1.cell? ⟨w.heap.size + 1 + 1, 1, none⟩ = some (.float .f64 0) ∧ W1.cell? ⟨w.heap.size + 1 + 1, 2, none⟩ = some (.float .f64 0) ∧ W1.cell? ⟨w.heap.size + 1 + 1, 3, none⟩ = some (.float .f64 0) ∧ W1.cell? ⟨w.heap.size + 1 + 1, 4, none⟩ = some (.float .f64 0) := ⟨keep hb h.1, keep hb h.2.1, keep hb h.2.2.1, keep hb h.2.2.2.1, keep hb h.2.2.2.2.1, keep hb h.2.2.2.2.2.1, keep hb h.2.2.2.2.2.2.1, keep hb h.2.2.2.2.2.2.2.1, keep hb h.2.2.2.2.2.2.2.2⟩

theorem ltYw2 {w W : World} {o0 o1 o2 : Obj} (h : Bel (((w.alloc o0).alloc o1).alloc o2) W) : w.heap.size < W.heap.size ∧ w.heap.size + 1 < W.heap.size ∧ w.heap.size + 1 + 1 < W.heap.size := by
  have hz := h.size
  simp only [World.size_alloc] at hz
  refine ⟨?_, ?_, ?_⟩ <;> omega

theorem gwYw3 (w : World) (fx fy wx wy : Nat) {W0 W1 : World} (hb : Bel W0 W1) (h : Bel (((w.alloc (.cells #[.float .f64 fx, .float .f64 fy] 24)).alloc (.cells #[.float .f64 wx, .float .f64 wy] 24)).alloc (.cells #[.float .f64 0, .float .f64 0, .float .f64 0, .float .f64 0, .float .f64 0] 28)) W0) : Bel (((w.alloc (.cells #[.float .f64 fx, .float .f64 fy] 24)).alloc (.cells #[.float .f64 wx, .float .f64 wy] 24)).alloc (.cells #[.float .f64 0, .float .f64 0, .float .f64 0, .float .f64 0, .float .f64 0] 28)) W1 := bl_trans h hb

theorem fzYw4 (w : World) (fx fy wx wy : Nat) : ∀ o, (((w.alloc (.cells #[.float .f64 fx, .float .f64 fy] 24)).alloc (.cells #[.float .f64 wx, .float .f64 wy] 24)).alloc (.cells #[.float .f64 0, .float .f64 0, .float .f64 0, .float .f64 0, .float .f64 0] 28)).frozen? ⟨w.heap.size + 1 + 1, o, none⟩ = false := fun o => ((show Bel ((w.alloc (.cells #[.float .f64 fx, .float .f64 fy] 24)).alloc (.cells #[.float .f64 wx, .float .f64 wy] 24)) (((w.alloc (.cells #[.float .f64 fx, .float .f64 fy] 24)).alloc (.cells #[.float .f64 wx, .float .f64 wy] 24)).alloc (.cells #[.float .f64 0, .float .f64 0, .float .f64 0, .float .f64 0, .float .f64 0] 28)) by repeat (first | exact bl_refl _ | apply bl_alloc)).2 _).trans (fresh_frozen (by simp only [World.size_alloc]; exact Nat.le_refl _))

set_option maxRecDepth 100000 in
theorem rpolygon_res (tmps : Array Value) (Z : World) (r hx hy nx ny ht : Nat) (bb : Bool) (er : Int) (h4 : tmps[6]?.getD undef = .pointer (some ⟨r, 0, none⟩)) (h5 : tmps[7]?.getD undef = .bool bb) (h6 : tmps[8]?.getD undef = .int .i64 er) (c0 : Z.cell? ⟨r, 0, none⟩ = some (.float .f64 hx)) (c1 : Z.cell? ⟨r, 1, none⟩ = some (.float .f64 hy)) (c2 : Z.cell? ⟨r, 2, none⟩ = some (.float .f64 nx)) (c3 : Z.cell? ⟨r, 3, none⟩ = some (.float .f64 ny)) (c4 : Z.cell? ⟨r, 4, none⟩ = some (.float .f64 ht)) :
    (results Tryz.f12 tmps).run Tryz.prog Z = .ok (.tuple #[.agg #[.float .f64 hx, .float .f64 hy, .float .f64 nx, .float .f64 ny, .float .f64 ht], .bool bb, .int .i64 er]) Z := by
  simp [results, Tryz.results12, h4, h5, h6, c0, c1, c2, c3, c4, go_sem]
  first | done | rfl | exact ⟨rfl, rfl⟩

theorem own_nrm {base : Nat} {w : World} {v : Value} {n : Nat} {xs ys : Nat → Nat} (h : Own base w v (lst xs ys n)) (hn : 0 < n) : ∃ g c, v = .slice (some ⟨g, 0, none⟩) n c ∧ base ≤ g ∧ n ≤ c ∧ Sl w g 0 n xs ys := by
  obtain ⟨g, c, e, h1, h2, _, h4, _⟩ := h.get (by rw [lst_len]; exact hn)
  rw [lst_len] at e h2 h4
  refine ⟨g, c, e, h1, h2, fun i hi => ?_⟩
  have := h4 i hi
  rw [lst_x xs ys n i hi, lst_y xs ys n i hi] at this
  exact this
theorem pg_none {xs ys : Nat → Nat} {n : Nat} {F Y : Vp} (h : etS xs ys n F Y n = none) : pgR xs ys n false F Y = (false, zeH) := by
  unfold pgR enR
  rw [h]
  rfl
theorem pg_no {xs ys : Nat → Nat} {n : Nat} {F Y : Vp} {s : Et} (h : etS xs ys n F Y n = some s) (hB : etB s = false) : pgR xs ys n false F Y = (false, zeH) := by
  unfold pgR enR
  rw [h]
  simp only []
  rw [hB]
  rfl
theorem pg_yes {xs ys : Nat → Nat} {n : Nat} {F Y : Vp} {s : Et} (h : etS xs ys n F Y n = some s) (hB : etB s = true) : pgR xs ys n false F Y = (true, (moF F s.2.1.2.2 Y, s.2.1.2.1, s.2.1.2.2)) := by
  unfold pgR enR
  rw [h]
  simp only []
  rw [hB]
  rfl
theorem rl_none {xs ys : Nat → Nat} {n k : Nat} {F Y : Vp} (h : ∀ i, i < n → nanK .f64 (etG xs ys n Y i) = false ∧ (ltK .f64 (etG xs ys n Y i) 0 = true ∨ ltK .f64 0 (etG xs ys n Y i) = true → nanK .f64 (etT xs ys n F Y i) = false)) (hk : k < n) (hr : rlS xs ys n F Y (k + 1) = none) : etS xs ys n F Y n = none := by
  rcases rl_all h (k + 1) (by omega) with ⟨h1, _⟩ | ⟨s, r, _, h2, _⟩
  · have := et_none h1 (n - (k + 1))
    rwa [show k + 1 + (n - (k + 1)) = n by omega] at this
  · rw [hr] at h2; cases h2
theorem tri_n {G : Nat} (h : nanK .f64 G = false) : (ltK .f64 G 0 = true ∧ ltK .f64 0 G = false ∧ eqK .f64 G 0 = false) ∨ (ltK .f64 G 0 = false ∧ ltK .f64 0 G = true ∧ eqK .f64 G 0 = false) ∨ (ltK .f64 G 0 = false ∧ ltK .f64 0 G = false ∧ eqK .f64 G 0 = true) := by
  have n0 : nanK .f64 0 = false := by decide +kernel
  rw [eq_nn h n0]
  unfold ltK
  rw [h, n0]
  simp only [Bool.not_false, Bool.true_and, decide_eq_true_eq, decide_eq_false_iff_not]
  omega
set_option maxRecDepth 100000 in
theorem rpolygon_e1 (Va : Value) {n fx fy wx wy : Nat} {xs ys : Nat → Nat} {F Y : Vp} (w : World) (hA : AnyS w Va n xs ys) (hf : isP fx fy F) (hw : isP wx wy Y) (hz : chkE xs ys n ≠ 0) : Calls Tryz.prog 12 #[Va, .agg #[.float .f64 fx, .float .f64 fy], .agg #[.float .f64 wx, .float .f64 wy]] w fun e w' => ∃ hx9 hy9 nx9 ny9 ht9 : Nat, isH hx9 hy9 nx9 ny9 ht9 (((false, zeH)).2) ∧ e = .returned (.tuple #[.agg #[.float .f64 hx9, .float .f64 hy9, .float .f64 nx9, .float .f64 ny9, .float .f64 ht9], .bool ((false, zeH)).1, .int .i64 (chkE xs ys n)]) ∧ Bel w w' := by
  obtain ⟨z0_0, z0_1, z1_0, z1_1, z2_0, z2_1, z2_2, z2_3, z2_4, B0⟩ := bxYw0 w fx fy wx wy _ rfl
  have fR := fzYw4 w fx fy wx wy
  go_enter Tryz.func12, Tryz.ntmps12
  go_wp2_with (first | (go_at_call 48; (with_reducible refine (rnormals_no _ n xs ys _ (hA.bel B0) hz).mono ?_); rintro e w1 ⟨rfl, hb⟩; have hq := ckYw1 w fx fy wx wy hb (by refine ⟨?_, ?_, ?_, ?_, ?_, ?_, ?_, ?_, ?_⟩ <;> first | assumption | go_keep); clear z0_0 z0_1 z1_0 z1_1 z2_0 z2_1 z2_2 z2_3 z2_4; obtain ⟨z0_0, z0_1, z1_0, z1_1, z2_0, z2_1, z2_2, z2_3, z2_4⟩ := hq; have BF := hb; clear hb; obtain ⟨l0, l1, l2⟩ := ltYw2 BF; have fE : ∀ o, w1.frozen? ⟨w.heap.size + 1 + 1, o, none⟩ = false := fun o => (BF.2 _).trans (fR o)))
  refine fin5 (G := bodyPost _ _ _ _ _) (by repeat (first | (with_reducible exact z2_0) | (with_reducible refine up_drewN ?_) | (with_reducible refine up_alloc ?_))) (by repeat (first | (with_reducible exact z2_1) | (with_reducible refine up_drewN ?_) | (with_reducible refine up_alloc ?_))) (by repeat (first | (with_reducible exact z2_2) | (with_reducible refine up_drewN ?_) | (with_reducible refine up_alloc ?_))) (by repeat (first | (with_reducible exact z2_3) | (with_reducible refine up_drewN ?_) | (with_reducible refine up_alloc ?_))) (by repeat (first | (with_reducible exact z2_4) | (with_reducible refine up_drewN ?_) | (with_reducible refine up_alloc ?_))) (by have B := (bl_trans B0 BF); repeat (first | (with_reducible exact B) | (with_reducible refine bl_drewN ?_ _) | (with_reducible refine bl_alloc ?_ _ _))) (by omega) fun X r0 r1 r2 r3 r4 bX => ?_
  refine bodyPost_ret (rpolygon_res _ _ _ _ _ _ _ _ _ _ rfl rfl rfl r0 r1 r2 r3 r4) rfl ⟨_, _, _, _, _, ?_, rfl, bX⟩
  exact zeH_is

set_option maxRecDepth 100000 in
theorem rpolygon_e2 (Va : Value) {n fx fy wx wy : Nat} {xs ys : Nat → Nat} {F Y : Vp} (w : World) (hA : AnyS w Va n xs ys) (hf : isP fx fy F) (hw : isP wx wy Y) (hz : Hid (chkE xs ys n = 0)) (he : ryE F Y ≠ 0) : Calls Tryz.prog 12 #[Va, .agg #[.float .f64 fx, .float .f64 fy], .agg #[.float .f64 wx, .float .f64 wy]] w fun e w' => ∃ hx9 hy9 nx9 ny9 ht9 : Nat, isH hx9 hy9 nx9 ny9 ht9 (((false, zeH)).2) ∧ e = .returned (.tuple #[.agg #[.float .f64 hx9, .float .f64 hy9, .float .f64 nx9, .float .f64 ny9, .float .f64 ht9], .bool ((false, zeH)).1, .int .i64 (ryE F Y)]) ∧ Bel w w' := by
  obtain ⟨z0_0, z0_1, z1_0, z1_1, z2_0, z2_1, z2_2, z2_3, z2_4, B0⟩ := bxYw0 w fx fy wx wy _ rfl
  have fR := fzYw4 w fx fy wx wy
  go_enter Tryz.func12, Tryz.ntmps12
  go_wp2_with (first | (go_at_call 48; (with_reducible refine (rnormals_yes _ n xs ys _ (hA.bel B0) hz.out).mono ?_); rintro e w1 ⟨vN, rfl, hO, hb⟩; have hq := ckYw1 w fx fy wx wy hb (by refine ⟨?_, ?_, ?_, ?_, ?_, ?_, ?_, ?_, ?_⟩ <;> first | assumption | go_keep); clear z0_0 z0_1 z1_0 z1_1 z2_0 z2_1 z2_2 z2_3 z2_4; obtain ⟨z0_0, z0_1, z1_0, z1_1, z2_0, z2_1, z2_2, z2_3, z2_4⟩ := hq; have BF := hb; clear hb; obtain ⟨l0, l1, l2⟩ := ltYw2 BF; have fE : ∀ o, w1.frozen? ⟨w.heap.size + 1 + 1, o, none⟩ = false := fun o => (BF.2 _).trans (fR o)) | (go_at_call 29; (with_reducible refine (rray_n _ hf hw).mono ?_); rintro e w2 ⟨rfl, hb⟩; replace hO := hO.bel hb; have hq := ckYw1 w fx fy wx wy hb (by refine ⟨?_, ?_, ?_, ?_, ?_, ?_, ?_, ?_, ?_⟩ <;> first | assumption | go_keep); clear z0_0 z0_1 z1_0 z1_1 z2_0 z2_1 z2_2 z2_3 z2_4; obtain ⟨z0_0, z0_1, z1_0, z1_1, z2_0, z2_1, z2_2, z2_3, z2_4⟩ := hq; replace BF := gwYw3 w fx fy wx wy hb (by repeat (first | exact BF | apply bl_alloc | apply bl_drewN)); clear hb; obtain ⟨l0, l1, l2⟩ := ltYw2 BF; have fE : ∀ o, w2.frozen? ⟨w.heap.size + 1 + 1, o, none⟩ = false := fun o => (BF.2 _).trans (fR o)))
  refine fin5 (G := bodyPost _ _ _ _ _) (by repeat (first | (with_reducible exact z2_0) | (with_reducible refine up_drewN ?_) | (with_reducible refine up_alloc ?_))) (by repeat (first | (with_reducible exact z2_1) | (with_reducible refine up_drewN ?_) | (with_reducible refine up_alloc ?_))) (by repeat (first | (with_reducible exact z2_2) | (with_reducible refine up_drewN ?_) | (with_reducible refine up_alloc ?_))) (by repeat (first | (with_reducible exact z2_3) | (with_reducible refine up_drewN ?_) | (with_reducible refine up_alloc ?_))) (by repeat (first | (with_reducible exact z2_4) | (with_reducible refine up_drewN ?_) | (with_reducible refine up_alloc ?_))) (by have B := (bl_trans B0 BF); repeat (first | (with_reducible exact B) | (with_reducible refine bl_drewN ?_ _) | (with_reducible refine bl_alloc ?_ _ _))) (by omega) fun X r0 r1 r2 r3 r4 bX => ?_
  refine bodyPost_ret (rpolygon_res _ _ _ _ _ _ _ _ _ _ rfl rfl rfl r0 r1 r2 r3 r4) rfl ⟨_, _, _, _, _, ?_, rfl, bX⟩
  exact zeH_is

set_option maxRecDepth 100000 in
theorem rpolygon_in (Va : Value) {n fx fy wx wy : Nat} {xs ys : Nat → Nat} {F Y : Vp} (w : World) (hA : AnyS w Va n xs ys) (hf : isP fx fy F) (hw : isP wx wy Y) (hz : Hid (chkE xs ys n = 0)) (he : ryE F Y = 0) (qh : hasV xs ys n fx fy = true) : Calls Tryz.prog 12 #[Va, .agg #[.float .f64 fx, .float .f64 fy], .agg #[.float .f64 wx, .float .f64 wy]] w fun e w' => ∃ hx9 hy9 nx9 ny9 ht9 : Nat, isH hx9 hy9 nx9 ny9 ht9 (((true, onH F)).2) ∧ e = .returned (.tuple #[.agg #[.float .f64 hx9, .float .f64 hy9, .float .f64 nx9, .float .f64 ny9, .float .f64 ht9], .bool ((true, onH F)).1, .int .i64 (0)]) ∧ Bel w w' := by
  have of1 := hf.1
  have of2 := hf.2.1
  obtain ⟨z0_0, z0_1, z1_0, z1_1, z2_0, z2_1, z2_2, z2_3, z2_4, B0⟩ := bxYw0 w fx fy wx wy _ rfl
  have fR := fzYw4 w fx fy wx wy
  go_enter Tryz.func12, Tryz.ntmps12
  go_wp2_with (first | (go_at_call 48; (with_reducible refine (rnormals_yes _ n xs ys _ (hA.bel B0) hz.out).mono ?_); rintro e w1 ⟨vN, rfl, hO, hb⟩; have hq := ckYw1 w fx fy wx wy hb (by refine ⟨?_, ?_, ?_, ?_, ?_, ?_, ?_, ?_, ?_⟩ <;> first | assumption | go_keep); clear z0_0 z0_1 z1_0 z1_1 z2_0 z2_1 z2_2 z2_3 z2_4; obtain ⟨z0_0, z0_1, z1_0, z1_1, z2_0, z2_1, z2_2, z2_3, z2_4⟩ := hq; have BF := hb; clear hb; obtain ⟨l0, l1, l2⟩ := ltYw2 BF; have fE : ∀ o, w1.frozen? ⟨w.heap.size + 1 + 1, o, none⟩ = false := fun o => (BF.2 _).trans (fR o)) | (go_at_call 29; (with_reducible refine (rray_n _ hf hw).mono ?_); rintro e w2 ⟨rfl, hb⟩; replace hO := hO.bel hb; have hq := ckYw1 w fx fy wx wy hb (by refine ⟨?_, ?_, ?_, ?_, ?_, ?_, ?_, ?_, ?_⟩ <;> first | assumption | go_keep); clear z0_0 z0_1 z1_0 z1_1 z2_0 z2_1 z2_2 z2_3 z2_4; obtain ⟨z0_0, z0_1, z1_0, z1_1, z2_0, z2_1, z2_2, z2_3, z2_4⟩ := hq; replace BF := gwYw3 w fx fy wx wy hb (by repeat (first | exact BF | apply bl_alloc | apply bl_drewN)); clear hb; obtain ⟨l0, l1, l2⟩ := ltYw2 BF; have fE : ∀ o, w2.frozen? ⟨w.heap.size + 1 + 1, o, none⟩ = false := fun o => (BF.2 _).trans (fR o)) | (go_at_call 49; (with_reducible refine (rhas_all _ n xs ys _ (hA.bel (bl_trans B0 BF)) fx fy of1 of2).mono ?_); rintro e w3 ⟨rfl, hb⟩; rw [qh]; replace hO := hO.bel hb; have hq := ckYw1 w fx fy wx wy hb (by refine ⟨?_, ?_, ?_, ?_, ?_, ?_, ?_, ?_, ?_⟩ <;> first | assumption | go_keep); clear z0_0 z0_1 z1_0 z1_1 z2_0 z2_1 z2_2 z2_3 z2_4; obtain ⟨z0_0, z0_1, z1_0, z1_1, z2_0, z2_1, z2_2, z2_3, z2_4⟩ := hq; replace BF := gwYw3 w fx fy wx wy hb (by repeat (first | exact BF | apply bl_alloc | apply bl_drewN)); clear hb; obtain ⟨l0, l1, l2⟩ := ltYw2 BF; have fE : ∀ o, w3.frozen? ⟨w.heap.size + 1 + 1, o, none⟩ = false := fun o => (BF.2 _).trans (fR o)) | (go_at_call 33; (with_reducible refine (begun_n _).mono ?_); rintro e w4 ⟨rfl, hb⟩; have hq := ckYw1 w fx fy wx wy hb (by refine ⟨?_, ?_, ?_, ?_, ?_, ?_, ?_, ?_, ?_⟩ <;> first | assumption | go_keep); clear z0_0 z0_1 z1_0 z1_1 z2_0 z2_1 z2_2 z2_3 z2_4; obtain ⟨z0_0, z0_1, z1_0, z1_1, z2_0, z2_1, z2_2, z2_3, z2_4⟩ := hq; replace BF := gwYw3 w fx fy wx wy hb (by repeat (first | exact BF | apply bl_alloc | apply bl_drewN)); clear hb; obtain ⟨l0, l1, l2⟩ := ltYw2 BF; have fE : ∀ o, w4.frozen? ⟨w.heap.size + 1 + 1, o, none⟩ = false := fun o => (BF.2 _).trans (fR o)))
  refine fin5 (G := bodyPost _ _ _ _ _) (by repeat (first | (with_reducible exact z2_0) | (with_reducible refine up_drewN ?_) | (with_reducible refine up_alloc ?_))) (by repeat (first | (with_reducible exact z2_1) | (with_reducible refine up_drewN ?_) | (with_reducible refine up_alloc ?_))) (by repeat (first | (with_reducible exact z2_2) | (with_reducible refine up_drewN ?_) | (with_reducible refine up_alloc ?_))) (by repeat (first | (with_reducible exact z2_3) | (with_reducible refine up_drewN ?_) | (with_reducible refine up_alloc ?_))) (by repeat (first | (with_reducible exact z2_4) | (with_reducible refine up_drewN ?_) | (with_reducible refine up_alloc ?_))) (by have B := (bl_trans B0 BF); repeat (first | (with_reducible exact B) | (with_reducible refine bl_drewN ?_ _) | (with_reducible refine bl_alloc ?_ _ _))) (by omega) fun X r0 r1 r2 r3 r4 bX => ?_
  refine bodyPost_ret (rpolygon_res _ _ _ _ _ _ _ _ _ _ rfl rfl rfl r0 r1 r2 r3 r4) rfl ⟨_, _, _, _, _, ?_, rfl, bX⟩
  exact onH_is hf

set_option maxRecDepth 100000 in
set_option maxHeartbeats 8000000 in
theorem rpolygon_go (Va : Value) {n fx fy wx wy : Nat} {xs ys : Nat → Nat} {F Y : Vp} (w : World) (hA : AnyS w Va n xs ys) (hf : isP fx fy F) (hw : isP wx wy Y) (hz : Hid (chkE xs ys n = 0)) (he : Hid (ryE F Y = 0)) (qh : hasV xs ys n fx fy = false) : Calls Tryz.prog 12 #[Va, .agg #[.float .f64 fx, .float .f64 fy], .agg #[.float .f64 wx, .float .f64 wy]] w fun e w' => ∃ hx9 hy9 nx9 ny9 ht9 : Nat, isH hx9 hy9 nx9 ny9 ht9 ((pgR xs ys n false F Y).2) ∧ e = .returned (.tuple #[.agg #[.float .f64 hx9, .float .f64 hy9, .float .f64 nx9, .float .f64 ny9, .float .f64 ht9], .bool (pgR xs ys n false F Y).1, .int .i64 (0)]) ∧ Bel w w' := by
  have of1 := hf.1
  have of2 := hf.2.1
  have c1 := cmp_lt .f64
  have c2 := cmp_gt .f64
  have c5 := cmp_eq .f64
  have d3 := run_quo Tryz.prog
  have d4 := run_neg Tryz.prog
  obtain ⟨av, cap, rfl, hcap, hml, _, oA, zA⟩ := id hA
  obtain ⟨gd, h3, h64, hout⟩ := chk_ok oA hz.out
  obtain ⟨hp, b, off, rfl, sA⟩ : 0 < n ∧ ∃ b off, av = some ⟨b, off, none⟩ ∧ Sl w b off n xs ys := by
    rcases zA with e | ⟨e, b, off, e1, e2⟩
    · omega
    · exact ⟨e, b, off, e1, e2⟩
  have hnm2 := et_nums oA hz.out hf hw he.out
  obtain ⟨z0_0, z0_1, z1_0, z1_1, z2_0, z2_1, z2_2, z2_3, z2_4, B0⟩ := bxYw0 w fx fy wx wy _ rfl
  have fR := fzYw4 w fx fy wx wy
  go_enter Tryz.func12, Tryz.ntmps12
  go_upto_region 13 with (first | (go_at_call 48; (with_reducible refine (rnormals_yes _ n xs ys _ (hA.bel B0) hz.out).mono ?_); rintro e w1 ⟨vN, rfl, hO, hb⟩; have hq := ckYw1 w fx fy wx wy hb (by refine ⟨?_, ?_, ?_, ?_, ?_, ?_, ?_, ?_, ?_⟩ <;> first | assumption | go_keep); clear z0_0 z0_1 z1_0 z1_1 z2_0 z2_1 z2_2 z2_3 z2_4; obtain ⟨z0_0, z0_1, z1_0, z1_1, z2_0, z2_1, z2_2, z2_3, z2_4⟩ := hq; have BF := hb; clear hb; obtain ⟨l0, l1, l2⟩ := ltYw2 BF; have fE : ∀ o, w1.frozen? ⟨w.heap.size + 1 + 1, o, none⟩ = false := fun o => (BF.2 _).trans (fR o)) | (go_at_call 29; (with_reducible refine (rray_n _ hf hw).mono ?_); rintro e w2 ⟨rfl, hb⟩; rw [he.out]; replace hO := hO.bel hb; have hq := ckYw1 w fx fy wx wy hb (by refine ⟨?_, ?_, ?_, ?_, ?_, ?_, ?_, ?_, ?_⟩ <;> first | assumption | go_keep); clear z0_0 z0_1 z1_0 z1_1 z2_0 z2_1 z2_2 z2_3 z2_4; obtain ⟨z0_0, z0_1, z1_0, z1_1, z2_0, z2_1, z2_2, z2_3, z2_4⟩ := hq; replace BF := gwYw3 w fx fy wx wy hb (by repeat (first | exact BF | apply bl_alloc | apply bl_drewN)); clear hb; obtain ⟨l0, l1, l2⟩ := ltYw2 BF; have fE : ∀ o, w2.frozen? ⟨w.heap.size + 1 + 1, o, none⟩ = false := fun o => (BF.2 _).trans (fR o)) | (go_at_call 49; (with_reducible refine (rhas_all _ n xs ys _ (hA.bel (bl_trans B0 BF)) fx fy of1 of2).mono ?_); rintro e w3 ⟨rfl, hb⟩; rw [qh]; replace hO := hO.bel hb; have hq := ckYw1 w fx fy wx wy hb (by refine ⟨?_, ?_, ?_, ?_, ?_, ?_, ?_, ?_, ?_⟩ <;> first | assumption | go_keep); clear z0_0 z0_1 z1_0 z1_1 z2_0 z2_1 z2_2 z2_3 z2_4; obtain ⟨z0_0, z0_1, z1_0, z1_1, z2_0, z2_1, z2_2, z2_3, z2_4⟩ := hq; replace BF := gwYw3 w fx fy wx wy hb (by repeat (first | exact BF | apply bl_alloc | apply bl_drewN)); clear hb; obtain ⟨l0, l1, l2⟩ := ltYw2 BF; have fE : ∀ o, w3.frozen? ⟨w.heap.size + 1 + 1, o, none⟩ = false := fun o => (BF.2 _).trans (fR o)) | (go_at_call 50; (with_reducible refine (inf12 _).mono ?_); rintro e w' ⟨rfl, hW⟩; rw [hW]; clear hW))
  obtain ⟨gN, cN, hvN, hgN, hcN, hN⟩ := own_nrm hO hp
  subst hvN
  have sA3 := sA.bel (bl_trans B0 BF)
  have fE3 := fE
  clear fE hO
  go_wp2
  go_loopg [13, 14, 15, 16] n (fun kx s13 s14 s15 s16 wr => ∃ (k : Nat) (r : Rl) (tw xw : Nat), s16 = .int .i64 k ∧ s13 = .int .i64 r.1 ∧ s14 = .float .f64 tw ∧ s15 = .float .f64 xw ∧ k ≤ n ∧ n - k ≤ kx ∧ r.1 < 9000 ∧ isF tw r.2.1 ∧ isF xw r.2.2 ∧ Hid (rlS xs ys n F Y k = some r) ∧ Bel w3 wr)
  case atStart => exact ⟨0, (-1, 0, 9218868437227405312), 0, 9218868437227405312, rfl, rfl, rfl, rfl, by omega, by omega, by decide, isF_zero, inf_is, hide rfl, bl_refl _⟩
  case round =>
    obtain ⟨k, ⟨r1, rt, rx⟩, tw, xw, rfl, rfl, rfl, rfl, hkn, hkx, hr9, ht, hx, HS, hBr⟩ := hrel
    simp only at hr9 ht hx
    by_cases hlt : k < n
    · have hltz : (k : Int) < (n : Int) := by omega
      have hwk : IntKind.wrap .i64 ((k : Int) + 1) = (k : Int) + 1 := by rw [IntKind.wrap_i64]; omega
      obtain ⟨bn1, bn2⟩ := nm_bd oA hz.out hlt
      have hnm : isP (nX xs ys n k) (nY xs ys n k) (nmP xs ys n k) := isP_self bn1.1 bn2.1
      have hpk : isP (xs k) (ys k) (sdA xs ys k) := isP_self (oA k hlt).1 (oA k hlt).2
      clear bn1 bn2
      obtain ⟨c0, c1'⟩ := (hN.bel hBr) k hlt
      have c1 := c1'
      clear c1'
      simp only [Nat.zero_add] at c0 c1
      obtain ⟨l0, l1⟩ := (sA3.bel hBr) k hlt
      replace z0_0 := keep hBr z0_0; replace z0_1 := keep hBr z0_1; replace z1_0 := keep hBr z1_0; replace z1_1 := keep hBr z1_1; replace z2_0 := keep hBr z2_0; replace z2_1 := keep hBr z2_1; replace z2_2 := keep hBr z2_2; replace z2_3 := keep hBr z2_3; replace z2_4 := keep hBr z2_4
      obtain ⟨wo, hwo⟩ : ∃ X, X = wr := ⟨_, rfl⟩
      subst hwo
      go_wp2
      refine wp_region_mono 7 rfl (fun i W v => match i with | 0 => v = .slice (some ⟨gN, 0, none⟩) n cN | 1 => v = .int .i64 (k : Int) | 2 => v = .pointer (some ⟨gN, k * 2, none⟩) | 3 => v = .agg #[.float .f64 (nX xs ys n k), .float .f64 (nY xs ys n k)] | 4 => v = .agg #[.float .f64 wx, .float .f64 wy] | 5 => ∃ p, isF p (etG xs ys n Y k) ∧ v = .float .f64 p | 6 => ∃ p, isF p (etG xs ys n Y k) ∧ v = .float .f64 p | _ => False) ?A_wm (by kernel_rfl) (by kernel_rfl) ?hA_wm ?hmo_wm ?hq_wm ?ht_wm
      case hA_wm =>
        intro s
        simp only [putL, dstO, Act.put, List.getElem?_toArray, List.getElem?_cons_zero, List.getElem?_cons_succ, Option.bind_some, List.setIfInBounds_toArray, List.set_cons_zero, List.set_cons_succ, if_true]
        all_goals exact rfl
      case hmo_wm =>
        intro i W W' v hi hb h
        rcases (show i = 0 ∨ i = 1 ∨ i = 2 ∨ i = 3 ∨ i = 4 ∨ i = 5 ∨ i = 6 by omega) with rfl | rfl | rfl | rfl | rfl | rfl | rfl
        all_goals first | exact h
      case hq_wm =>
        intro i o hi ho s W hs hb K hK
        have uz0_0 := keep hb z0_0; have uz0_1 := keep hb z0_1; have uz1_0 := keep hb z1_0; have uz1_1 := keep hb z1_1; have uc0 := keep hb c0; have uc1 := keep hb c1; have ul0 := keep hb l0; have ul1 := keep hb l1; have lu := World.block_lt_of_cell? _ _ uc0; have lv := World.block_lt_of_cell? _ _ ul0; simp only at lu lv
        rcases (show i = 0 ∨ i = 1 ∨ i = 2 ∨ i = 3 ∨ i = 4 ∨ i = 5 ∨ i = 6 by omega) with rfl | rfl | rfl | rfl | rfl | rfl | rfl
        rotate_left 2
        cases ho
        have e0 : s 0 = _ := hs 0 (by decide) (by kernel_rfl)
        have e1 : s 1 = _ := hs 1 (by decide) (by kernel_rfl)
        simp only [e0, e1] at hK ⊢
        rotate_left 1
        cases ho
        have e2 : s 2 = _ := hs 2 (by decide) (by kernel_rfl)
        simp only [e2] at hK ⊢
        rotate_left 2
        cases ho
        have e3 : s 3 = _ := hs 3 (by decide) (by kernel_rfl)
        have e4 : s 4 = _ := hs 4 (by decide) (by kernel_rfl)
        simp only [e3, e4] at hK ⊢
        rotate_left 1
        cases ho
        obtain ⟨p, h5, e5⟩ := hs 5 (by decide) (by kernel_rfl)
        simp only [e5] at hK ⊢
        rotate_left 1
        all_goals
          try cases ho
          simp only [Act.put, List.setIfInBounds_toArray, List.set_cons_zero, List.set_cons_succ] at hK
          clear hs
          go_simp
          all_goals (try go_wp2_with (first | (go_at_call 32; first | ((with_reducible refine (rDot_n _ hnm hw).mono ?_); rintro e w' ⟨p, h5, rfl, hb1⟩) | ((with_reducible refine (rDot_n _ hnm h9).mono ?_); rintro e w' ⟨p, h5, rfl, hb1⟩))))
          all_goals first | exact hK.out _ _ ⟨_, h5, rfl⟩ hb1 | exact hK.out _ _ ⟨_, h5, rfl⟩ (bl_refl _) | exact hK.out _ _ rfl (bl_refl _) | exact hK.out _ _ rfl (by assumption) | exact hK.out _ _ (by assumption) (by assumption)
      case ht_wm =>
        intro s w6 hs hb
        have e0 : s 0 = _ := hs 0 (by decide)
        have e1 : s 1 = _ := hs 1 (by decide)
        have e2 : s 2 = _ := hs 2 (by decide)
        have e3 : s 3 = _ := hs 3 (by decide)
        have e4 : s 4 = _ := hs 4 (by decide)
        obtain ⟨_, _, e5⟩ := hs 5 (by decide)
        obtain ⟨g0, hg0, e6⟩ := hs 6 (by decide)
        simp only [e0, e1, e2, e3, e4, e5, e6]
        clear hs e0 e1 e2 e3 e4 e5 e6
        replace z0_0 := keep hb z0_0; replace z0_1 := keep hb z0_1; replace z1_0 := keep hb z1_0; replace z1_1 := keep hb z1_1; replace z2_0 := keep hb z2_0; replace z2_1 := keep hb z2_1; replace z2_2 := keep hb z2_2; replace z2_3 := keep hb z2_3; replace z2_4 := keep hb z2_4; replace c0 := keep hb c0; replace c1 := keep hb c1; replace l0 := keep hb l0; replace l1 := keep hb l1; replace hBr := bl_trans hBr hb; clear hb
        go_wp2
        refine wp_region_mono 12 rfl (fun i W v => match i with | 0 => v = .slice (some ⟨gN, 0, none⟩) n cN | 1 => v = .int .i64 (k : Int) | 2 => v = .pointer (some ⟨gN, k * 2, none⟩) | 3 => v = .agg #[.float .f64 (nX xs ys n k), .float .f64 (nY xs ys n k)] | 4 => v = .agg #[.float .f64 fx, .float .f64 fy] | 5 => v = .slice (some ⟨b, off, none⟩) n cap | 6 => v = .int .i64 (k : Int) | 7 => v = .pointer (some ⟨b, off + k * 2, none⟩) | 8 => v = .agg #[.float .f64 (xs k), .float .f64 (ys k)] | 9 => ∃ x y, isP x y (suF F (sdA xs ys k)) ∧ v = .agg #[.float .f64 x, .float .f64 y] | 10 => ∃ p, isF p (etF xs ys n F k) ∧ v = .float .f64 p | 11 => ∃ p, isF p (etF xs ys n F k) ∧ v = .float .f64 p | _ => False) ?A_wn (by kernel_rfl) (by kernel_rfl) ?hA_wn ?hmo_wn ?hq_wn ?ht_wn
        case hA_wn =>
          intro s
          simp only [putL, dstO, Act.put, List.getElem?_toArray, List.getElem?_cons_zero, List.getElem?_cons_succ, Option.bind_some, List.setIfInBounds_toArray, List.set_cons_zero, List.set_cons_succ, if_true]
          all_goals exact rfl
        case hmo_wn =>
          intro i W W' v hi hb h
          rcases (show i = 0 ∨ i = 1 ∨ i = 2 ∨ i = 3 ∨ i = 4 ∨ i = 5 ∨ i = 6 ∨ i = 7 ∨ i = 8 ∨ i = 9 ∨ i = 10 ∨ i = 11 by omega) with rfl | rfl | rfl | rfl | rfl | rfl | rfl | rfl | rfl | rfl | rfl | rfl
          all_goals first | exact h
        case hq_wn =>
          intro i o hi ho s W hs hb K hK
          have uz0_0 := keep hb z0_0; have uz0_1 := keep hb z0_1; have uz1_0 := keep hb z1_0; have uz1_1 := keep hb z1_1; have uc0 := keep hb c0; have uc1 := keep hb c1; have ul0 := keep hb l0; have ul1 := keep hb l1; have lu := World.block_lt_of_cell? _ _ uc0; have lv := World.block_lt_of_cell? _ _ ul0; simp only at lu lv
          rcases (show i = 0 ∨ i = 1 ∨ i = 2 ∨ i = 3 ∨ i = 4 ∨ i = 5 ∨ i = 6 ∨ i = 7 ∨ i = 8 ∨ i = 9 ∨ i = 10 ∨ i = 11 by omega) with rfl | rfl | rfl | rfl | rfl | rfl | rfl | rfl | rfl | rfl | rfl | rfl
          rotate_left 2
          cases ho
          have e0 : s 0 = _ := hs 0 (by decide) (by kernel_rfl)
          have e1 : s 1 = _ := hs 1 (by decide) (by kernel_rfl)
          simp only [e0, e1] at hK ⊢
          rotate_left 1
          cases ho
          have e2 : s 2 = _ := hs 2 (by decide) (by kernel_rfl)
          simp only [e2] at hK ⊢
          rotate_left 4
          cases ho
          have e5 : s 5 = _ := hs 5 (by decide) (by kernel_rfl)
          have e6 : s 6 = _ := hs 6 (by decide) (by kernel_rfl)
          simp only [e5, e6] at hK ⊢
          rotate_left 1
          cases ho
          have e7 : s 7 = _ := hs 7 (by decide) (by kernel_rfl)
          simp only [e7] at hK ⊢
          rotate_left 1
          cases ho
          have e4 : s 4 = _ := hs 4 (by decide) (by kernel_rfl)
          have e8 : s 8 = _ := hs 8 (by decide) (by kernel_rfl)
          simp only [e4, e8] at hK ⊢
          rotate_left 1
          cases ho
          have e3 : s 3 = _ := hs 3 (by decide) (by kernel_rfl)
          obtain ⟨x, y, h9, e9⟩ := hs 9 (by decide) (by kernel_rfl)
          simp only [e3, e9] at hK ⊢
          rotate_left 1
          cases ho
          obtain ⟨p, h5, e10⟩ := hs 10 (by decide) (by kernel_rfl)
          simp only [e10] at hK ⊢
          rotate_left 1
          all_goals
            try cases ho
            simp only [Act.put, List.setIfInBounds_toArray, List.set_cons_zero, List.set_cons_succ] at hK
            clear hs
            go_simp
            all_goals (try go_wp2_with (first | (go_at_call 32; first | ((with_reducible refine (rDot_n _ hnm hw).mono ?_); rintro e w' ⟨p, h5, rfl, hb1⟩) | ((with_reducible refine (rDot_n _ hnm h9).mono ?_); rintro e w' ⟨p, h5, rfl, hb1⟩)) | (go_at_call 30; (with_reducible refine (rSub_n _ hf hpk).mono ?_); rintro e w' ⟨x, y, h9, rfl, hb1⟩)))
            all_goals first | exact hK.out _ _ ⟨_, h5, rfl⟩ hb1 | exact hK.out _ _ ⟨_, _, h9, rfl⟩ hb1 | exact hK.out _ _ ⟨_, h5, rfl⟩ (bl_refl _) | exact hK.out _ _ rfl (bl_refl _) | exact hK.out _ _ rfl (by assumption) | exact hK.out _ _ (by assumption) (by assumption)
        case ht_wn =>
          intro s w7 hs hb
          have e0 : s 0 = _ := hs 0 (by decide)
          have e1 : s 1 = _ := hs 1 (by decide)
          have e2 : s 2 = _ := hs 2 (by decide)
          have e3 : s 3 = _ := hs 3 (by decide)
          have e4 : s 4 = _ := hs 4 (by decide)
          have e5 : s 5 = _ := hs 5 (by decide)
          have e6 : s 6 = _ := hs 6 (by decide)
          have e7 : s 7 = _ := hs 7 (by decide)
          have e8 : s 8 = _ := hs 8 (by decide)
          obtain ⟨_, _, _, e9⟩ := hs 9 (by decide)
          obtain ⟨_, _, e10⟩ := hs 10 (by decide)
          obtain ⟨ew, he0, e11⟩ := hs 11 (by decide)
          simp only [e0, e1, e2, e3, e4, e5, e6, e7, e8, e9, e10, e11]
          clear hs e0 e1 e2 e3 e4 e5 e6 e7 e8 e9 e10 e11
          replace z0_0 := keep hb z0_0; replace z0_1 := keep hb z0_1; replace z1_0 := keep hb z1_0; replace z1_1 := keep hb z1_1; replace z2_0 := keep hb z2_0; replace z2_1 := keep hb z2_1; replace z2_2 := keep hb z2_2; replace z2_3 := keep hb z2_3; replace z2_4 := keep hb z2_4; replace c0 := keep hb c0; replace c1 := keep hb c1; replace l0 := keep hb l0; replace l1 := keep hb l1; replace hBr := bl_trans hBr hb; clear hb
          have HT : ∀ W : World, isF (fv .quo .f64 (Op.negFloat .f64 ew) g0 W) (etT xs ys n F Y k) := fun W => o_is (op := .quo) W (ng_is he0) hg0
          rcases tri_n (hnm2 k hlt).1 with ⟨q1, q2, q3⟩ | ⟨q1, q2, q3⟩ | ⟨q1, q2, q3⟩
          · have y1 := (lt1_is hg0).trans q1
            have y2 := (lt0_is hg0).trans q2
            have y3 := (eq_is hg0 isF_zero).trans q3
            by_cases hb0 : r1 < 0
            · have qb : decide (r1 < 0) = true := decide_eq_true hb0
              go_wp2
              go_roundg (n - (k + 1))
              case measure => omega
              case rel => exact ⟨k + 1, ((k : Int), etT xs ys n F Y k, rx), _, _, by go_num, by first | rfl | go_num, rfl, rfl, by omega, by omega, by omega, HT _, hx, hide (by show (rlS xs ys n F Y k).bind _ = _; rw [HS.out]; show rlN _ _ _ _ _ = _; unfold rlN rlA rlB; rw [q3, q1, q2, qb]; rfl), by repeat (first | exact hBr | apply bl_drewN | apply bl_drew | apply bl_alloc)⟩
            · have qb : decide (r1 < 0) = false := decide_eq_false hb0
              cases qt : ltK .f64 rt (etT xs ys n F Y k) with
              | true =>
                have yt := fun W => (lt_is ht (HT W)).trans qt
                go_wp2
                go_roundg (n - (k + 1))
                case measure => omega
                case rel => exact ⟨k + 1, ((k : Int), etT xs ys n F Y k, rx), _, _, by go_num, by first | rfl | go_num, rfl, rfl, by omega, by omega, by omega, HT _, hx, hide (by show (rlS xs ys n F Y k).bind _ = _; rw [HS.out]; show rlN _ _ _ _ _ = _; unfold rlN rlA rlB; rw [q3, q1, q2, qb, qt]; rfl), by repeat (first | exact hBr | apply bl_drewN | apply bl_drew | apply bl_alloc)⟩
              | false =>
                have yt := fun W => (lt_is ht (HT W)).trans qt
                go_wp2
                go_roundg (n - (k + 1))
                case measure => omega
                case rel => exact ⟨k + 1, (r1, rt, rx), _, _, by go_num, by first | rfl | go_num, rfl, rfl, by omega, by omega, by omega, ht, hx, hide (by show (rlS xs ys n F Y k).bind _ = _; rw [HS.out]; show rlN _ _ _ _ _ = _; unfold rlN rlA rlB; rw [q3, q1, q2, qb, qt]; rfl), by repeat (first | exact hBr | apply bl_drewN | apply bl_drew | apply bl_alloc)⟩
          · have y1 := (lt1_is hg0).trans q1
            have y2 := (lt0_is hg0).trans q2
            have y3 := (eq_is hg0 isF_zero).trans q3
            cases qx : ltK .f64 (etT xs ys n F Y k) rx with
            | true =>
              have yx := fun W => (lt_is (HT W) hx).trans qx
              go_wp2
              go_roundg (n - (k + 1))
              case measure => omega
              case rel => exact ⟨k + 1, (r1, rt, etT xs ys n F Y k), _, _, by go_num, by first | rfl | go_num, rfl, rfl, by omega, by omega, by omega, ht, HT _, hide (by show (rlS xs ys n F Y k).bind _ = _; rw [HS.out]; show rlN _ _ _ _ _ = _; unfold rlN; rw [q3]; have eA : rlA (r1, rt, rx) k (etG xs ys n Y k) (etT xs ys n F Y k) = (r1, rt, rx) := (by unfold rlA; rw [q1]; rfl); rw [eA]; unfold rlB; simp only []; rw [q2, qx]; rfl), by repeat (first | exact hBr | apply bl_drewN | apply bl_drew | apply bl_alloc)⟩
            | false =>
              have yx := fun W => (lt_is (HT W) hx).trans qx
              go_wp2
              go_roundg (n - (k + 1))
              case measure => omega
              case rel => exact ⟨k + 1, (r1, rt, rx), _, _, by go_num, by first | rfl | go_num, rfl, rfl, by omega, by omega, by omega, ht, hx, hide (by show (rlS xs ys n F Y k).bind _ = _; rw [HS.out]; show rlN _ _ _ _ _ = _; unfold rlN; rw [q3]; have eA : rlA (r1, rt, rx) k (etG xs ys n Y k) (etT xs ys n F Y k) = (r1, rt, rx) := (by unfold rlA; rw [q1]; rfl); rw [eA]; unfold rlB; simp only []; rw [q2, qx]; rfl), by repeat (first | exact hBr | apply bl_drewN | apply bl_drew | apply bl_alloc)⟩
          · have y1 := (lt1_is hg0).trans q1
            have y2 := (lt0_is hg0).trans q2
            have y3 := (eq_is hg0 isF_zero).trans q3
            cases qf : ltK .f64 0 (etF xs ys n F k) with
            | true =>
              have yf := (lt0_is he0).trans qf
              have fE : ∀ o, w7.frozen? ⟨w.heap.size + 1 + 1, o, none⟩ = false := fun o => (hBr.2 _).trans (fE3 o)
              have HN : Hid (pgR xs ys n false F Y = (false, zeH)) := hide (pg_none (rl_none hnm2 hlt (by show (rlS xs ys n F Y k).bind _ = _; rw [HS.out]; show rlN _ _ _ _ _ = _; unfold rlN; rw [q3, qf]; rfl)))
              replace BF := bl_trans BF hBr
              have hzz := BF.size
              simp only [World.size_alloc] at hzz
              go_wp2
              rw [HN.out]
              refine fin5 (G := bodyPost _ _ _ _ _) (by repeat (first | (with_reducible exact z2_0) | (with_reducible refine up_drewN ?_) | (with_reducible refine up_alloc ?_))) (by repeat (first | (with_reducible exact z2_1) | (with_reducible refine up_drewN ?_) | (with_reducible refine up_alloc ?_))) (by repeat (first | (with_reducible exact z2_2) | (with_reducible refine up_drewN ?_) | (with_reducible refine up_alloc ?_))) (by repeat (first | (with_reducible exact z2_3) | (with_reducible refine up_drewN ?_) | (with_reducible refine up_alloc ?_))) (by repeat (first | (with_reducible exact z2_4) | (with_reducible refine up_drewN ?_) | (with_reducible refine up_alloc ?_))) (by have B := (bl_trans B0 BF); repeat (first | (with_reducible exact B) | (with_reducible refine bl_drewN ?_ _) | (with_reducible refine bl_alloc ?_ _ _))) (by omega) fun X r0 r1 r2 r3 r4 bX => ?_
              refine bodyPost_ret (rpolygon_res _ _ _ _ _ _ _ _ _ _ rfl rfl rfl r0 r1 r2 r3 r4) rfl ⟨_, _, _, _, _, ?_, rfl, bX⟩
              exact zeH_is
            | false =>
              have yf := (lt0_is he0).trans qf
              go_wp2
              go_roundg (n - (k + 1))
              case measure => omega
              case rel => exact ⟨k + 1, (r1, rt, rx), _, _, by go_num, by first | rfl | go_num, rfl, rfl, by omega, by omega, by omega, ht, hx, hide (by show (rlS xs ys n F Y k).bind _ = _; rw [HS.out]; show rlN _ _ _ _ _ = _; unfold rlN rlA rlB; rw [q3, q1, q2, qf]; rfl), by repeat (first | exact hBr | apply bl_drewN | apply bl_drew | apply bl_alloc)⟩
    · have hltz : ¬ (k : Int) < (n : Int) := by omega
      have hnk : n = k := by omega
      subst hnk
      replace z0_0 := keep hBr z0_0; replace z0_1 := keep hBr z0_1; replace z1_0 := keep hBr z1_0; replace z1_1 := keep hBr z1_1; replace z2_0 := keep hBr z2_0; replace z2_1 := keep hBr z2_1; replace z2_2 := keep hBr z2_2; replace z2_3 := keep hBr z2_3; replace z2_4 := keep hBr z2_4
      have fE : ∀ o, wr.frozen? ⟨w.heap.size + 1 + 1, o, none⟩ = false := fun o => (hBr.2 _).trans (fE3 o)
      replace BF := bl_trans BF hBr
      have hzz := BF.size
      simp only [World.size_alloc] at hzz
      obtain ⟨s, hsE, hRl⟩ : ∃ s, etS xs ys n F Y n = some s ∧ RlE xs ys n n s (r1, rt, rx) := by
        rcases rl_all hnm2 n (Nat.le_refl _) with ⟨_, h2⟩ | ⟨s, r, h1, h2, h3⟩
        · rw [HS.out] at h2; cases h2
        · rw [HS.out] at h2; cases h2; exact ⟨s, h1, h3⟩
      have hend := rl_end hRl
      simp only at hend
      by_cases hb0 : r1 < 0
      · have HN : Hid (pgR xs ys n false F Y = (false, zeH)) := hide (pg_no hsE (by rw [hend, decide_eq_true hb0]; rfl))
        clear hend hRl hsE
        go_wp2
        rw [HN.out]
        refine fin5 (G := bodyPost _ _ _ _ _) (by repeat (first | (with_reducible exact z2_0) | (with_reducible refine up_drewN ?_) | (with_reducible refine up_alloc ?_))) (by repeat (first | (with_reducible exact z2_1) | (with_reducible refine up_drewN ?_) | (with_reducible refine up_alloc ?_))) (by repeat (first | (with_reducible exact z2_2) | (with_reducible refine up_drewN ?_) | (with_reducible refine up_alloc ?_))) (by repeat (first | (with_reducible exact z2_3) | (with_reducible refine up_drewN ?_) | (with_reducible refine up_alloc ?_))) (by repeat (first | (with_reducible exact z2_4) | (with_reducible refine up_drewN ?_) | (with_reducible refine up_alloc ?_))) (by have B := (bl_trans B0 BF); repeat (first | (with_reducible exact B) | (with_reducible refine bl_drewN ?_ _) | (with_reducible refine bl_alloc ?_ _ _))) (by omega) fun X r0 r1 r2 r3 r4 bX => ?_
        refine bodyPost_ret (rpolygon_res _ _ _ _ _ _ _ _ _ _ rfl rfl rfl r0 r1 r2 r3 r4) rfl ⟨_, _, _, _, _, ?_, rfl, bX⟩
        exact zeH_is

      · cases qp : paB rt with
        | false =>
          have HN : Hid (pgR xs ys n false F Y = (false, zeH)) := hide (pg_no hsE (by rw [hend, qp, Bool.and_false]; rfl))
          clear hend hRl hsE
          go_wp2_with (first | (go_at_call 34; (with_reducible refine (part12_n _ ht).mono ?_); rintro e wp1 ⟨rfl, hW9⟩; rw [hW9, qp]; clear hW9))
          rw [HN.out]
          refine fin5 (G := bodyPost _ _ _ _ _) (by repeat (first | (with_reducible exact z2_0) | (with_reducible refine up_drewN ?_) | (with_reducible refine up_alloc ?_))) (by repeat (first | (with_reducible exact z2_1) | (with_reducible refine up_drewN ?_) | (with_reducible refine up_alloc ?_))) (by repeat (first | (with_reducible exact z2_2) | (with_reducible refine up_drewN ?_) | (with_reducible refine up_alloc ?_))) (by repeat (first | (with_reducible exact z2_3) | (with_reducible refine up_drewN ?_) | (with_reducible refine up_alloc ?_))) (by repeat (first | (with_reducible exact z2_4) | (with_reducible refine up_drewN ?_) | (with_reducible refine up_alloc ?_))) (by have B := (bl_trans B0 BF); repeat (first | (with_reducible exact B) | (with_reducible refine bl_drewN ?_ _) | (with_reducible refine bl_alloc ?_ _ _))) (by omega) fun X r0 r1 r2 r3 r4 bX => ?_
          refine bodyPost_ret (rpolygon_res _ _ _ _ _ _ _ _ _ _ rfl rfl rfl r0 r1 r2 r3 r4) rfl ⟨_, _, _, _, _, ?_, rfl, bX⟩
          exact zeH_is

        | true =>
          cases ql : ltK .f64 rx rt with
          | true =>
            have yl := (lt_is hx ht).trans ql
            have HN : Hid (pgR xs ys n false F Y = (false, zeH)) := hide (pg_no hsE (by rw [hend, ql]; simp))
            clear hend hRl hsE
            go_wp2_with (first | (go_at_call 34; (with_reducible refine (part12_n _ ht).mono ?_); rintro e wp1 ⟨rfl, hW9⟩; rw [hW9, qp]; clear hW9))
            rw [HN.out]
            refine fin5 (G := bodyPost _ _ _ _ _) (by repeat (first | (with_reducible exact z2_0) | (with_reducible refine up_drewN ?_) | (with_reducible refine up_alloc ?_))) (by repeat (first | (with_reducible exact z2_1) | (with_reducible refine up_drewN ?_) | (with_reducible refine up_alloc ?_))) (by repeat (first | (with_reducible exact z2_2) | (with_reducible refine up_drewN ?_) | (with_reducible refine up_alloc ?_))) (by repeat (first | (with_reducible exact z2_3) | (with_reducible refine up_drewN ?_) | (with_reducible refine up_alloc ?_))) (by repeat (first | (with_reducible exact z2_4) | (with_reducible refine up_drewN ?_) | (with_reducible refine up_alloc ?_))) (by have B := (bl_trans B0 BF); repeat (first | (with_reducible exact B) | (with_reducible refine bl_drewN ?_ _) | (with_reducible refine bl_alloc ?_ _ _))) (by omega) fun X r0 r1 r2 r3 r4 bX => ?_
            refine bodyPost_ret (rpolygon_res _ _ _ _ _ _ _ _ _ _ rfl rfl rfl r0 r1 r2 r3 r4) rfl ⟨_, _, _, _, _, ?_, rfl, bX⟩
            exact zeH_is

          | false =>
            have yl := (lt_is hx ht).trans ql
            obtain ⟨j, hj, hr1, hn1, hn2⟩ : ∃ j, j < n ∧ r1 = (j : Int) ∧ s.2.1.2.1 = nmP xs ys n j ∧ s.2.1.2.2 = rt := by
              rcases hRl.2 with ⟨_, h⟩ | ⟨_, j, h1, h2, h3, h4⟩
              · simp only at h; omega
              · exact ⟨j, h1, h2, h3, h4⟩
            have HN : Hid (pgR xs ys n false F Y = (true, (moF F rt Y, nmP xs ys n j, rt))) := hide (by rw [pg_yes hsE (by rw [hend, qp, ql, decide_eq_false hb0]; rfl), hn1, hn2])
            obtain ⟨bn1, bn2⟩ := nm_bd oA hz.out hj
            have hnm : isP (nX xs ys n j) (nY xs ys n j) (nmP xs ys n j) := isP_self bn1.1 bn2.1
            clear hend hRl hsE hn1 hn2 bn1 bn2
            subst hr1
            obtain ⟨n0, n1⟩ := (hN.bel hBr) j hj
            simp only [Nat.zero_add] at n0 n1
            have lN := World.block_lt_of_cell? _ _ n0
            simp only at lN
            have nN : gN ≠ w.heap.size + 1 + 1 := by have := hgN; simp only [World.size_alloc] at this; omega
            have hjz : (j : Int) < (n : Int) := by omega
            replace fR := fE
            clear fE
            go_wp2_with (first | (go_at_call 34; (with_reducible refine (part12_n _ ht).mono ?_); rintro e wp1 ⟨rfl, hW9⟩; rw [hW9, qp]; clear hW9))
            refine wp_region_ret 13 10 9 rfl (fun i v => match i with | 0 => v = .agg #[.float .f64 fx, .float .f64 fy] | 1 => v = .float .f64 tw | 2 => v = .agg #[.float .f64 wx, .float .f64 wy] | 3 => ∃ x y, isP x y (moF F rt Y) ∧ v = .agg #[.float .f64 x, .float .f64 y] | 4 => v = .slice (some ⟨gN, 0, none⟩) n cN | 5 => v = .int .i64 (j : Int) | 6 => v = .pointer (some ⟨gN, j * 2, none⟩) | 7 => v = .agg #[.float .f64 (nX xs ys n j), .float .f64 (nY xs ys n j)] | 8 => v = .float .f64 tw | 9 => ∃ x y, isP x y (moF F rt Y) ∧ v = .agg #[.float .f64 x, .float .f64 y, .float .f64 (nX xs ys n j), .float .f64 (nY xs ys n j), .float .f64 tw] | 11 => v = .bool true | 12 => v = .int .i64 0 | _ => False) (putN (w.heap.size + 1 + 1) 5) ?A_wz (by kernel_rfl) (by kernel_rfl) (by kernel_rfl) (by decide) (by decide) ?hA_wz ?hst_wz ?hq_wz ?ht_wz
            case hA_wz =>
              intro s
              simp only [putL, dstO, Act.put, List.getElem?_toArray, List.getElem?_cons_zero, List.getElem?_cons_succ, Option.bind_some, List.setIfInBounds_toArray, List.set_cons_zero, List.set_cons_succ, if_true]
              all_goals exact rfl
            case hst_wz =>
              intro o ho s hs W hb K hK
              cases ho
              have u0 := keep hb z2_0; have u1 := keep hb z2_1; have u2 := keep hb z2_2; have u3 := keep hb z2_3; have u4 := keep hb z2_4; have u9 := fun o => (hb.2 ⟨w.heap.size + 1 + 1, o, none⟩).trans (fR o)
              obtain ⟨x, y, g9, e9⟩ := hs 9 (by decide) (by kernel_rfl)
              simp only [e9] at hK ⊢
              clear hs
              go_simp
              exact hK.out
            case hq_wz =>
              intro i o hi hne ho s hs W hb K hK
              have ue0 := once_keepN hb n0 (by simp only; omega); have ue1 := once_keepN hb n1 (by simp only; omega); have uz0_0 := once_keepN hb z0_0 (by simp only; omega); have uz0_1 := once_keepN hb z0_1 (by simp only; omega); have uz1_0 := once_keepN hb z1_0 (by simp only; omega); have uz1_1 := once_keepN hb z1_1 (by simp only; omega)
              rcases (show i = 0 ∨ i = 1 ∨ i = 2 ∨ i = 3 ∨ i = 4 ∨ i = 5 ∨ i = 6 ∨ i = 7 ∨ i = 8 ∨ i = 9 ∨ i = 10 ∨ i = 11 ∨ i = 12 by omega) with rfl | rfl | rfl | rfl | rfl | rfl | rfl | rfl | rfl | rfl | rfl | rfl | rfl
              rotate_left 3
              cases ho
              have e0 : s 0 = _ := hs 0 (by decide) (by decide) (by kernel_rfl)
              have e1 : s 1 = _ := hs 1 (by decide) (by decide) (by kernel_rfl)
              have e2 : s 2 = _ := hs 2 (by decide) (by decide) (by kernel_rfl)
              simp only [e0, e1, e2] at hK ⊢
              rotate_left 3
              cases ho
              have e4 : s 4 = _ := hs 4 (by decide) (by decide) (by kernel_rfl)
              have e5 : s 5 = _ := hs 5 (by decide) (by decide) (by kernel_rfl)
              simp only [e4, e5] at hK ⊢
              rotate_left 1
              cases ho
              have e6 : s 6 = _ := hs 6 (by decide) (by decide) (by kernel_rfl)
              simp only [e6] at hK ⊢
              rotate_left 2
              cases ho
              obtain ⟨x, y, h3, e3⟩ := hs 3 (by decide) (by decide) (by kernel_rfl)
              have e7 : s 7 = _ := hs 7 (by decide) (by decide) (by kernel_rfl)
              have e8 : s 8 = _ := hs 8 (by decide) (by decide) (by kernel_rfl)
              simp only [e3, e7, e8] at hK ⊢
              rotate_left 1
              · exact absurd rfl hne
              rotate_left 2
              all_goals
                try cases ho
                simp only [Act.put, List.setIfInBounds_toArray, List.set_cons_zero, List.set_cons_succ] at hK
                clear hs hne
                go_simp
                all_goals (try go_wp2_with (first | (go_at_call 35; (with_reducible refine (rMore_n _ hf ht hw).mono ?_); rintro e w' ⟨x, y, h3, rfl, hb1⟩)))
                all_goals first | exact hK.out _ _ ⟨_, _, h3, rfl⟩ hb1 | exact hK.out _ _ ⟨_, _, h3, rfl⟩ (bl_refl _) | exact hK.out _ _ rfl (bl_refl _) | exact hK.out _ _ rfl (by assumption) | exact hK.out _ _ (by assumption) (by assumption)
            case ht_wz =>
              intro s hs W0 W hb0 hb
              have e0 : s 0 = _ := hs 0 (by decide) (by decide)
              have e1 : s 1 = _ := hs 1 (by decide) (by decide)
              have e2 : s 2 = _ := hs 2 (by decide) (by decide)
              obtain ⟨_, _, _, e3⟩ := hs 3 (by decide) (by decide)
              have e4 : s 4 = _ := hs 4 (by decide) (by decide)
              have e5 : s 5 = _ := hs 5 (by decide) (by decide)
              have e6 : s 6 = _ := hs 6 (by decide) (by decide)
              have e7 : s 7 = _ := hs 7 (by decide) (by decide)
              have e8 : s 8 = _ := hs 8 (by decide) (by decide)
              obtain ⟨x, y, g9, e9⟩ := hs 9 (by decide) (by decide)
              have e11 : s 11 = _ := hs 11 (by decide) (by decide)
              have e12 : s 12 = _ := hs 12 (by decide) (by decide)
              simp only [e0, e1, e2, e3, e4, e5, e6, e7, e8, e9, e11, e12]
              rw [e9] at hb
              clear hs e0 e1 e2 e3 e4 e5 e6 e7 e8 e9 e11 e12
              have RA := putN_at (R := w.heap.size + 1 + 1) (W := W0) (v := .agg #[.float .f64 x, .float .f64 y, .float .f64 (nX xs ys n j), .float .f64 (nY xs ys n j), .float .f64 tw]) 5 (fun i hi => by rcases (show i = 0 ∨ i = 1 ∨ i = 2 ∨ i = 3 ∨ i = 4 by omega) with rfl | rfl | rfl | rfl | rfl <;> first | (rw [keep hb0 z2_0]; rfl) | (rw [keep hb0 z2_1]; rfl) | (rw [keep hb0 z2_2]; rfl) | (rw [keep hb0 z2_3]; rfl) | (rw [keep hb0 z2_4]; rfl))
              have R0 := keep hb (RA 0 (by decide)); have R1 := keep hb (RA 1 (by decide)); have R2 := keep hb (RA 2 (by decide)); have R3 := keep hb (RA 3 (by decide)); have R4 := keep hb (RA 4 (by decide))
              simp only [cellAt] at R0 R1 R2 R3 R4
              replace BF := bl_trans (putN_bel (bl_trans (bl_trans B0 BF) hb0) (show w.heap.size ≤ w.heap.size + 1 + 1 by omega) 5) hb
              go_wp2
              rw [HN.out]
              refine bodyPost_ret (rpolygon_res _ _ _ _ _ _ _ _ _ _ rfl rfl rfl R0 R1 R2 R3 R4) rfl ⟨_, _, _, _, _, ?_, rfl, BF⟩
              exact isH_of g9 hnm ht

theorem rpolygon_n (Va : Value) {n fx fy wx wy : Nat} {xs ys : Nat → Nat} {F Y : Vp} (w : World) (hA : AnyS w Va n xs ys) (hf : isP fx fy F) (hw : isP wx wy Y) : Calls Tryz.prog 12 #[Va, .agg #[.float .f64 fx, .float .f64 fy], .agg #[.float .f64 wx, .float .f64 wy]] w fun e w' => ∃ hx9 hy9 nx9 ny9 ht9 : Nat, isH hx9 hy9 nx9 ny9 ht9 ((pgX xs ys n (hasV xs ys n fx fy) F Y).2) ∧ e = .returned (.tuple #[.agg #[.float .f64 hx9, .float .f64 hy9, .float .f64 nx9, .float .f64 ny9, .float .f64 ht9], .bool (pgX xs ys n (hasV xs ys n fx fy) F Y).1, .int .i64 (pgE xs ys n F Y)]) ∧ Bel w w' := by
  by_cases hz : chkE xs ys n = 0
  · have e1 : pgE xs ys n F Y = ryE F Y := by unfold pgE; rw [if_pos hz]
    by_cases he : ryE F Y = 0
    · have e2 : pgX xs ys n (hasV xs ys n fx fy) F Y = pgR xs ys n (hasV xs ys n fx fy) F Y := by unfold pgX; rw [e1, he]; rfl
      rw [e1, e2, he]
      cases qh : hasV xs ys n fx fy
      · exact rpolygon_go Va w hA hf hw (hide hz) (hide he) qh
      · have e3 : pgR xs ys n true F Y = (true, onH F) := by unfold pgR; rw [pkF_yes rfl]
        rw [e3]; exact rpolygon_in Va w hA hf hw (hide hz) he qh
    · have e2 : pgX xs ys n (hasV xs ys n fx fy) F Y = (false, zeH) := by unfold pgX; rw [e1, decide_eq_false he]; rfl
      rw [e1, e2]; exact rpolygon_e2 Va w hA hf hw (hide hz) he
  · have e1 : pgE xs ys n F Y = chkE xs ys n := by unfold pgE; rw [if_neg hz]
    have e2 : pgX xs ys n (hasV xs ys n fx fy) F Y = (false, zeH) := by unfold pgX; rw [e1, decide_eq_false hz]; rfl
    rw [e1, e2]; exact rpolygon_e1 Va w hA hf hw hz

end Go.Proofs.YtdeooadeohojcaaGreat
