/-
  What each function of package poly answers, and what the reference of its chapter answers: one contract a function, for every float: the answer stands in the relation of its formula to what was given; of the memory that was there nothing has turned.
-/
import Derived.Test.YtdeooadeohojcaaGreatVec
import Derived.Test.YtdeooadeohojcaaGreatNa
import Derived.Test.YtdeooadeohojcaaGreatRya
import Derived.Below
import Derived.WalkKit
import Derived.WalkLawsBesides
import Derived.WalkSpells
import Derived.ProofKit
import Derived.OpenShut
import Derived.Deep.RegionHeld3
namespace Go.Proofs.YtdeooadeohojcaaGreat
open Go.ChangeShapes Go.WideShapes Go.ChangeAt Go.RowKit
set_option linter.unusedVariables false
set_option linter.unusedSimpArgs false


theorem vAdd_y {ax ay bx b_y : Nat} {A B : Vp} (w : World) (ha : isP ax ay A) (hb_ : isP bx b_y B) : Calls Tryz.prog 83 #[.agg #[.float .f64 ax, .float .f64 ay], .agg #[.float .f64 bx, .float .f64 b_y]] w fun e w' => ∃ x y, isP x y (adF A B) ∧ e = .returned (.agg #[.float .f64 x, .float .f64 y]) ∧ Bel w w' :=
  (vAdd_any _ _ _ _ w).mono fun e w' ⟨x, y, h, he, hb⟩ => ⟨x, y, h.is ha hb_, he, hb⟩
theorem vScale_n {ax ay s S : Nat} {A : Vp} (w : World) (ha : isP ax ay A) (hs : isF s S) : Calls Tryz.prog 81 #[.agg #[.float .f64 ax, .float .f64 ay], .float .f64 s] w fun e w' => ∃ x y, isP x y (scF A S) ∧ e = .returned (.agg #[.float .f64 x, .float .f64 y]) ∧ Bel w w' :=
  (vScale_any _ _ _ w).mono fun e w' ⟨x, y, h, he, hb⟩ => ⟨x, y, h.is ha hs, he, hb⟩
theorem vUnit_n {ax ay : Nat} {A : Vp} (w : World) (ha : isP ax ay A) : Calls Tryz.prog 27 #[.agg #[.float .f64 ax, .float .f64 ay]] w fun e w' => ∃ x y b, isP x y (uvF A) ∧ b = uvO A ∧ e = .returned (.tuple #[.agg #[.float .f64 x, .float .f64 y], .bool b]) ∧ Bel w w' :=
  (vUnit_any _ _ w).mono fun e w' ⟨x, y, b, h, he, hb⟩ => ⟨x, y, b, (h.uv ha).1, (h.uv ha).2, he, hb⟩
theorem vRight_n {ax ay : Nat} {A : Vp} (w : World) (ha : isP ax ay A) : Calls Tryz.prog 63 #[.agg #[.float .f64 ax, .float .f64 ay]] w fun e w' => ∃ x y, isP x y (rtP A) ∧ e = .returned (.agg #[.float .f64 x, .float .f64 y]) ∧ Bel w w' :=
  (vRight_any _ _ w).mono fun e w' ⟨he, hb⟩ => ⟨_, _, rtP_is ha, he, hb⟩
theorem vLeft_n {ax ay : Nat} {A : Vp} (w : World) (ha : isP ax ay A) : Calls Tryz.prog 82 #[.agg #[.float .f64 ax, .float .f64 ay]] w fun e w' => ∃ x y, isP x y (lfP A) ∧ e = .returned (.agg #[.float .f64 x, .float .f64 y]) ∧ Bel w w' :=
  (vLeft_any _ _ w).mono fun e w' ⟨he, hb⟩ => ⟨_, _, lfP_is ha, he, hb⟩
theorem vNeg_n {ax ay : Nat} {A : Vp} (w : World) (ha : isP ax ay A) : Calls Tryz.prog 64 #[.agg #[.float .f64 ax, .float .f64 ay]] w fun e w' => ∃ x y, isP x y (ngP A) ∧ e = .returned (.agg #[.float .f64 x, .float .f64 y]) ∧ Bel w w' :=
  (vNeg_any _ _ w).mono fun e w' ⟨he, hb⟩ => ⟨_, _, ngP_is ha, he, hb⟩
theorem vIn_n {ax ay : Nat} {A : Vp} (w : World) (ha : isP ax ay A) : Calls Tryz.prog 16 #[.agg #[.float .f64 ax, .float .f64 ay], .float .f64 4787326403894837248] w fun e w' => e = .returned (.bool (inB A.1 A.2)) ∧ Bel w w' :=
  (vWithin_any _ _ _ w).mono fun e w' ⟨he, hb⟩ => ⟨by rw [he, ← ib_is ha]; rfl, hb⟩

theorem checkRay_n {fx fy wx wy : Nat} {F Y : Vp} (w : World) (hf : isP fx fy F) (hw : isP wx wy Y) : Calls Tryz.prog 18 #[.agg #[.float .f64 fx, .float .f64 fy], .agg #[.float .f64 wx, .float .f64 wy]] w fun e w' => e = .returned (.int .i64 (ryE F Y)) ∧ Bel w w' := by
  have c1 := cmp_lt .f64
  have e0 : ryE F Y = (if inB F.1 F.2 then (if inB Y.1 Y.2 && !ltK .f64 (lnF Y) 4472074429978902528 then 0 else 120) else 5) := rfl
  rw [e0]
  clear e0
  cases q1 : inB F.1 F.2 <;> cases q2 : inB Y.1 Y.2 <;> cases q3 : ltK .f64 (lnF Y) 4472074429978902528
  all_goals
    have z0_0 : (w.alloc (.cells #[.float .f64 fx, .float .f64 fy] 24)).cell? ⟨w.heap.size, 0, none⟩ = some (.float .f64 fx) := by rw [World.cell?_alloc_new]; rfl
    replace z0_0 := up_alloc (o := .cells #[.float .f64 wx, .float .f64 wy] 24) z0_0
    have z0_1 : (w.alloc (.cells #[.float .f64 fx, .float .f64 fy] 24)).cell? ⟨w.heap.size, 1, none⟩ = some (.float .f64 fy) := by rw [World.cell?_alloc_new]; rfl
    replace z0_1 := up_alloc (o := .cells #[.float .f64 wx, .float .f64 wy] 24) z0_1
    have z1_0 : ((w.alloc (.cells #[.float .f64 fx, .float .f64 fy] 24)).alloc (.cells #[.float .f64 wx, .float .f64 wy] 24)).cell? ⟨w.heap.size + 1, 0, none⟩ = some (.float .f64 wx) := by rw [← (show (w.alloc (.cells #[.float .f64 fx, .float .f64 fy] 24)).heap.size = w.heap.size + 1 by simp only [World.size_alloc]), World.cell?_alloc_new]; rfl
    have z1_1 : ((w.alloc (.cells #[.float .f64 fx, .float .f64 fy] 24)).alloc (.cells #[.float .f64 wx, .float .f64 wy] 24)).cell? ⟨w.heap.size + 1, 1, none⟩ = some (.float .f64 wy) := by rw [← (show (w.alloc (.cells #[.float .f64 fx, .float .f64 fy] 24)).heap.size = w.heap.size + 1 by simp only [World.size_alloc]), World.cell?_alloc_new]; rfl
    have B0 : Bel w ((w.alloc (.cells #[.float .f64 fx, .float .f64 fy] 24)).alloc (.cells #[.float .f64 wx, .float .f64 wy] 24)) := bl_alloc (bl_alloc (bl_refl w) _ _) _ _
    go_enter Tryz.func18, Tryz.ntmps18
    go_wp2_with (first | (go_at_call 16; with_reducible refine (vIn_n _ hf).mono ?_; rintro e w1 ⟨rfl, hb⟩; rw [q1]; replace z0_0 : w1.cell? ⟨w.heap.size, 0, none⟩ = some (.float .f64 fx) := keep hb (by first | exact z0_0 | go_keep); replace z0_1 : w1.cell? ⟨w.heap.size, 1, none⟩ = some (.float .f64 fy) := keep hb (by first | exact z0_1 | go_keep); replace z1_0 : w1.cell? ⟨w.heap.size + 1, 0, none⟩ = some (.float .f64 wx) := keep hb (by first | exact z1_0 | go_keep); replace z1_1 : w1.cell? ⟨w.heap.size + 1, 1, none⟩ = some (.float .f64 wy) := keep hb (by first | exact z1_1 | go_keep); have BF := hb; clear hb) | (go_at_call 16; with_reducible refine (vIn_n _ hw).mono ?_; rintro e w2 ⟨rfl, hb⟩; rw [q2]; replace z0_0 : w2.cell? ⟨w.heap.size, 0, none⟩ = some (.float .f64 fx) := keep hb (by first | exact z0_0 | go_keep); replace z0_1 : w2.cell? ⟨w.heap.size, 1, none⟩ = some (.float .f64 fy) := keep hb (by first | exact z0_1 | go_keep); replace z1_0 : w2.cell? ⟨w.heap.size + 1, 0, none⟩ = some (.float .f64 wx) := keep hb (by first | exact z1_0 | go_keep); replace z1_1 : w2.cell? ⟨w.heap.size + 1, 1, none⟩ = some (.float .f64 wy) := keep hb (by first | exact z1_1 | go_keep); replace BF := bl_trans BF hb; clear hb) | (go_at_call 38; refine (vLength_n _ hw).mono ?_; rintro e w3 ⟨r, hr, rfl, hb⟩; have q := (lt_is hr min_is).trans q3; replace BF := bl_trans BF hb; clear hb))
    go_ret
    exact ⟨rfl, bl_trans B0 BF⟩

set_option maxRecDepth 100000 in
theorem refused_res (tmps : Array Value) (Z : World) (r hx hy nx ny ht : Nat) (bb : Bool) (er : Int) (h4 : tmps[2]?.getD undef = .pointer (some ⟨r, 0, none⟩)) (h5 : tmps[3]?.getD undef = .bool bb) (h6 : tmps[4]?.getD undef = .int .i64 er) (c0 : Z.cell? ⟨r, 0, none⟩ = some (.float .f64 hx)) (c1 : Z.cell? ⟨r, 1, none⟩ = some (.float .f64 hy)) (c2 : Z.cell? ⟨r, 2, none⟩ = some (.float .f64 nx)) (c3 : Z.cell? ⟨r, 3, none⟩ = some (.float .f64 ny)) (c4 : Z.cell? ⟨r, 4, none⟩ = some (.float .f64 ht)) :
    (results Tryz.f17 tmps).run Tryz.prog Z = .ok (.tuple #[.agg #[.float .f64 hx, .float .f64 hy, .float .f64 nx, .float .f64 ny, .float .f64 ht], .bool bb, .int .i64 er]) Z := by
  simp [results, Tryz.results17, h4, h5, h6, c0, c1, c2, c3, c4, go_sem]
  first | done | rfl | exact ⟨rfl, rfl⟩

set_option maxRecDepth 100000 in
theorem refused_n (er : Int) (w : World) : Calls Tryz.prog 17 #[.int .i64 er] w fun e w' => e = .returned (.tuple #[.agg #[.float .f64 0, .float .f64 0, .float .f64 0, .float .f64 0, .float .f64 0], .bool false, .int .i64 er]) ∧ Bel w w' := by
  go_enter Tryz.func17, Tryz.ntmps17
  go_wp2
  have z0_0 : (w.alloc (.cells #[.float .f64 0, .float .f64 0, .float .f64 0, .float .f64 0, .float .f64 0] 28)).cell? ⟨w.heap.size, 0, none⟩ = some (.float .f64 0) := by rw [World.cell?_alloc_new]; rfl
  have z0_1 : (w.alloc (.cells #[.float .f64 0, .float .f64 0, .float .f64 0, .float .f64 0, .float .f64 0] 28)).cell? ⟨w.heap.size, 1, none⟩ = some (.float .f64 0) := by rw [World.cell?_alloc_new]; rfl
  have z0_2 : (w.alloc (.cells #[.float .f64 0, .float .f64 0, .float .f64 0, .float .f64 0, .float .f64 0] 28)).cell? ⟨w.heap.size, 2, none⟩ = some (.float .f64 0) := by rw [World.cell?_alloc_new]; rfl
  have z0_3 : (w.alloc (.cells #[.float .f64 0, .float .f64 0, .float .f64 0, .float .f64 0, .float .f64 0] 28)).cell? ⟨w.heap.size, 3, none⟩ = some (.float .f64 0) := by rw [World.cell?_alloc_new]; rfl
  have z0_4 : (w.alloc (.cells #[.float .f64 0, .float .f64 0, .float .f64 0, .float .f64 0, .float .f64 0] 28)).cell? ⟨w.heap.size, 4, none⟩ = some (.float .f64 0) := by rw [World.cell?_alloc_new]; rfl
  have B0 : Bel w (w.alloc (.cells #[.float .f64 0, .float .f64 0, .float .f64 0, .float .f64 0, .float .f64 0] 28)) := bl_alloc (bl_refl w) _ _
  refine bodyPost_ret (refused_res _ _ (w.heap.size) 0 0 0 0 0 false _ rfl rfl rfl z0_0 z0_1 z0_2 z0_3 z0_4) rfl ⟨rfl, B0⟩

set_option maxRecDepth 100000 in
theorem nothing_res (tmps : Array Value) (Z : World) (r hx hy nx ny ht : Nat) (bb : Bool) (er : Int) (h4 : tmps[0]?.getD undef = .pointer (some ⟨r, 0, none⟩)) (h5 : tmps[1]?.getD undef = .bool bb) (h6 : tmps[2]?.getD undef = .int .i64 er) (c0 : Z.cell? ⟨r, 0, none⟩ = some (.float .f64 hx)) (c1 : Z.cell? ⟨r, 1, none⟩ = some (.float .f64 hy)) (c2 : Z.cell? ⟨r, 2, none⟩ = some (.float .f64 nx)) (c3 : Z.cell? ⟨r, 3, none⟩ = some (.float .f64 ny)) (c4 : Z.cell? ⟨r, 4, none⟩ = some (.float .f64 ht)) :
    (results Tryz.f23 tmps).run Tryz.prog Z = .ok (.tuple #[.agg #[.float .f64 hx, .float .f64 hy, .float .f64 nx, .float .f64 ny, .float .f64 ht], .bool bb, .int .i64 er]) Z := by
  simp [results, Tryz.results23, h4, h5, h6, c0, c1, c2, c3, c4, go_sem]
  first | done | rfl | exact ⟨rfl, rfl⟩

set_option maxRecDepth 100000 in
theorem nothing_n (w : World) : Calls Tryz.prog 23 #[] w fun e w' => e = .returned (.tuple #[.agg #[.float .f64 0, .float .f64 0, .float .f64 0, .float .f64 0, .float .f64 0], .bool false, .int .i64 0]) ∧ Bel w w' := by
  go_enter Tryz.func23, Tryz.ntmps23
  go_wp2
  have z0_0 : (w.alloc (.cells #[.float .f64 0, .float .f64 0, .float .f64 0, .float .f64 0, .float .f64 0] 28)).cell? ⟨w.heap.size, 0, none⟩ = some (.float .f64 0) := by rw [World.cell?_alloc_new]; rfl
  have z0_1 : (w.alloc (.cells #[.float .f64 0, .float .f64 0, .float .f64 0, .float .f64 0, .float .f64 0] 28)).cell? ⟨w.heap.size, 1, none⟩ = some (.float .f64 0) := by rw [World.cell?_alloc_new]; rfl
  have z0_2 : (w.alloc (.cells #[.float .f64 0, .float .f64 0, .float .f64 0, .float .f64 0, .float .f64 0] 28)).cell? ⟨w.heap.size, 2, none⟩ = some (.float .f64 0) := by rw [World.cell?_alloc_new]; rfl
  have z0_3 : (w.alloc (.cells #[.float .f64 0, .float .f64 0, .float .f64 0, .float .f64 0, .float .f64 0] 28)).cell? ⟨w.heap.size, 3, none⟩ = some (.float .f64 0) := by rw [World.cell?_alloc_new]; rfl
  have z0_4 : (w.alloc (.cells #[.float .f64 0, .float .f64 0, .float .f64 0, .float .f64 0, .float .f64 0] 28)).cell? ⟨w.heap.size, 4, none⟩ = some (.float .f64 0) := by rw [World.cell?_alloc_new]; rfl
  have B0 : Bel w (w.alloc (.cells #[.float .f64 0, .float .f64 0, .float .f64 0, .float .f64 0, .float .f64 0] 28)) := bl_alloc (bl_refl w) _ _
  refine bodyPost_ret (nothing_res _ _ (w.heap.size) 0 0 0 0 0 false 0 rfl rfl rfl z0_0 z0_1 z0_2 z0_3 z0_4) rfl ⟨rfl, B0⟩

set_option maxRecDepth 100000 in
theorem atOnce_res (tmps : Array Value) (Z : World) (r hx hy nx ny ht : Nat) (bb : Bool) (er : Int) (h4 : tmps[2]?.getD undef = .pointer (some ⟨r, 0, none⟩)) (h5 : tmps[3]?.getD undef = .bool bb) (h6 : tmps[4]?.getD undef = .int .i64 er) (c0 : Z.cell? ⟨r, 0, none⟩ = some (.float .f64 hx)) (c1 : Z.cell? ⟨r, 1, none⟩ = some (.float .f64 hy)) (c2 : Z.cell? ⟨r, 2, none⟩ = some (.float .f64 nx)) (c3 : Z.cell? ⟨r, 3, none⟩ = some (.float .f64 ny)) (c4 : Z.cell? ⟨r, 4, none⟩ = some (.float .f64 ht)) :
    (results Tryz.f22 tmps).run Tryz.prog Z = .ok (.tuple #[.agg #[.float .f64 hx, .float .f64 hy, .float .f64 nx, .float .f64 ny, .float .f64 ht], .bool bb, .int .i64 er]) Z := by
  simp [results, Tryz.results22, h4, h5, h6, c0, c1, c2, c3, c4, go_sem]
  first | done | rfl | exact ⟨rfl, rfl⟩

set_option maxRecDepth 100000 in
theorem atOnce_n (fx fy : Nat) (w : World) : Calls Tryz.prog 22 #[.agg #[.float .f64 fx, .float .f64 fy]] w fun e w' => e = .returned (.tuple #[.agg #[.float .f64 fx, .float .f64 fy, .float .f64 0, .float .f64 0, .float .f64 0], .bool true, .int .i64 0]) ∧ Bel w w' := by
  go_enter Tryz.func22, Tryz.ntmps22
  go_wp2
  have z0_0 : (w.alloc (.cells #[.float .f64 fx, .float .f64 fy] 24)).cell? ⟨w.heap.size, 0, none⟩ = some (.float .f64 fx) := by rw [World.cell?_alloc_new]; rfl
  replace z0_0 := up_alloc (o := .cells #[.float .f64 fx, .float .f64 fy, .float .f64 0, .float .f64 0, .float .f64 0] 28) z0_0
  have z0_1 : (w.alloc (.cells #[.float .f64 fx, .float .f64 fy] 24)).cell? ⟨w.heap.size, 1, none⟩ = some (.float .f64 fy) := by rw [World.cell?_alloc_new]; rfl
  replace z0_1 := up_alloc (o := .cells #[.float .f64 fx, .float .f64 fy, .float .f64 0, .float .f64 0, .float .f64 0] 28) z0_1
  have z1_0 : ((w.alloc (.cells #[.float .f64 fx, .float .f64 fy] 24)).alloc (.cells #[.float .f64 fx, .float .f64 fy, .float .f64 0, .float .f64 0, .float .f64 0] 28)).cell? ⟨w.heap.size + 1, 0, none⟩ = some (.float .f64 fx) := by rw [← (show (w.alloc (.cells #[.float .f64 fx, .float .f64 fy] 24)).heap.size = w.heap.size + 1 by simp only [World.size_alloc]), World.cell?_alloc_new]; rfl
  have z1_1 : ((w.alloc (.cells #[.float .f64 fx, .float .f64 fy] 24)).alloc (.cells #[.float .f64 fx, .float .f64 fy, .float .f64 0, .float .f64 0, .float .f64 0] 28)).cell? ⟨w.heap.size + 1, 1, none⟩ = some (.float .f64 fy) := by rw [← (show (w.alloc (.cells #[.float .f64 fx, .float .f64 fy] 24)).heap.size = w.heap.size + 1 by simp only [World.size_alloc]), World.cell?_alloc_new]; rfl
  have z1_2 : ((w.alloc (.cells #[.float .f64 fx, .float .f64 fy] 24)).alloc (.cells #[.float .f64 fx, .float .f64 fy, .float .f64 0, .float .f64 0, .float .f64 0] 28)).cell? ⟨w.heap.size + 1, 2, none⟩ = some (.float .f64 0) := by rw [← (show (w.alloc (.cells #[.float .f64 fx, .float .f64 fy] 24)).heap.size = w.heap.size + 1 by simp only [World.size_alloc]), World.cell?_alloc_new]; rfl
  have z1_3 : ((w.alloc (.cells #[.float .f64 fx, .float .f64 fy] 24)).alloc (.cells #[.float .f64 fx, .float .f64 fy, .float .f64 0, .float .f64 0, .float .f64 0] 28)).cell? ⟨w.heap.size + 1, 3, none⟩ = some (.float .f64 0) := by rw [← (show (w.alloc (.cells #[.float .f64 fx, .float .f64 fy] 24)).heap.size = w.heap.size + 1 by simp only [World.size_alloc]), World.cell?_alloc_new]; rfl
  have z1_4 : ((w.alloc (.cells #[.float .f64 fx, .float .f64 fy] 24)).alloc (.cells #[.float .f64 fx, .float .f64 fy, .float .f64 0, .float .f64 0, .float .f64 0] 28)).cell? ⟨w.heap.size + 1, 4, none⟩ = some (.float .f64 0) := by rw [← (show (w.alloc (.cells #[.float .f64 fx, .float .f64 fy] 24)).heap.size = w.heap.size + 1 by simp only [World.size_alloc]), World.cell?_alloc_new]; rfl
  have B0 : Bel w ((w.alloc (.cells #[.float .f64 fx, .float .f64 fy] 24)).alloc (.cells #[.float .f64 fx, .float .f64 fy, .float .f64 0, .float .f64 0, .float .f64 0] 28)) := bl_alloc (bl_alloc (bl_refl w) _ _) _ _
  refine bodyPost_ret (atOnce_res _ _ (w.heap.size + 1) fx fy 0 0 0 true 0 (by simp) rfl rfl z1_0 z1_1 z1_2 z1_3 z1_4) rfl ⟨rfl, B0⟩

theorem isPart_n {t T : Nat} (w : World) (h : isF t T) : Calls Tryz.prog 25 #[.float .f64 t] w fun e w' => e = .returned (.bool (paB T)) ∧ w' = w := by
  have c1 := cmp_ge .f64
  have c2 := cmp_le .f64
  rw [← pa_is h]
  unfold paB
  clear h
  cases h1 : leK .f64 0 t <;> cases h2 : leK .f64 t 4607182418800017408
  all_goals
    go_enter Tryz.func25, Tryz.ntmps25
    go_wp2
    go_ret
    exact ⟨rfl, rfl⟩

set_option maxRecDepth 100000 in
theorem facing_n {sx sy wx wy : Nat} {S Y : Vp} (w : World) (hs : isP sx sy S) (hw : isP wx wy Y) : Calls Tryz.prog 40 #[.agg #[.float .f64 sx, .float .f64 sy], .agg #[.float .f64 wx, .float .f64 wy]] w fun e w' => ∃ x y, isP x y (fcF S Y) ∧ e = .returned (.agg #[.float .f64 x, .float .f64 y]) ∧ Bel w w' := by
  have c1 := cmp_gt .f64
  cases hq : ltK .f64 0 (dtF (uvF (rtP S)) Y)
  · have e0 : fcF S Y = uvF (rtP S) := pkF_no hq
    rw [e0]
    clear e0
    have z0_0 : (w.alloc (.cells #[.float .f64 sx, .float .f64 sy] 24)).cell? ⟨w.heap.size, 0, none⟩ = some (.float .f64 sx) := by rw [World.cell?_alloc_new]; rfl
    replace z0_0 := up_alloc (o := .cells #[.float .f64 wx, .float .f64 wy] 24) z0_0
    replace z0_0 := up_alloc (o := .cells #[.float .f64 0, .float .f64 0] 24) z0_0
    have z0_1 : (w.alloc (.cells #[.float .f64 sx, .float .f64 sy] 24)).cell? ⟨w.heap.size, 1, none⟩ = some (.float .f64 sy) := by rw [World.cell?_alloc_new]; rfl
    replace z0_1 := up_alloc (o := .cells #[.float .f64 wx, .float .f64 wy] 24) z0_1
    replace z0_1 := up_alloc (o := .cells #[.float .f64 0, .float .f64 0] 24) z0_1
    have z1_0 : ((w.alloc (.cells #[.float .f64 sx, .float .f64 sy] 24)).alloc (.cells #[.float .f64 wx, .float .f64 wy] 24)).cell? ⟨w.heap.size + 1, 0, none⟩ = some (.float .f64 wx) := by rw [← (show (w.alloc (.cells #[.float .f64 sx, .float .f64 sy] 24)).heap.size = w.heap.size + 1 by simp only [World.size_alloc]), World.cell?_alloc_new]; rfl
    replace z1_0 := up_alloc (o := .cells #[.float .f64 0, .float .f64 0] 24) z1_0
    have z1_1 : ((w.alloc (.cells #[.float .f64 sx, .float .f64 sy] 24)).alloc (.cells #[.float .f64 wx, .float .f64 wy] 24)).cell? ⟨w.heap.size + 1, 1, none⟩ = some (.float .f64 wy) := by rw [← (show (w.alloc (.cells #[.float .f64 sx, .float .f64 sy] 24)).heap.size = w.heap.size + 1 by simp only [World.size_alloc]), World.cell?_alloc_new]; rfl
    replace z1_1 := up_alloc (o := .cells #[.float .f64 0, .float .f64 0] 24) z1_1
    have z2_0 : (((w.alloc (.cells #[.float .f64 sx, .float .f64 sy] 24)).alloc (.cells #[.float .f64 wx, .float .f64 wy] 24)).alloc (.cells #[.float .f64 0, .float .f64 0] 24)).cell? ⟨w.heap.size + 1 + 1, 0, none⟩ = some (.float .f64 0) := by rw [← (show ((w.alloc (.cells #[.float .f64 sx, .float .f64 sy] 24)).alloc (.cells #[.float .f64 wx, .float .f64 wy] 24)).heap.size = w.heap.size + 1 + 1 by simp only [World.size_alloc]), World.cell?_alloc_new]; rfl
    have z2_1 : (((w.alloc (.cells #[.float .f64 sx, .float .f64 sy] 24)).alloc (.cells #[.float .f64 wx, .float .f64 wy] 24)).alloc (.cells #[.float .f64 0, .float .f64 0] 24)).cell? ⟨w.heap.size + 1 + 1, 1, none⟩ = some (.float .f64 0) := by rw [← (show ((w.alloc (.cells #[.float .f64 sx, .float .f64 sy] 24)).alloc (.cells #[.float .f64 wx, .float .f64 wy] 24)).heap.size = w.heap.size + 1 + 1 by simp only [World.size_alloc]), World.cell?_alloc_new]; rfl
    have B0 : Bel w (((w.alloc (.cells #[.float .f64 sx, .float .f64 sy] 24)).alloc (.cells #[.float .f64 wx, .float .f64 wy] 24)).alloc (.cells #[.float .f64 0, .float .f64 0] 24)) := bl_alloc (bl_alloc (bl_alloc (bl_refl w) _ _) _ _) _ _
    have fR : ∀ o, (((w.alloc (.cells #[.float .f64 sx, .float .f64 sy] 24)).alloc (.cells #[.float .f64 wx, .float .f64 wy] 24)).alloc (.cells #[.float .f64 0, .float .f64 0] 24)).frozen? ⟨w.heap.size + 1 + 1, o, none⟩ = false := fun o => ((show Bel ((w.alloc (.cells #[.float .f64 sx, .float .f64 sy] 24)).alloc (.cells #[.float .f64 wx, .float .f64 wy] 24)) (((w.alloc (.cells #[.float .f64 sx, .float .f64 sy] 24)).alloc (.cells #[.float .f64 wx, .float .f64 wy] 24)).alloc (.cells #[.float .f64 0, .float .f64 0] 24)) by repeat (first | exact bl_refl _ | apply bl_alloc)).2 _).trans (fresh_frozen (by simp only [World.size_alloc]; exact Nat.le_refl _))
    go_enter Tryz.func40, Tryz.ntmps40
    go_wp2_with (first | (go_at_call 63; refine (vRight_n _ hs).mono ?_; rintro e w1 ⟨x1, y1, h1, rfl, hb⟩; replace z0_0 : w1.cell? ⟨w.heap.size, 0, none⟩ = some (.float .f64 sx) := keep hb (by first | exact z0_0 | go_keep); replace z0_1 : w1.cell? ⟨w.heap.size, 1, none⟩ = some (.float .f64 sy) := keep hb (by first | exact z0_1 | go_keep); replace z1_0 : w1.cell? ⟨w.heap.size + 1, 0, none⟩ = some (.float .f64 wx) := keep hb (by first | exact z1_0 | go_keep); replace z1_1 : w1.cell? ⟨w.heap.size + 1, 1, none⟩ = some (.float .f64 wy) := keep hb (by first | exact z1_1 | go_keep); replace z2_0 : w1.cell? ⟨w.heap.size + 1 + 1, 0, none⟩ = some (.float .f64 0) := keep hb (by first | exact z2_0 | go_keep); replace z2_1 : w1.cell? ⟨w.heap.size + 1 + 1, 1, none⟩ = some (.float .f64 0) := keep hb (by first | exact z2_1 | go_keep); have BF := hb; clear hb) | (go_at_call 27; refine (vUnit_n _ h1).mono ?_; rintro e w2 ⟨x2, y2, b2, h2, -, rfl, hb⟩; replace z0_0 : w2.cell? ⟨w.heap.size, 0, none⟩ = some (.float .f64 sx) := keep hb (by first | exact z0_0 | go_keep); replace z0_1 : w2.cell? ⟨w.heap.size, 1, none⟩ = some (.float .f64 sy) := keep hb (by first | exact z0_1 | go_keep); replace z1_0 : w2.cell? ⟨w.heap.size + 1, 0, none⟩ = some (.float .f64 wx) := keep hb (by first | exact z1_0 | go_keep); replace z1_1 : w2.cell? ⟨w.heap.size + 1, 1, none⟩ = some (.float .f64 wy) := keep hb (by first | exact z1_1 | go_keep); replace z2_0 : w2.cell? ⟨w.heap.size + 1 + 1, 0, none⟩ = some (.float .f64 0) := keep hb (by first | exact z2_0 | go_keep); replace z2_1 : w2.cell? ⟨w.heap.size + 1 + 1, 1, none⟩ = some (.float .f64 0) := keep hb (by first | exact z2_1 | go_keep); replace BF := bl_trans BF hb; clear hb; have hz := BF.size; simp only [World.size_alloc] at hz; have l0 : w.heap.size < w2.heap.size := (by omega); have l1 : w.heap.size + 1 < w2.heap.size := (by omega); have l2 : w.heap.size + 1 + 1 < w2.heap.size := (by omega); clear hz) | (go_at_call 21; refine (vDot_n _ h2 hw).mono ?_; rintro e w3 ⟨r, hr, rfl, hb⟩; have q := (lt0_is hr).trans hq; replace z0_0 : w3.cell? ⟨w.heap.size, 0, none⟩ = some (.float .f64 sx) := keep hb (by first | exact z0_0 | go_keep); replace z0_1 : w3.cell? ⟨w.heap.size, 1, none⟩ = some (.float .f64 sy) := keep hb (by first | exact z0_1 | go_keep); replace z1_0 : w3.cell? ⟨w.heap.size + 1, 0, none⟩ = some (.float .f64 wx) := keep hb (by first | exact z1_0 | go_keep); replace z1_1 : w3.cell? ⟨w.heap.size + 1, 1, none⟩ = some (.float .f64 wy) := keep hb (by first | exact z1_1 | go_keep); replace z2_0 : w3.cell? ⟨w.heap.size + 1 + 1, 0, none⟩ = some (.float .f64 0) := keep hb (by first | exact z2_0 | go_keep); replace z2_1 : w3.cell? ⟨w.heap.size + 1 + 1, 1, none⟩ = some (.float .f64 0) := keep hb (by first | exact z2_1 | go_keep); have n0 : w3.cell? ⟨w2.heap.size, 0, none⟩ = some (.float .f64 x2) := keep hb (by go_keep); have n1 : w3.cell? ⟨w2.heap.size, 1, none⟩ = some (.float .f64 y2) := keep hb (by go_keep); replace BF : Bel (((w.alloc (.cells #[.float .f64 sx, .float .f64 sy] 24)).alloc (.cells #[.float .f64 wx, .float .f64 wy] 24)).alloc (.cells #[.float .f64 0, .float .f64 0] 24)) w3 := bl_trans (by repeat (first | exact BF | apply bl_alloc | refine bl_set ?_ (by (try simp only [World.size_alloc]); omega))) hb; clear hb; have fE : ∀ o, w3.frozen? ⟨w.heap.size + 1 + 1, o, none⟩ = false := fun o => (BF.2 _).trans (fR o)))
    obtain ⟨X, hX, r0, r1, -, bX⟩ := put2_all (p := .float .f64 x2) (q := .float .f64 y2) z2_0 z2_1
    rw [← hX]
    refine bodyPost_ret (v := .agg #[.float .f64 x2, .float .f64 y2]) (by simp [r0, r1, results, Tryz.results40, go_sem] <;> (first | exact ⟨rfl, rfl⟩ | rfl)) rfl ⟨_, _, h2, rfl, bX _ (bl_trans B0 BF) (by omega)⟩
  · have e0 : fcF S Y = ngP (uvF (rtP S)) := pkF_yes hq
    rw [e0]
    clear e0
    have z0_0 : (w.alloc (.cells #[.float .f64 sx, .float .f64 sy] 24)).cell? ⟨w.heap.size, 0, none⟩ = some (.float .f64 sx) := by rw [World.cell?_alloc_new]; rfl
    replace z0_0 := up_alloc (o := .cells #[.float .f64 wx, .float .f64 wy] 24) z0_0
    replace z0_0 := up_alloc (o := .cells #[.float .f64 0, .float .f64 0] 24) z0_0
    have z0_1 : (w.alloc (.cells #[.float .f64 sx, .float .f64 sy] 24)).cell? ⟨w.heap.size, 1, none⟩ = some (.float .f64 sy) := by rw [World.cell?_alloc_new]; rfl
    replace z0_1 := up_alloc (o := .cells #[.float .f64 wx, .float .f64 wy] 24) z0_1
    replace z0_1 := up_alloc (o := .cells #[.float .f64 0, .float .f64 0] 24) z0_1
    have z1_0 : ((w.alloc (.cells #[.float .f64 sx, .float .f64 sy] 24)).alloc (.cells #[.float .f64 wx, .float .f64 wy] 24)).cell? ⟨w.heap.size + 1, 0, none⟩ = some (.float .f64 wx) := by rw [← (show (w.alloc (.cells #[.float .f64 sx, .float .f64 sy] 24)).heap.size = w.heap.size + 1 by simp only [World.size_alloc]), World.cell?_alloc_new]; rfl
    replace z1_0 := up_alloc (o := .cells #[.float .f64 0, .float .f64 0] 24) z1_0
    have z1_1 : ((w.alloc (.cells #[.float .f64 sx, .float .f64 sy] 24)).alloc (.cells #[.float .f64 wx, .float .f64 wy] 24)).cell? ⟨w.heap.size + 1, 1, none⟩ = some (.float .f64 wy) := by rw [← (show (w.alloc (.cells #[.float .f64 sx, .float .f64 sy] 24)).heap.size = w.heap.size + 1 by simp only [World.size_alloc]), World.cell?_alloc_new]; rfl
    replace z1_1 := up_alloc (o := .cells #[.float .f64 0, .float .f64 0] 24) z1_1
    have z2_0 : (((w.alloc (.cells #[.float .f64 sx, .float .f64 sy] 24)).alloc (.cells #[.float .f64 wx, .float .f64 wy] 24)).alloc (.cells #[.float .f64 0, .float .f64 0] 24)).cell? ⟨w.heap.size + 1 + 1, 0, none⟩ = some (.float .f64 0) := by rw [← (show ((w.alloc (.cells #[.float .f64 sx, .float .f64 sy] 24)).alloc (.cells #[.float .f64 wx, .float .f64 wy] 24)).heap.size = w.heap.size + 1 + 1 by simp only [World.size_alloc]), World.cell?_alloc_new]; rfl
    have z2_1 : (((w.alloc (.cells #[.float .f64 sx, .float .f64 sy] 24)).alloc (.cells #[.float .f64 wx, .float .f64 wy] 24)).alloc (.cells #[.float .f64 0, .float .f64 0] 24)).cell? ⟨w.heap.size + 1 + 1, 1, none⟩ = some (.float .f64 0) := by rw [← (show ((w.alloc (.cells #[.float .f64 sx, .float .f64 sy] 24)).alloc (.cells #[.float .f64 wx, .float .f64 wy] 24)).heap.size = w.heap.size + 1 + 1 by simp only [World.size_alloc]), World.cell?_alloc_new]; rfl
    have B0 : Bel w (((w.alloc (.cells #[.float .f64 sx, .float .f64 sy] 24)).alloc (.cells #[.float .f64 wx, .float .f64 wy] 24)).alloc (.cells #[.float .f64 0, .float .f64 0] 24)) := bl_alloc (bl_alloc (bl_alloc (bl_refl w) _ _) _ _) _ _
    have fR : ∀ o, (((w.alloc (.cells #[.float .f64 sx, .float .f64 sy] 24)).alloc (.cells #[.float .f64 wx, .float .f64 wy] 24)).alloc (.cells #[.float .f64 0, .float .f64 0] 24)).frozen? ⟨w.heap.size + 1 + 1, o, none⟩ = false := fun o => ((show Bel ((w.alloc (.cells #[.float .f64 sx, .float .f64 sy] 24)).alloc (.cells #[.float .f64 wx, .float .f64 wy] 24)) (((w.alloc (.cells #[.float .f64 sx, .float .f64 sy] 24)).alloc (.cells #[.float .f64 wx, .float .f64 wy] 24)).alloc (.cells #[.float .f64 0, .float .f64 0] 24)) by repeat (first | exact bl_refl _ | apply bl_alloc)).2 _).trans (fresh_frozen (by simp only [World.size_alloc]; exact Nat.le_refl _))
    go_enter Tryz.func40, Tryz.ntmps40
    go_wp2_with (first | (go_at_call 63; refine (vRight_n _ hs).mono ?_; rintro e w1 ⟨x1, y1, h1, rfl, hb⟩; replace z0_0 : w1.cell? ⟨w.heap.size, 0, none⟩ = some (.float .f64 sx) := keep hb (by first | exact z0_0 | go_keep); replace z0_1 : w1.cell? ⟨w.heap.size, 1, none⟩ = some (.float .f64 sy) := keep hb (by first | exact z0_1 | go_keep); replace z1_0 : w1.cell? ⟨w.heap.size + 1, 0, none⟩ = some (.float .f64 wx) := keep hb (by first | exact z1_0 | go_keep); replace z1_1 : w1.cell? ⟨w.heap.size + 1, 1, none⟩ = some (.float .f64 wy) := keep hb (by first | exact z1_1 | go_keep); replace z2_0 : w1.cell? ⟨w.heap.size + 1 + 1, 0, none⟩ = some (.float .f64 0) := keep hb (by first | exact z2_0 | go_keep); replace z2_1 : w1.cell? ⟨w.heap.size + 1 + 1, 1, none⟩ = some (.float .f64 0) := keep hb (by first | exact z2_1 | go_keep); have BF := hb; clear hb) | (go_at_call 27; refine (vUnit_n _ h1).mono ?_; rintro e w2 ⟨x2, y2, b2, h2, -, rfl, hb⟩; replace z0_0 : w2.cell? ⟨w.heap.size, 0, none⟩ = some (.float .f64 sx) := keep hb (by first | exact z0_0 | go_keep); replace z0_1 : w2.cell? ⟨w.heap.size, 1, none⟩ = some (.float .f64 sy) := keep hb (by first | exact z0_1 | go_keep); replace z1_0 : w2.cell? ⟨w.heap.size + 1, 0, none⟩ = some (.float .f64 wx) := keep hb (by first | exact z1_0 | go_keep); replace z1_1 : w2.cell? ⟨w.heap.size + 1, 1, none⟩ = some (.float .f64 wy) := keep hb (by first | exact z1_1 | go_keep); replace z2_0 : w2.cell? ⟨w.heap.size + 1 + 1, 0, none⟩ = some (.float .f64 0) := keep hb (by first | exact z2_0 | go_keep); replace z2_1 : w2.cell? ⟨w.heap.size + 1 + 1, 1, none⟩ = some (.float .f64 0) := keep hb (by first | exact z2_1 | go_keep); replace BF := bl_trans BF hb; clear hb; have hz := BF.size; simp only [World.size_alloc] at hz; have l0 : w.heap.size < w2.heap.size := (by omega); have l1 : w.heap.size + 1 < w2.heap.size := (by omega); have l2 : w.heap.size + 1 + 1 < w2.heap.size := (by omega); clear hz) | (go_at_call 21; refine (vDot_n _ h2 hw).mono ?_; rintro e w3 ⟨r, hr, rfl, hb⟩; have q := (lt0_is hr).trans hq; replace z0_0 : w3.cell? ⟨w.heap.size, 0, none⟩ = some (.float .f64 sx) := keep hb (by first | exact z0_0 | go_keep); replace z0_1 : w3.cell? ⟨w.heap.size, 1, none⟩ = some (.float .f64 sy) := keep hb (by first | exact z0_1 | go_keep); replace z1_0 : w3.cell? ⟨w.heap.size + 1, 0, none⟩ = some (.float .f64 wx) := keep hb (by first | exact z1_0 | go_keep); replace z1_1 : w3.cell? ⟨w.heap.size + 1, 1, none⟩ = some (.float .f64 wy) := keep hb (by first | exact z1_1 | go_keep); replace z2_0 : w3.cell? ⟨w.heap.size + 1 + 1, 0, none⟩ = some (.float .f64 0) := keep hb (by first | exact z2_0 | go_keep); replace z2_1 : w3.cell? ⟨w.heap.size + 1 + 1, 1, none⟩ = some (.float .f64 0) := keep hb (by first | exact z2_1 | go_keep); have n0 : w3.cell? ⟨w2.heap.size, 0, none⟩ = some (.float .f64 x2) := keep hb (by go_keep); have n1 : w3.cell? ⟨w2.heap.size, 1, none⟩ = some (.float .f64 y2) := keep hb (by go_keep); replace BF : Bel (((w.alloc (.cells #[.float .f64 sx, .float .f64 sy] 24)).alloc (.cells #[.float .f64 wx, .float .f64 wy] 24)).alloc (.cells #[.float .f64 0, .float .f64 0] 24)) w3 := bl_trans (by repeat (first | exact BF | apply bl_alloc | refine bl_set ?_ (by (try simp only [World.size_alloc]); omega))) hb; clear hb; have fE : ∀ o, w3.frozen? ⟨w.heap.size + 1 + 1, o, none⟩ = false := fun o => (BF.2 _).trans (fR o)) | (go_at_call 64; refine (vNeg_n _ h2).mono ?_; rintro e w4 ⟨x4, y4, h4, rfl, hb⟩; replace z0_0 : w4.cell? ⟨w.heap.size, 0, none⟩ = some (.float .f64 sx) := keep hb (by first | exact z0_0 | go_keep); replace z0_1 : w4.cell? ⟨w.heap.size, 1, none⟩ = some (.float .f64 sy) := keep hb (by first | exact z0_1 | go_keep); replace z1_0 : w4.cell? ⟨w.heap.size + 1, 0, none⟩ = some (.float .f64 wx) := keep hb (by first | exact z1_0 | go_keep); replace z1_1 : w4.cell? ⟨w.heap.size + 1, 1, none⟩ = some (.float .f64 wy) := keep hb (by first | exact z1_1 | go_keep); replace z2_0 : w4.cell? ⟨w.heap.size + 1 + 1, 0, none⟩ = some (.float .f64 0) := keep hb (by first | exact z2_0 | go_keep); replace z2_1 : w4.cell? ⟨w.heap.size + 1 + 1, 1, none⟩ = some (.float .f64 0) := keep hb (by first | exact z2_1 | go_keep); replace BF : Bel (((w.alloc (.cells #[.float .f64 sx, .float .f64 sy] 24)).alloc (.cells #[.float .f64 wx, .float .f64 wy] 24)).alloc (.cells #[.float .f64 0, .float .f64 0] 24)) w4 := bl_trans (by repeat (first | exact BF | apply bl_alloc | refine bl_set ?_ (by (try simp only [World.size_alloc]); omega))) hb; clear hb; have fE : ∀ o, w4.frozen? ⟨w.heap.size + 1 + 1, o, none⟩ = false := fun o => (BF.2 _).trans (fR o)))
    obtain ⟨X, hX, r0, r1, -, bX⟩ := put2_all (p := .float .f64 x4) (q := .float .f64 y4) z2_0 z2_1
    rw [← hX]
    refine bodyPost_ret (v := .agg #[.float .f64 x4, .float .f64 y4]) (by simp [r0, r1, results, Tryz.results40, go_sem] <;> (first | exact ⟨rfl, rfl⟩ | rfl)) rfl ⟨_, _, h4, rfl, bX _ (bl_trans B0 BF) (by omega)⟩

end Go.Proofs.YtdeooadeohojcaaGreat
