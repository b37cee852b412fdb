/-
  What each function of package poly answers, and what the reference of its chapter answers: one contract a function, for every float: the answer stands in the relation of its formula to what was given; of the memory that was there nothing has turned.
-/
import Derived.Test.YtdeooadeohojcaaGreatVec
import Derived.Test.YtdeooadeohojcaaGreatYp
import Derived.Below
import Derived.WalkKit
import Derived.WalkLawsBesides
import Derived.WalkSpells
import Derived.ProofKit
import Derived.OpenShut
import Derived.Deep.RegionHeld3
namespace Go.Proofs.YtdeooadeohojcaaGreat
open Go.ChangeShapes Go.WideShapes Go.ChangeAt Go.RowKit
set_option linter.unusedVariables false
set_option linter.unusedSimpArgs false


theorem fin5d {w Z : World} {n m : Nat} {p q r s t p0 q0 r0 s0 t0 : Value} (G : World → Prop) (h0 : Z.cell? ⟨n, 0, none⟩ = some p0) (h1 : Z.cell? ⟨n, 1, none⟩ = some q0) (h2 : Z.cell? ⟨n, 2, none⟩ = some r0) (h3 : Z.cell? ⟨n, 3, none⟩ = some s0) (h4 : Z.cell? ⟨n, 4, none⟩ = some t0) (hB : Bel w Z) (hn : w.heap.size ≤ n)
    (h : ∀ X : World, X.cell? ⟨n, 0, none⟩ = some p → X.cell? ⟨n, 1, none⟩ = some q → X.cell? ⟨n, 2, none⟩ = some r → X.cell? ⟨n, 3, none⟩ = some s → X.cell? ⟨n, 4, none⟩ = some t → Bel w X → G X) : G ((((((Z.setCell ⟨n, 0, none⟩ p).setCell ⟨n, 1, none⟩ q).setCell ⟨n, 2, none⟩ r).setCell ⟨n, 3, none⟩ s).setCell ⟨n, 4, none⟩ t).drewN m) :=
  fin5 (fun X => G (X.drewN m)) h0 h1 h2 h3 h4 hB hn fun X a0 a1 a2 a3 a4 bX => h _ (up_drewN a0) (up_drewN a1) (up_drewN a2) (up_drewN a3) (up_drewN a4) (bl_drewN bX _)
theorem begun_n {fx fy : Nat} (w : World) : Calls Tryz.prog 33 #[.agg #[.float .f64 fx, .float .f64 fy]] w fun e w' => e = .returned (.agg #[.float .f64 fx, .float .f64 fy, .float .f64 0, .float .f64 0, .float .f64 0]) ∧ Bel w w' := by
  have z0_0 : (w.alloc (.cells #[.float .f64 fx, .float .f64 fy] 24)).cell? ⟨w.heap.size, 0, none⟩ = some (.float .f64 fx) := by rw [World.cell?_alloc_new]; rfl
  have z0_1 : (w.alloc (.cells #[.float .f64 fx, .float .f64 fy] 24)).cell? ⟨w.heap.size, 1, none⟩ = some (.float .f64 fy) := by rw [World.cell?_alloc_new]; rfl
  have B0 : Bel w (w.alloc (.cells #[.float .f64 fx, .float .f64 fy] 24)) := bl_alloc (bl_refl w) _ _
  go_enter Tryz.func33, Tryz.ntmps33
  go_wp2
  refine bodyPost_ret (v := .agg #[.float .f64 fx, .float .f64 fy, .float .f64 0, .float .f64 0, .float .f64 0]) (by simp [results, Tryz.results33, go_sem] <;> (first | exact ⟨rfl, rfl, rfl, rfl, rfl⟩ | rfl)) rfl ⟨rfl, ?_⟩
  repeat (first | exact bl_refl _ | assumption | apply bl_drewN | apply bl_drew | apply bl_alloc | refine bl_set ?_ (by simp <;> omega) | refine bl_trans ?_ (by assumption))
theorem unit12_n {ax ay : Nat} {A : Vp} (w : World) (ha : isP ax ay A) : Calls Tryz.prog 36 #[.agg #[.float .f64 ax, .float .f64 ay]] w fun e w' => ∃ x y, isP x y (uvF A) ∧ e = .returned (.agg #[.float .f64 x, .float .f64 y]) ∧ Bel w w' := by
  have z0_0 : (w.alloc (.cells #[.float .f64 ax, .float .f64 ay] 24)).cell? ⟨w.heap.size, 0, none⟩ = some (.float .f64 ax) := by rw [World.cell?_alloc_new]; rfl
  replace z0_0 := up_alloc (o := .cells #[.float .f64 0, .float .f64 0] 24) z0_0
  have z0_1 : (w.alloc (.cells #[.float .f64 ax, .float .f64 ay] 24)).cell? ⟨w.heap.size, 1, none⟩ = some (.float .f64 ay) := by rw [World.cell?_alloc_new]; rfl
  replace z0_1 := up_alloc (o := .cells #[.float .f64 0, .float .f64 0] 24) z0_1
  have z1_0 : ((w.alloc (.cells #[.float .f64 ax, .float .f64 ay] 24)).alloc (.cells #[.float .f64 0, .float .f64 0] 24)).cell? ⟨w.heap.size + 1, 0, none⟩ = some (.float .f64 0) := by rw [← (show (w.alloc (.cells #[.float .f64 ax, .float .f64 ay] 24)).heap.size = w.heap.size + 1 by simp only [World.size_alloc]), World.cell?_alloc_new]; rfl
  have z1_1 : ((w.alloc (.cells #[.float .f64 ax, .float .f64 ay] 24)).alloc (.cells #[.float .f64 0, .float .f64 0] 24)).cell? ⟨w.heap.size + 1, 1, none⟩ = some (.float .f64 0) := by rw [← (show (w.alloc (.cells #[.float .f64 ax, .float .f64 ay] 24)).heap.size = w.heap.size + 1 by simp only [World.size_alloc]), World.cell?_alloc_new]; rfl
  have B0 : Bel w ((w.alloc (.cells #[.float .f64 ax, .float .f64 ay] 24)).alloc (.cells #[.float .f64 0, .float .f64 0] 24)) := bl_alloc (bl_alloc (bl_refl w) _ _) _ _
  have fR : ∀ o, ((w.alloc (.cells #[.float .f64 ax, .float .f64 ay] 24)).alloc (.cells #[.float .f64 0, .float .f64 0] 24)).frozen? ⟨w.heap.size + 1, o, none⟩ = false := fun o => ((show Bel (w.alloc (.cells #[.float .f64 ax, .float .f64 ay] 24)) ((w.alloc (.cells #[.float .f64 ax, .float .f64 ay] 24)).alloc (.cells #[.float .f64 0, .float .f64 0] 24)) by repeat (first | exact bl_refl _ | apply bl_alloc)).2 _).trans (fresh_frozen (by simp only [World.size_alloc]; exact Nat.le_refl _))
  go_enter Tryz.func36, Tryz.ntmps36
  go_wp2_with (first | (go_at_call 61; (with_reducible refine (rUnit_n _ ha).mono ?_); rintro e w1 ⟨x, y, b, hU, hbu, rfl, hb⟩; clear hbu; replace z0_0 : w1.cell? ⟨w.heap.size, 0, none⟩ = some (.float .f64 ax) := keep hb (by first | exact z0_0 | go_keep); replace z0_1 : w1.cell? ⟨w.heap.size, 1, none⟩ = some (.float .f64 ay) := keep hb (by first | exact z0_1 | go_keep); replace z1_0 : w1.cell? ⟨w.heap.size + 1, 0, none⟩ = some (.float .f64 0) := keep hb (by first | exact z1_0 | go_keep); replace z1_1 : w1.cell? ⟨w.heap.size + 1, 1, none⟩ = some (.float .f64 0) := keep hb (by first | exact z1_1 | go_keep); have BF := bl_trans B0 hb; have hz := hb.size; simp only [World.size_alloc] at hz; have fE : ∀ o, w1.frozen? ⟨w.heap.size + 1, o, none⟩ = false := fun o => (hb.2 _).trans (fR o); have y0 := up_alloc (o := .cells #[.float .f64 x, .float .f64 y] 24) z1_0; have y1 := up_alloc (o := .cells #[.float .f64 x, .float .f64 y] 24) z1_1; have fE2 : ∀ o, (w1.alloc (.cells #[.float .f64 x, .float .f64 y] 24)).frozen? ⟨w.heap.size + 1, o, none⟩ = false := fun o => ((bl_alloc (bl_refl w1) #[.float .f64 x, .float .f64 y] 24).2 _).trans (fE o)))
  obtain ⟨X, hX, r0, r1, -, bX⟩ := put2_all (p := .float .f64 x) (q := .float .f64 y) (up_alloc (o := .cells #[.float .f64 x, .float .f64 y] 24) z1_0) (up_alloc (o := .cells #[.float .f64 x, .float .f64 y] 24) z1_1)
  rw [← hX]
  refine bodyPost_ret (v := .agg #[.float .f64 x, .float .f64 y]) (by simp [r0, r1, results, Tryz.results36, go_sem] <;> (first | exact ⟨rfl, rfl⟩ | rfl)) rfl ⟨x, y, hU, rfl, bX _ (bl_alloc BF _ _) (by omega)⟩
theorem part12_n {t T : Nat} (w : World) (h : isF t T) : Calls Tryz.prog 34 #[.float .f64 t] w fun e w' => e = .returned (.bool (paB T)) ∧ w' = w := by
  have c1 := cmp_le .f64
  have c2 := cmp_ge .f64
  rw [← pa_is h]
  unfold paB
  clear h
  cases h1 : leK .f64 0 t <;> cases h2 : leK .f64 t 4607182418800017408
  all_goals
    go_enter Tryz.func34, Tryz.ntmps34
    go_wp2
    go_ret
    exact ⟨by first | rfl | simp, rfl⟩

end Go.Proofs.YtdeooadeohojcaaGreat
