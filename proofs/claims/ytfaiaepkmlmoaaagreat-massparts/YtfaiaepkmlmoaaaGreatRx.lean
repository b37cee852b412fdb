/-
  What each function of package poly answers, and what the reference of its chapter answers: one contract a function, for every float: the answer stands in the relation of its formula to what was given; of the memory that was there nothing has turned.
-/
import Derived.Test.YtfaiaepkmlmoaaaGreatVec
import Derived.Test.YtfaiaepkmlmoaaaGreatRd
import Derived.Test.YtfaiaepkmlmoaaaGreatPj
import Derived.Below
import Derived.WalkKit
import Derived.WalkLawsBesides
import Derived.WalkSpells
import Derived.ProofKit
import Derived.OpenShut
import Derived.Deep.RegionHeld3
namespace Go.Proofs.YtfaiaepkmlmoaaaGreat
open Go.ChangeShapes Go.WideShapes Go.ChangeAt Go.RowKit
set_option linter.unusedVariables false
set_option linter.unusedSimpArgs false


theorem rarea_none (v : Option Addr) (cap : Nat) (w : World) : Calls Tryz.prog 63 #[.slice v 0 cap] w fun e w' => e = .returned (.tuple #[.float .f64 0, .int .i64 60]) ∧ Bel w w' := by
  go_enter Tryz.func63, Tryz.ntmps63
  go_wp2_with (first | (go_at_call 59; refine (rchk_none _ _ _).mono ?_; rintro e w' ⟨rfl, hb⟩))
  refine bodyPost_ret (v := .tuple #[.float .f64 0, .int .i64 60]) (by simp [results, Tryz.results63, go_sem] <;> (first | exact ⟨⟨rfl, rfl⟩, rfl⟩ | exact ⟨rfl, rfl, rfl, rfl⟩ | exact ⟨rfl, rfl, rfl⟩ | exact ⟨rfl, rfl⟩ | rfl)) rfl ⟨rfl, ?_⟩
  repeat (first | exact bl_refl _ | assumption | apply bl_drewN | apply bl_drew | apply bl_alloc | refine bl_set ?_ (by simp <;> omega) | refine bl_trans ?_ (by assumption))

theorem rcentre_none (v : Option Addr) (cap : Nat) (w : World) : Calls Tryz.prog 64 #[.slice v 0 cap] w fun e w' => e = .returned (.tuple #[.agg #[.float .f64 0, .float .f64 0], .int .i64 60]) ∧ Bel w w' := by
  obtain ⟨z0, z1⟩ : (w.alloc (.cells #[.float .f64 0, .float .f64 0] 32)).cell? ⟨w.heap.size, 0, none⟩ = some (.float .f64 0) ∧ (w.alloc (.cells #[.float .f64 0, .float .f64 0] 32)).cell? ⟨w.heap.size, 1, none⟩ = some (.float .f64 0) := cell_own (by simp) _ _ _
  have B0 := bl_alloc (bl_refl w) #[.float .f64 0, .float .f64 0] 32
  go_enter Tryz.func64, Tryz.ntmps64
  go_wp2_with (first | (go_at_call 63; refine (rarea_none _ _ _).mono ?_; rintro e w_1 ⟨rfl, hb⟩; have B1 := bl_trans B0 hb; replace z0 := keep hb z0; replace z1 := keep hb z1; have FQ := fun o => (B1.2 ⟨w.heap.size, o, none⟩).trans (fresh_frozen (i := o) (Nat.le_refl _)); have lq := World.block_lt_of_cell? _ _ z0; simp only at lq))
  obtain ⟨R0, R1⟩ := set2 (p := .float .f64 0) (q := .float .f64 0) z0 z1
  refine bodyPost_ret (v := .tuple #[.agg #[.float .f64 0, .float .f64 0], .int .i64 60]) (by simp [R0, R1, results, Tryz.results64, go_sem] <;> (first | exact ⟨⟨rfl, rfl⟩, rfl⟩ | exact ⟨rfl, rfl, rfl, rfl⟩ | exact ⟨rfl, rfl, rfl⟩ | exact ⟨rfl, rfl⟩ | rfl)) rfl ⟨rfl, ?_⟩
  repeat (first | exact B1 | refine bl_set ?_ (by simp))
theorem fan_zero (xs ys : Nat → Nat) : fanE xs ys 0 = 60 := by unfold fanE; rw [chk_zero]; rfl
theorem chk_all (V : Value) (n : Nat) (xs ys : Nat → Nat) (w : World) (h : AnyS w V n xs ys) : Calls Tryz.prog 86 #[V] w fun e w' => e = .returned (.int .i64 (chkE xs ys n)) ∧ Bel w w' := by
  obtain ⟨a, cap, rfl, a2, a3, a4, a5, a6⟩ := h
  rcases a6 with rfl | ⟨a0, b, off, rfl, sa⟩
  · rw [chk_zero]
    exact chk_none a cap xs ys w
  · exact chk_some b off n cap xs ys w sa a5 a0 a3 a2

theorem area_all (V : Value) (n : Nat) (xs ys : Nat → Nat) (w : World) (h : AnyS w V n xs ys) : Calls Tryz.prog 49 #[V] w fun e w' => e = .returned (.tuple #[.float .f64 (areaE xs ys n), .int .i64 (fanE xs ys n)]) ∧ Bel w w' := by
  obtain ⟨a, cap, rfl, a2, a3, a4, a5, a6⟩ := h
  rcases a6 with rfl | ⟨a0, b, off, rfl, sa⟩
  · have h60 : ¬ fanE xs ys 0 = 0 := by rw [fan_zero]; decide
    rw [area_zero h60, fan_zero]
    exact area_none a cap xs ys w
  · exact area_d b off n cap xs ys w sa a5 a0 a3 a2

theorem rarea_all (V : Value) (n : Nat) (xs ys : Nat → Nat) (w : World) (h : AnyS w V n xs ys) : Calls Tryz.prog 63 #[V] w fun e w' => e = .returned (.tuple #[.float .f64 (areaE xs ys n), .int .i64 (fanE xs ys n)]) ∧ Bel w w' := by
  obtain ⟨a, cap, rfl, a2, a3, a4, a5, a6⟩ := h
  rcases a6 with rfl | ⟨a0, b, off, rfl, sa⟩
  · have h60 : ¬ fanE xs ys 0 = 0 := by rw [fan_zero]; decide
    rw [area_zero h60, fan_zero]
    exact rarea_none a cap w
  · exact rarea_d b off n cap xs ys w sa a5 a0 a3 a2 a4

theorem centre_all (V : Value) (n : Nat) (xs ys : Nat → Nat) (w : World) (h : AnyS w V n xs ys) : Calls Tryz.prog 50 #[V] w fun e w' => e = .returned (.tuple #[.agg #[.float .f64 (cenX xs ys n), .float .f64 (cenY xs ys n)], .int .i64 (fanE xs ys n)]) ∧ Bel w w' := by
  obtain ⟨a, cap, rfl, a2, a3, a4, a5, a6⟩ := h
  rcases a6 with rfl | ⟨a0, b, off, rfl, sa⟩
  · have h60 : ¬ fanE xs ys 0 = 0 := by rw [fan_zero]; decide
    have e1 : cenX xs ys 0 = 0 := by unfold cenX; rw [if_neg h60]
    have e2 : cenY xs ys 0 = 0 := by unfold cenY; rw [if_neg h60]
    rw [e1, e2, fan_zero]
    exact centre_none a cap w
  · exact centre_d b off n cap xs ys w sa a5 a0 a3 a2

theorem rcentre_all (V : Value) (n : Nat) (xs ys : Nat → Nat) (w : World) (h : AnyS w V n xs ys) : Calls Tryz.prog 64 #[V] w fun e w' => e = .returned (.tuple #[.agg #[.float .f64 (cenX xs ys n), .float .f64 (cenY xs ys n)], .int .i64 (fanE xs ys n)]) ∧ Bel w w' := by
  obtain ⟨a, cap, rfl, a2, a3, a4, a5, a6⟩ := h
  rcases a6 with rfl | ⟨a0, b, off, rfl, sa⟩
  · have h60 : ¬ fanE xs ys 0 = 0 := by rw [fan_zero]; decide
    have e1 : cenX xs ys 0 = 0 := by unfold cenX; rw [if_neg h60]
    have e2 : cenY xs ys 0 = 0 := by unfold cenY; rw [if_neg h60]
    rw [e1, e2, fan_zero]
    exact rcentre_none a cap w
  · exact rcentre_d b off n cap xs ys w sa a5 a0 a3 a2 a4


end Go.Proofs.YtfaiaepkmlmoaaaGreat
