/-
  What each function of package box answers, and what the reference of its chapter answers: one contract a function, for every float: the answer stands in the relation of its formula to what was given; of the memory that was there nothing has turned.
-/
import Derived.Test.YtekhnolpgoejdaaGreatVec
import Derived.Test.YtekhnolpgoejdaaGreatBprog
import Derived.Below
import Derived.WalkKit
import Derived.WalkLawsBesides
import Derived.WalkSpells
import Derived.ProofKit
import Derived.OpenShut
import Derived.Deep.RegionHeld3
namespace Go.Proofs.YtekhnolpgoejdaaGreat
open Go.ChangeShapes Go.WideShapes Go.ChangeAt Go.RowKit
set_option linter.unusedVariables false
set_option linter.unusedSimpArgs false


set_option maxHeartbeats 1000000 in
theorem bSame_any (alx aly ahx ahy blx bly bhx bhy : Nat) (w : World) : Calls Tryz.prog 34 #[.agg #[.float .f64 alx, .float .f64 aly, .float .f64 ahx, .float .f64 ahy], .agg #[.float .f64 blx, .float .f64 bly, .float .f64 bhx, .float .f64 bhy]] w fun e w' => e = .returned (.bool ((smK .f64 alx blx && smK .f64 aly bly) && (smK .f64 ahx bhx && smK .f64 ahy bhy))) ∧ Bel w w' := by
  cases h1 : (smK .f64 alx blx && smK .f64 aly bly)
  all_goals
    go_enter Tryz.func34, Tryz.ntmps34
    go_wp2_with (first | (go_at_call 62; refine (rSame_any _ _ _ _ _).mono ?_; rintro e w' ⟨rfl, hb⟩; have ka0 := keep hb (a := ⟨w.heap.size, 0, none⟩) (v := .float .f64 alx) (by first | assumption | go_keep | exact up_alloc (by go_keep) | exact (cell_own (by simp) _ _ _).1 | exact (cell_own (by simp) _ _ _).2 | exact up_alloc (cell_own (by simp) _ _ _).1 | exact up_alloc (cell_own (by simp) _ _ _).2); have ka1 := keep hb (a := ⟨w.heap.size, 1, none⟩) (v := .float .f64 aly) (by first | assumption | go_keep | exact up_alloc (by go_keep) | exact (cell_own (by simp) _ _ _).1 | exact (cell_own (by simp) _ _ _).2 | exact up_alloc (cell_own (by simp) _ _ _).1 | exact up_alloc (cell_own (by simp) _ _ _).2); have ka2 := keep hb (a := ⟨w.heap.size, 2, none⟩) (v := .float .f64 ahx) (by first | assumption | go_keep | exact up_alloc (by go_keep) | exact (cell_own (by simp) _ _ _).1 | exact (cell_own (by simp) _ _ _).2 | exact up_alloc (cell_own (by simp) _ _ _).1 | exact up_alloc (cell_own (by simp) _ _ _).2); have ka3 := keep hb (a := ⟨w.heap.size, 3, none⟩) (v := .float .f64 ahy) (by first | assumption | go_keep | exact up_alloc (by go_keep) | exact (cell_own (by simp) _ _ _).1 | exact (cell_own (by simp) _ _ _).2 | exact up_alloc (cell_own (by simp) _ _ _).1 | exact up_alloc (cell_own (by simp) _ _ _).2); have kb0 := keep hb (a := ⟨w.heap.size + 1, 0, none⟩) (v := .float .f64 blx) (by first | assumption | go_keep | exact up_alloc (by go_keep) | exact (cell_own (by simp) _ _ _).1 | exact (cell_own (by simp) _ _ _).2 | exact up_alloc (cell_own (by simp) _ _ _).1 | exact up_alloc (cell_own (by simp) _ _ _).2); have kb1 := keep hb (a := ⟨w.heap.size + 1, 1, none⟩) (v := .float .f64 bly) (by first | assumption | go_keep | exact up_alloc (by go_keep) | exact (cell_own (by simp) _ _ _).1 | exact (cell_own (by simp) _ _ _).2 | exact up_alloc (cell_own (by simp) _ _ _).1 | exact up_alloc (cell_own (by simp) _ _ _).2); have kb2 := keep hb (a := ⟨w.heap.size + 1, 2, none⟩) (v := .float .f64 bhx) (by first | assumption | go_keep | exact up_alloc (by go_keep) | exact (cell_own (by simp) _ _ _).1 | exact (cell_own (by simp) _ _ _).2 | exact up_alloc (cell_own (by simp) _ _ _).1 | exact up_alloc (cell_own (by simp) _ _ _).2); have kb3 := keep hb (a := ⟨w.heap.size + 1, 3, none⟩) (v := .float .f64 bhy) (by first | assumption | go_keep | exact up_alloc (by go_keep) | exact (cell_own (by simp) _ _ _).1 | exact (cell_own (by simp) _ _ _).2 | exact up_alloc (cell_own (by simp) _ _ _).1 | exact up_alloc (cell_own (by simp) _ _ _).2)))
    go_ret
    refine ⟨by first | rfl | simp [h1], ?_⟩
    repeat (first | exact bl_refl _ | assumption | apply bl_drewN | apply bl_drew | apply bl_alloc | refine bl_set ?_ (by simp <;> omega) | refine bl_trans ?_ (by assumption))
set_option maxHeartbeats 1000000 in
theorem rCheck_any (lx ly hx hy : Nat) (w : World) : Calls Tryz.prog 41 #[.agg #[.float .f64 lx, .float .f64 ly, .float .f64 hx, .float .f64 hy]] w fun e w' => e = .returned (.int .i64 (chkN (bChk lx ly hx hy))) ∧ Bel w w' := by
  have c2 := cmp_gt .f64
  rw [← Bool.not_not (bChk lx ly hx hy), ← bChk_eq2]
  cases h1 : (finK .f64 lx && finK .f64 ly) <;> cases h2 : (finK .f64 hx && finK .f64 hy) <;> cases h3 : ltK .f64 hx lx <;> cases h4 : ltK .f64 hy ly
  all_goals
    go_enter Tryz.func41, Tryz.ntmps41
    go_wp2_with (first | (go_at_call 68; refine (rFinite_any _ _ _).mono ?_; rintro e w' ⟨rfl, hb⟩; have k0 := keep hb (a := ⟨w.heap.size, 0, none⟩) (v := .float .f64 lx) (by first | assumption | go_keep | exact up_alloc (by go_keep) | exact (cell_own (by simp) _ _ _).1 | exact (cell_own (by simp) _ _ _).2 | exact up_alloc (cell_own (by simp) _ _ _).1 | exact up_alloc (cell_own (by simp) _ _ _).2); have k1 := keep hb (a := ⟨w.heap.size, 1, none⟩) (v := .float .f64 ly) (by first | assumption | go_keep | exact up_alloc (by go_keep) | exact (cell_own (by simp) _ _ _).1 | exact (cell_own (by simp) _ _ _).2 | exact up_alloc (cell_own (by simp) _ _ _).1 | exact up_alloc (cell_own (by simp) _ _ _).2); have k2 := keep hb (a := ⟨w.heap.size, 2, none⟩) (v := .float .f64 hx) (by first | assumption | go_keep | exact up_alloc (by go_keep) | exact (cell_own (by simp) _ _ _).1 | exact (cell_own (by simp) _ _ _).2 | exact up_alloc (cell_own (by simp) _ _ _).1 | exact up_alloc (cell_own (by simp) _ _ _).2); have k3 := keep hb (a := ⟨w.heap.size, 3, none⟩) (v := .float .f64 hy) (by first | assumption | go_keep | exact up_alloc (by go_keep) | exact (cell_own (by simp) _ _ _).1 | exact (cell_own (by simp) _ _ _).2 | exact up_alloc (cell_own (by simp) _ _ _).1 | exact up_alloc (cell_own (by simp) _ _ _).2)))
    go_ret
    refine ⟨by first | rfl | simp [chkN], ?_⟩
    repeat (first | exact bl_refl _ | assumption | apply bl_drewN | apply bl_drew | apply bl_alloc | refine bl_set ?_ (by simp <;> omega) | refine bl_trans ?_ (by assumption))
set_option maxHeartbeats 1000000 in
theorem rOver_any (alx aly ahx ahy blx bly bhx bhy : Nat) (w : World) : Calls Tryz.prog 63 #[.agg #[.float .f64 alx, .float .f64 aly, .float .f64 ahx, .float .f64 ahy], .agg #[.float .f64 blx, .float .f64 bly, .float .f64 bhx, .float .f64 bhy]] w fun e w' => e = .returned (.bool (bOver alx aly ahx ahy blx bly bhx bhy)) ∧ Bel w w' := by
  have c1 := cmp_le .f64
  unfold bOver
  cases h0 : leK .f64 alx bhx <;> cases h1 : leK .f64 blx ahx <;> cases h2 : leK .f64 aly bhy
  all_goals
    go_enter Tryz.func63, Tryz.ntmps63
    go_wp2
    go_ret
    refine ⟨by first | rfl | simp [*], ?_⟩
    repeat (first | exact bl_refl _ | assumption | apply bl_drewN | apply bl_drew | apply bl_alloc | refine bl_set ?_ (by simp <;> omega) | refine bl_trans ?_ (by assumption))


end Go.Proofs.YtekhnolpgoejdaaGreat
