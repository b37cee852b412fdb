/-
  What each function of package turn answers, and what the reference of its chapter answers: one contract a function, for every float: the answer stands in the relation of its formula to what was given; of the memory that was there nothing has turned.
-/
import Derived.Test.YtoljkokcgmigeaaVec
import Derived.Test.YtoljkokcgmigeaaTurn
import Derived.Below
import Derived.WalkKit
import Derived.WalkLawsBesides
import Derived.WalkSpells
import Derived.ProofKit
import Derived.OpenShut
import Derived.Deep.RegionHeld3
namespace Go.Proofs.Ytoljkokcgmigeaa
open Go.ChangeShapes Go.WideShapes Go.ChangeAt Go.RowKit
set_option linter.unusedVariables false
set_option linter.unusedSimpArgs false


theorem qSquare_any (x y : Nat) (w : World) : Calls Try.prog 72 #[.complex .f64 x y] w fun e w' => ∃ s, DotR x y x y s ∧ e = .returned (.float .f64 s) ∧ Bel w w' := by
  have q1 := run_add Try.prog
  have q2 := run_sub Try.prog
  have q3 := run_mul Try.prog
  have q4 := run_quo Try.prog
  go_enter Try.func72, Try.ntmps72
  go_wp2
  go_ret
  refine ⟨_, ⟨_, _, fv_res _ _ _ _ _, fv_res _ _ _ _ _, fv_res _ _ _ _ _⟩, rfl, ?_⟩
  repeat (first | exact bl_refl _ | assumption | apply bl_drewN | apply bl_drew | apply bl_alloc | refine bl_set ?_ (by simp <;> omega) | refine bl_trans ?_ (by assumption))

theorem qFinite_any (x : Nat) (w : World) : Calls Try.prog 73 #[.float .f64 x] w fun e w' => e = .returned (.bool (finK .f64 x)) ∧ w' = w := by
  have c1 := cmp_ge .f64
  have c2 := cmp_le .f64
  rw [← fin_bounds x]
  cases h1 : leK .f64 18442240474082181119 x
  all_goals
    go_enter Try.func73, Try.ntmps73
    go_wp2
    go_ret
    exact ⟨by simp [h1], rfl⟩
theorem qCheck_any (x y : Nat) (w : World) : Calls Try.prog 49 #[.complex .f64 x y] w fun e w' => ∃ s, DotR x y x y s ∧ e = .returned (.int .i64 (errT (chk s))) ∧ Bel w w' := by
  have c1 := cmp_ge .f64
  have c2 := cmp_le .f64
  cases f1 : finK .f64 x <;> cases f2 : finK .f64 y
  all_goals
    go_enter Try.func49, Try.ntmps49
    go_wp2_with (first | (go_at_call 72; refine (qSquare_any _ _ _).mono ?_; rintro e w' ⟨s, hs, rfl, hb⟩; cases h1 : leK .f64 4607182418800009216 s <;> cases h2 : leK .f64 s 4607182418800021504) | (go_at_call 73; refine (qFinite_any _ _).mono ?_; rintro e w' ⟨rfl, rfl⟩))
  all_goals
    go_ret
    refine ⟨_, hs, ?_, ?_⟩
    · first | (simp [errT, chk, lo40, hi40, h1, h2]; done) | (exfalso; have z := chk_fin hs (by simp [chk, lo40, hi40, h1, h2]); simp [f1, f2] at z)
    repeat (first | exact bl_refl _ | assumption | apply bl_drewN | apply bl_drew | apply bl_alloc | refine bl_set ?_ (by simp <;> omega) | refine bl_trans ?_ (by assumption))
set_option maxHeartbeats 400000 in
theorem qUnit_any (x y : Nat) (w : World) : Calls Try.prog 65 #[.complex .f64 x y] w fun e w' => ∃ u v b, TUnitR x y u v b ∧ e = .returned (.tuple #[.complex .f64 u v, .bool b]) ∧ Bel w w' := by
  have q4 := run_quo Try.prog
  have e1 : errT true = 0 := rfl
  have e2 : errT false = 30 := rfl
  go_enter Try.func65, Try.ntmps65
  go_wp2_with (first | (go_at_call 72; refine (qSquare_any _ _ _).mono ?_; rintro e w' ⟨n0, hn, rfl, hb⟩) | (go_at_call 78; refine (sqrt_any _ _).mono ?_; rintro e w' ⟨r2, n, hr2, rfl, rfl⟩) | (go_at_call 49; refine (qCheck_any _ _ _).mono ?_; rintro e w' ⟨s, hs, rfl, hb3⟩; cases h1 : chk s))
  · refine bodyPost_ret (v := .tuple #[.complex .f64 0 0, .bool false]) (by simp [results, Try.results65, go_sem] <;> exact ⟨rfl, rfl⟩) rfl ⟨_, _, _, ⟨_, _, _, _, ⟨_, hn, hr2⟩, fv_res _ _ _ _ _, fv_res _ _ _ _ _, hs, h1.symm, rfl, rfl⟩, rfl, ?_⟩
    repeat (first | exact bl_refl _ | assumption | apply bl_drewN | apply bl_drew | apply bl_alloc | refine bl_set ?_ (by simp <;> omega) | refine bl_trans ?_ (by assumption))
  · refine bodyPost_ret (v := .tuple #[.complex .f64 _ _, .bool true]) (by simp [results, Try.results65, go_sem] <;> exact ⟨rfl, rfl⟩) rfl ⟨_, _, _, ⟨_, _, _, _, ⟨_, hn, hr2⟩, fv_res _ _ _ _ _, fv_res _ _ _ _ _, hs, h1.symm, rfl, rfl⟩, rfl, ?_⟩
    repeat (first | exact bl_refl _ | assumption | apply bl_drewN | apply bl_drew | apply bl_alloc | refine bl_set ?_ (by simp <;> omega) | refine bl_trans ?_ (by assumption))
theorem qBy_any (t : Nat) (w : World) : Calls Try.prog 64 #[.float .f64 t] w fun e w' => ∃ x y, TByR t x y ∧ e = .returned (.complex .f64 x y) ∧ Bel w w' := by
  have q1 := run_add Try.prog
  have q2 := run_sub Try.prog
  have q3 := run_mul Try.prog
  have q4 := run_quo Try.prog
  have c1 := cmp_gt .f64
  have hs := fv_res .mul .f64 t t w
  cases h1 : ltK .f64 9218868437227405311 (fv .mul .f64 t t w)
  all_goals
    go_enter Try.func64, Try.ntmps64
    go_wp2
    go_ret
    refine ⟨_, _, ⟨_, hs, ?_⟩, rfl, ?_⟩
    · rw [h1]
      first | exact ⟨rfl, rfl⟩ | (simp only [Bool.false_eq_true, if_false]; exact ⟨_, _, _, fv_res _ _ _ _ _, fv_res _ _ _ _ _, fv_res _ _ _ _ _, fv_res _ _ _ _ _, fv_res _ _ _ _ _⟩)
    repeat (first | exact bl_refl _ | assumption | apply bl_drewN | apply bl_drew | apply bl_alloc | refine bl_set ?_ (by simp <;> omega) | refine bl_trans ?_ (by assumption))
theorem qThen_any (x y u v : Nat) (w : World) : Calls Try.prog 60 #[.complex .f64 x y, .complex .f64 u v] w fun e w' => ∃ r i, ThenR x y u v r i ∧ e = .returned (.complex .f64 r i) ∧ Bel w w' := by
  have q1 := run_add Try.prog
  have q2 := run_sub Try.prog
  have q3 := run_mul Try.prog
  have q4 := run_quo Try.prog
  go_enter Try.func60, Try.ntmps60
  go_wp2
  go_ret
  refine ⟨_, _, ⟨_, _, _, _, fv_res _ _ _ _ _, fv_res _ _ _ _ _, fv_res _ _ _ _ _, fv_res _ _ _ _ _, fv_res _ _ _ _ _, fv_res _ _ _ _ _⟩, rfl, ?_⟩
  repeat (first | exact bl_refl _ | assumption | apply bl_drewN | apply bl_drew | apply bl_alloc | refine bl_set ?_ (by simp <;> omega) | refine bl_trans ?_ (by assumption))
theorem qBack_any (x y : Nat) (w : World) : Calls Try.prog 63 #[.complex .f64 x y] w fun e w' => e = .returned (.complex .f64 x (Op.negFloat .f64 y)) ∧ w' = w := by
  have q := run_neg Try.prog
  go_enter Try.func63, Try.ntmps63
  go_wp2
  go_ret
  exact ⟨rfl, rfl⟩
theorem qApply_any (x y u v : Nat) (w : World) : Calls Try.prog 55 #[.complex .f64 x y, .agg #[.float .f64 u, .float .f64 v]] w fun e w' => ∃ r i, ApplyR x y u v r i ∧ e = .returned (.agg #[.float .f64 r, .float .f64 i]) ∧ Bel w w' := by
  have q1 := run_add Try.prog
  have q2 := run_sub Try.prog
  have q3 := run_mul Try.prog
  have q4 := run_quo Try.prog
  go_enter Try.func55, Try.ntmps55
  go_wp2
  refine bodyPost_ret (v := .agg #[.float .f64 _, .float .f64 _]) (by simp [results, Try.results55, go_sem] <;> exact ⟨rfl, rfl⟩) rfl ⟨_, _, ⟨_, _, _, _, fv_res _ _ _ _ _, fv_res _ _ _ _ _, fv_res _ _ _ _ _, fv_res _ _ _ _ _, fv_res _ _ _ _ _, fv_res _ _ _ _ _⟩, rfl, ?_⟩
  repeat (first | exact bl_refl _ | assumption | apply bl_drewN | apply bl_drew | apply bl_alloc | refine bl_set ?_ (by simp <;> omega) | refine bl_trans ?_ (by assumption))
theorem qUndo_any (x y u v : Nat) (w : World) : Calls Try.prog 58 #[.complex .f64 x y, .agg #[.float .f64 u, .float .f64 v]] w fun e w' => ∃ r i, UndoR x y u v r i ∧ e = .returned (.agg #[.float .f64 r, .float .f64 i]) ∧ Bel w w' := by
  have q1 := run_add Try.prog
  have q2 := run_sub Try.prog
  have q3 := run_mul Try.prog
  have q4 := run_quo Try.prog
  go_enter Try.func58, Try.ntmps58
  go_wp2
  refine bodyPost_ret (v := .agg #[.float .f64 _, .float .f64 _]) (by simp [results, Try.results58, go_sem] <;> exact ⟨rfl, rfl⟩) rfl ⟨_, _, ⟨_, _, _, _, fv_res _ _ _ _ _, fv_res _ _ _ _ _, fv_res _ _ _ _ _, fv_res _ _ _ _ _, fv_res _ _ _ _ _, fv_res _ _ _ _ _⟩, rfl, ?_⟩
  repeat (first | exact bl_refl _ | assumption | apply bl_drewN | apply bl_drew | apply bl_alloc | refine bl_set ?_ (by simp <;> omega) | refine bl_trans ?_ (by assumption))

end Go.Proofs.Ytoljkokcgmigeaa
