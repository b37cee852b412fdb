/-
  What each function of package turn answers, and what the reference of its chapter answers: one contract a function, for every float: the answer stands in the relation of its formula to what was given; of the memory that was there nothing has turned.
-/
import Derived.Test.YtbphmjfgpkjecaaVec
import Derived.Test.YtbphmjfgpkjecaaTurn
import Derived.Below
import Derived.WalkKit
import Derived.WalkLawsBesides
import Derived.WalkSpells
import Derived.ProofKit
import Derived.OpenShut
import Derived.Deep.RegionHeld3
namespace Go.Proofs.Ytbphmjfgpkjecaa
open Go.ChangeShapes Go.WideShapes Go.ChangeAt Go.RowKit
set_option linter.unusedVariables false
set_option linter.unusedSimpArgs false


theorem lnumber_any (x y : Nat) (w : World) : Calls Try.prog 11 #[.agg #[.int .u64 ((x : Nat) : Int), .int .u64 ((y : Nat) : Int)]] w fun e w' => e = .returned (.complex .f64 x y) ∧ Bel w w' := by
  have q := from_run
  go_enter Try.func11, Try.ntmps11
  go_wp2
  go_region_held3 (fun w1 => w1.cell? ⟨w.heap.size, 0, none⟩ = some (.int .u64 (x : Nat)) ∧ w1.cell? ⟨w.heap.size, 1, none⟩ = some (.int .u64 (y : Nat))) (first | go_keep | (go_split_ands; go_keep)) (first | fail)
  all_goals go_wp2
  go_ret
  refine ⟨rfl, ?_⟩
  repeat (first | exact bl_refl _ | assumption | apply bl_drewN | apply bl_drew | apply bl_alloc | refine bl_set ?_ (by simp <;> omega) | refine bl_trans ?_ (by assumption))

theorem lway_any (x y : Nat) (w : World) : Calls Try.prog 14 #[.agg #[.int .u64 ((x : Nat) : Int), .int .u64 ((y : Nat) : Int)]] w fun e w' => e = .returned (.agg #[.float .f64 x, .float .f64 y]) ∧ Bel w w' := by
  have q := from_run
  go_enter Try.func14, Try.ntmps14
  go_wp2
  go_region_held3 (fun w1 => w1.cell? ⟨w.heap.size, 0, none⟩ = some (.int .u64 (x : Nat)) ∧ w1.cell? ⟨w.heap.size, 1, none⟩ = some (.int .u64 (y : Nat))) (first | go_keep | (go_split_ands; go_keep)) (first | fail)
  all_goals go_wp2
  refine bodyPost_ret (v := .agg #[.float .f64 x, .float .f64 y]) (by simp [results, Try.results14, go_sem] <;> exact ⟨rfl, rfl⟩) rfl ⟨rfl, ?_⟩
  repeat (first | exact bl_refl _ | assumption | apply bl_drewN | apply bl_drew | apply bl_alloc | refine bl_set ?_ (by simp <;> omega) | refine bl_trans ?_ (by assumption))

theorem rSquare_any (x y : Nat) (w : World) : Calls Try.prog 45 #[.complex .f64 x y] w fun e w' => ∃ s, DotR x y x y s ∧ e = .returned (.float .f64 s) ∧ Bel w w' := by
  have q1 := run_add Try.prog
  have q2 := run_sub Try.prog
  have q3 := run_mul Try.prog
  have q4 := run_quo Try.prog
  go_enter Try.func45, Try.ntmps45
  go_wp2
  go_ret
  refine ⟨_, ⟨_, _, fv_res _ _ _ _ _, fv_res _ _ _ _ _, fv_res _ _ _ _ _⟩, rfl, ?_⟩
  repeat (first | exact bl_refl _ | assumption | apply bl_drewN | apply bl_drew | apply bl_alloc | refine bl_set ?_ (by simp <;> omega) | refine bl_trans ?_ (by assumption))

theorem lsquare_any (x y : Nat) (w : World) : Calls Try.prog 37 #[.complex .f64 x y] w fun e w' => ∃ s, DotR x y x y s ∧ e = .returned (.float .f64 s) ∧ Bel w w' := by
  have q1 := run_add Try.prog
  have q2 := run_sub Try.prog
  have q3 := run_mul Try.prog
  have q4 := run_quo Try.prog
  go_enter Try.func37, Try.ntmps37
  go_wp2
  go_ret
  refine ⟨_, ⟨_, _, fv_res _ _ _ _ _, fv_res _ _ _ _ _, fv_res _ _ _ _ _⟩, rfl, ?_⟩
  repeat (first | exact bl_refl _ | assumption | apply bl_drewN | apply bl_drew | apply bl_alloc | refine bl_set ?_ (by simp <;> omega) | refine bl_trans ?_ (by assumption))

theorem lsmall_any (x : Nat) (ox : okK .f64 x) (w : World) : Calls Try.prog 41 #[.float .f64 x] w fun e w' => e = .returned (.bool (eqK .f64 (rgK .f64 x) 0 || (leK .f64 3256102530588868608 (rgK .f64 x) && leK .f64 (rgK .f64 x) 5958262307011166208))) ∧ w' = w := by
  have c1 := cmp_eq .f64
  have c2 := cmp_gt .f64
  have c3 := lt_or_eq .f64
  have c4 := cmp_lt .f64
  have c5 := lt_or_eq' .f64
  cases h1 : eqK .f64 (rgK .f64 x) 0 <;> cases h2 : leK .f64 3256102530588868608 (rgK .f64 x)
  all_goals
    go_enter Try.func41, Try.ntmps41
    go_wp2_with (first | (go_at_call 40; refine (abs_any _ _ (by assumption)).mono ?_; rintro e w' ⟨rfl, rfl⟩))
    go_ret
    exact ⟨by simp [h1, h2], rfl⟩

theorem rFinite_any (x : Nat) (w : World) : Calls Try.prog 49 #[.float .f64 x] w fun e w' => e = .returned (.bool (finK .f64 x)) ∧ w' = w := by
  have c1 := cmp_ge .f64
  have c2 := cmp_le .f64
  rw [← fin_bounds x]
  cases h1 : leK .f64 18442240474082181119 x
  all_goals
    go_enter Try.func49, Try.ntmps49
    go_wp2
    go_ret
    exact ⟨by simp [h1], rfl⟩
theorem rCheck_any (x y : Nat) (w : World) : Calls Try.prog 23 #[.complex .f64 x y] w fun e w' => ∃ s, DotR x y x y s ∧ e = .returned (.int .i64 (errT (chk s))) ∧ Bel w w' := by
  have c1 := cmp_ge .f64
  have c2 := cmp_le .f64
  cases f1 : finK .f64 x <;> cases f2 : finK .f64 y
  all_goals
    go_enter Try.func23, Try.ntmps23
    go_wp2_with (first | (go_at_call 45; refine (rSquare_any _ _ _).mono ?_; rintro e w' ⟨s, hs, rfl, hb⟩; cases h1 : leK .f64 4607182418800009216 s <;> cases h2 : leK .f64 s 4607182418800021504) | (go_at_call 49; refine (rFinite_any _ _).mono ?_; rintro e w' ⟨rfl, rfl⟩))
  all_goals
    go_ret
    refine ⟨_, hs, ?_, ?_⟩
    · first | (simp [errT, chk, lo40, hi40, h1, h2]; done) | (exfalso; have z := chk_fin hs (by simp [chk, lo40, hi40, h1, h2]); simp [f1, f2] at z)
    repeat (first | exact bl_refl _ | assumption | apply bl_drewN | apply bl_drew | apply bl_alloc | refine bl_set ?_ (by simp <;> omega) | refine bl_trans ?_ (by assumption))
set_option maxHeartbeats 400000 in
theorem rUnit_any (x y : Nat) (w : World) : Calls Try.prog 12 #[.complex .f64 x y] w fun e w' => ∃ u v b, TUnitR x y u v b ∧ e = .returned (.tuple #[.complex .f64 u v, .bool b]) ∧ Bel w w' := by
  have q4 := run_quo Try.prog
  have e1 : errT true = 0 := rfl
  have e2 : errT false = 30 := rfl
  go_enter Try.func12, Try.ntmps12
  go_wp2_with (first | (go_at_call 45; refine (rSquare_any _ _ _).mono ?_; rintro e w' ⟨n0, hn, rfl, hb⟩) | (go_at_call 44; refine (sqrt_any _ _).mono ?_; rintro e w' ⟨r2, n, hr2, rfl, rfl⟩) | (go_at_call 23; refine (rCheck_any _ _ _).mono ?_; rintro e w' ⟨s, hs, rfl, hb3⟩; cases h1 : chk s))
  · refine bodyPost_ret (v := .tuple #[.complex .f64 0 0, .bool false]) (by simp [results, Try.results12, go_sem] <;> exact ⟨rfl, rfl⟩) rfl ⟨_, _, _, ⟨_, _, _, _, ⟨_, hn, hr2⟩, fv_res _ _ _ _ _, fv_res _ _ _ _ _, hs, h1.symm, rfl, rfl⟩, rfl, ?_⟩
    repeat (first | exact bl_refl _ | assumption | apply bl_drewN | apply bl_drew | apply bl_alloc | refine bl_set ?_ (by simp <;> omega) | refine bl_trans ?_ (by assumption))
  · refine bodyPost_ret (v := .tuple #[.complex .f64 _ _, .bool true]) (by simp [results, Try.results12, go_sem] <;> exact ⟨rfl, rfl⟩) rfl ⟨_, _, _, ⟨_, _, _, _, ⟨_, hn, hr2⟩, fv_res _ _ _ _ _, fv_res _ _ _ _ _, hs, h1.symm, rfl, rfl⟩, rfl, ?_⟩
    repeat (first | exact bl_refl _ | assumption | apply bl_drewN | apply bl_drew | apply bl_alloc | refine bl_set ?_ (by simp <;> omega) | refine bl_trans ?_ (by assumption))
theorem rOf_any (x y : Nat) (w : World) : Calls Try.prog 15 #[.agg #[.float .f64 x, .float .f64 y]] w fun e w' => ∃ u v b, TUnitR x y u v b ∧ e = .returned (.tuple #[.complex .f64 u v, .bool b]) ∧ Bel w w' := by
  go_enter Try.func15, Try.ntmps15
  go_wp2_with (first | (go_at_call 12; refine (rUnit_any _ _ _).mono ?_; rintro e w' ⟨u, v, b, hu, rfl, hb2⟩))
  refine bodyPost_ret (v := .tuple #[.complex .f64 _ _, .bool _]) (by simp [results, Try.results15, go_sem] <;> exact ⟨rfl, rfl⟩) rfl ⟨_, _, _, hu, rfl, ?_⟩
  repeat (first | exact bl_refl _ | assumption | apply bl_drewN | apply bl_drew | apply bl_alloc | refine bl_set ?_ (by simp <;> omega) | refine bl_trans ?_ (by assumption))
theorem rBy_any (t : Nat) (w : World) : Calls Try.prog 19 #[.float .f64 t] w fun e w' => ∃ x y, TByR t x y ∧ e = .returned (.complex .f64 x y) ∧ Bel w w' := by
  have q1 := run_add Try.prog
  have q2 := run_sub Try.prog
  have q3 := run_mul Try.prog
  have q4 := run_quo Try.prog
  have c1 := cmp_gt .f64
  have hs := fv_res .mul .f64 t t w
  cases h1 : ltK .f64 9218868437227405311 (fv .mul .f64 t t w)
  all_goals
    go_enter Try.func19, Try.ntmps19
    go_wp2
    go_ret
    refine ⟨_, _, ⟨_, hs, ?_⟩, rfl, ?_⟩
    · rw [h1]
      first | exact ⟨rfl, rfl⟩ | (simp only [Bool.false_eq_true, if_false]; exact ⟨_, _, _, fv_res _ _ _ _ _, fv_res _ _ _ _ _, fv_res _ _ _ _ _, fv_res _ _ _ _ _, fv_res _ _ _ _ _⟩)
    repeat (first | exact bl_refl _ | assumption | apply bl_drewN | apply bl_drew | apply bl_alloc | refine bl_set ?_ (by simp <;> omega) | refine bl_trans ?_ (by assumption))
theorem rThen_any (x y u v : Nat) (w : World) : Calls Try.prog 25 #[.complex .f64 x y, .complex .f64 u v] w fun e w' => ∃ r i, ThenR x y u v r i ∧ e = .returned (.complex .f64 r i) ∧ Bel w w' := by
  have q1 := run_add Try.prog
  have q2 := run_sub Try.prog
  have q3 := run_mul Try.prog
  have q4 := run_quo Try.prog
  go_enter Try.func25, Try.ntmps25
  go_wp2
  go_ret
  refine ⟨_, _, ⟨_, _, _, _, fv_res _ _ _ _ _, fv_res _ _ _ _ _, fv_res _ _ _ _ _, fv_res _ _ _ _ _, fv_res _ _ _ _ _, fv_res _ _ _ _ _⟩, rfl, ?_⟩
  repeat (first | exact bl_refl _ | assumption | apply bl_drewN | apply bl_drew | apply bl_alloc | refine bl_set ?_ (by simp <;> omega) | refine bl_trans ?_ (by assumption))
theorem rBack_any (x y : Nat) (w : World) : Calls Try.prog 21 #[.complex .f64 x y] w fun e w' => e = .returned (.complex .f64 x (Op.negFloat .f64 y)) ∧ w' = w := by
  have q := run_neg Try.prog
  go_enter Try.func21, Try.ntmps21
  go_wp2
  go_ret
  exact ⟨rfl, rfl⟩
theorem rApply_any (x y u v : Nat) (w : World) : Calls Try.prog 34 #[.complex .f64 x y, .agg #[.float .f64 u, .float .f64 v]] w fun e w' => ∃ r i, ApplyR x y u v r i ∧ e = .returned (.agg #[.float .f64 r, .float .f64 i]) ∧ Bel w w' := by
  have q1 := run_add Try.prog
  have q2 := run_sub Try.prog
  have q3 := run_mul Try.prog
  have q4 := run_quo Try.prog
  go_enter Try.func34, Try.ntmps34
  go_wp2
  refine bodyPost_ret (v := .agg #[.float .f64 _, .float .f64 _]) (by simp [results, Try.results34, go_sem] <;> exact ⟨rfl, rfl⟩) rfl ⟨_, _, ⟨_, _, _, _, fv_res _ _ _ _ _, fv_res _ _ _ _ _, fv_res _ _ _ _ _, fv_res _ _ _ _ _, fv_res _ _ _ _ _, fv_res _ _ _ _ _⟩, rfl, ?_⟩
  repeat (first | exact bl_refl _ | assumption | apply bl_drewN | apply bl_drew | apply bl_alloc | refine bl_set ?_ (by simp <;> omega) | refine bl_trans ?_ (by assumption))
theorem rUndo_any (x y u v : Nat) (w : World) : Calls Try.prog 36 #[.complex .f64 x y, .agg #[.float .f64 u, .float .f64 v]] w fun e w' => ∃ r i, UndoR x y u v r i ∧ e = .returned (.agg #[.float .f64 r, .float .f64 i]) ∧ Bel w w' := by
  have q1 := run_add Try.prog
  have q2 := run_sub Try.prog
  have q3 := run_mul Try.prog
  have q4 := run_quo Try.prog
  go_enter Try.func36, Try.ntmps36
  go_wp2
  refine bodyPost_ret (v := .agg #[.float .f64 _, .float .f64 _]) (by simp [results, Try.results36, go_sem] <;> exact ⟨rfl, rfl⟩) rfl ⟨_, _, ⟨_, _, _, _, fv_res _ _ _ _ _, fv_res _ _ _ _ _, fv_res _ _ _ _ _, fv_res _ _ _ _ _, fv_res _ _ _ _ _, fv_res _ _ _ _ _⟩, rfl, ?_⟩
  repeat (first | exact bl_refl _ | assumption | apply bl_drewN | apply bl_drew | apply bl_alloc | refine bl_set ?_ (by simp <;> omega) | refine bl_trans ?_ (by assumption))
theorem rAngle_any (x y u v : Nat) (w : World) : Calls Try.prog 31 #[.complex .f64 x y, .complex .f64 u v] w fun e w' => ∃ r, CrossR x y u v r ∧ e = .returned (.float .f64 r) ∧ Bel w w' := by
  have q1 := run_add Try.prog
  have q2 := run_sub Try.prog
  have q3 := run_mul Try.prog
  have q4 := run_quo Try.prog
  go_enter Try.func31, Try.ntmps31
  go_wp2
  go_ret
  refine ⟨_, ⟨_, _, fv_res _ _ _ _ _, fv_res _ _ _ _ _, fv_res _ _ _ _ _⟩, rfl, ?_⟩
  repeat (first | exact bl_refl _ | assumption | apply bl_drewN | apply bl_drew | apply bl_alloc | refine bl_set ?_ (by simp <;> omega) | refine bl_trans ?_ (by assumption))
theorem sameFloat_any (a b : Nat) (w : World) : Calls Try.prog 29 #[.float .f64 a, .float .f64 b] w fun e w' => e = .returned (.bool (smK .f64 a b)) ∧ w' = w := by
  have c1 := cmp_ne .f64
  have c2 := eqK_self .f64
  have q := bits_run
  rw [sm_bits]
  have hq := beq_cast a b
  obtain rfl | h1 : a = b ∨ ¬ a = b := by omega
  all_goals cases h2 : nanK .f64 a
  all_goals
    go_enter Try.func29, Try.ntmps29
    go_wp2
    go_ret
    exact ⟨by first | (simp [h2]; done) | (rw [hq]; simp [h1, h2]; done) | simp [h1, h2], rfl⟩
theorem rSame_any (x y u v : Nat) (w : World) : Calls Try.prog 17 #[.complex .f64 x y, .complex .f64 u v] w fun e w' => e = .returned (.bool (smK .f64 x u && smK .f64 y v)) ∧ w' = w := by
  cases h1 : smK .f64 x u
  all_goals
    go_enter Try.func17, Try.ntmps17
    go_wp2_with (first | (go_at_call 29; refine (sameFloat_any _ _ _).mono ?_; rintro e w' ⟨rfl, rfl⟩))
    go_ret
    exact ⟨rfl, rfl⟩
theorem rSame_true (x y u v : Nat) (w : World) (h1 : smK .f64 x u = true) (h2 : smK .f64 y v = true) : Calls Try.prog 17 #[.complex .f64 x y, .complex .f64 u v] w fun e w' => e = .returned (.bool true) ∧ w' = w := by
  have h := rSame_any x y u v w
  rw [h1, h2] at h
  exact h
theorem rSameVec_any (x y u v : Nat) (w : World) : Calls Try.prog 32 #[.agg #[.float .f64 x, .float .f64 y], .agg #[.float .f64 u, .float .f64 v]] w fun e w' => e = .returned (.bool (smK .f64 x u && smK .f64 y v)) ∧ Bel w w' := by
  cases h1 : smK .f64 x u
  all_goals
    go_enter Try.func32, Try.ntmps32
    go_wp2_with (first | (go_at_call 29; refine (sameFloat_any _ _ _).mono ?_; rintro e w' ⟨rfl, rfl⟩))
    go_ret
    refine ⟨rfl, ?_⟩
    repeat (first | exact bl_refl _ | assumption | apply bl_drewN | apply bl_drew | apply bl_alloc | refine bl_set ?_ (by simp <;> omega) | refine bl_trans ?_ (by assumption))
theorem rSameVec_true (x y u v : Nat) (w : World) (h1 : smK .f64 x u = true) (h2 : smK .f64 y v = true) : Calls Try.prog 32 #[.agg #[.float .f64 x, .float .f64 y], .agg #[.float .f64 u, .float .f64 v]] w fun e w' => e = .returned (.bool true) ∧ Bel w w' := by
  have h := rSameVec_any x y u v w
  rw [h1, h2] at h
  exact h
theorem half_any (x y : Nat) (w : World) : Calls Try.prog 54 #[.complex .f64 x y] w fun e w' => e = .returned (.int .i64 (pcT x y : Nat)) ∧ w' = w := by
  have c0 := cmp_ne .f64
  have c00 := eqK_self .f64
  have c1 := cmp_gt .f64
  have c2 := cmp_eq .f64
  have c3 := lt_or_eq .f64
  cases h1 : nanK .f64 x <;> cases h2 : nanK .f64 y <;> cases h3 : ltK .f64 0 y <;> cases h4 : eqK .f64 y 0 <;> cases h5 : leK .f64 0 x
  all_goals
    go_enter Try.func54, Try.ntmps54
    go_wp2
    go_ret
    exact ⟨by simp [pcT, h1, h2, h3, h4, h5], rfl⟩
theorem sign_any (x y : Nat) (w : World) : Calls Try.prog 55 #[.float .f64 x, .float .f64 y] w fun e w' => e = .returned (.int .i64 (sgT x y)) ∧ w' = w := by
  have c1 := cmp_gt .f64
  have c2 := cmp_lt .f64
  cases h1 : ltK .f64 x y <;> cases h2 : ltK .f64 y x
  all_goals
    go_enter Try.func55, Try.ntmps55
    go_wp2
    go_ret
    exact ⟨by simp [sgT, h1, h2], rfl⟩
theorem rOrder_any (x y u v : Nat) (w : World) : Calls Try.prog 27 #[.complex .f64 x y, .complex .f64 u v] w fun e w' => e = .returned (.int .i64 (ordT x y u v)) ∧ w' = w := by
  have wn := wrap_sg x u
  have g1 : sgT (floatOfInt .f64 0) (floatOfInt .f64 1) = -1 := by decide +kernel
  have g2 : sgT (floatOfInt .f64 0) (floatOfInt .f64 2) = -1 := by decide +kernel
  have g3 : sgT (floatOfInt .f64 1) (floatOfInt .f64 2) = -1 := by decide +kernel
  have g4 : sgT (floatOfInt .f64 1) (floatOfInt .f64 0) = 1 := by decide +kernel
  have g5 : sgT (floatOfInt .f64 2) (floatOfInt .f64 0) = 1 := by decide +kernel
  have g6 : sgT (floatOfInt .f64 2) (floatOfInt .f64 1) = 1 := by decide +kernel
  have ha := pc_three x y
  have hb := pc_three u v
  rcases ha with ⟨ha, nx, ny⟩ | ⟨ha, nx, ny⟩ | ha <;> rcases hb with ⟨hb, nu, nv⟩ | ⟨hb, nu, nv⟩ | hb
  all_goals rcases sg_three x u with hs | hs | hs
  all_goals
    go_enter Try.func27, Try.ntmps27
    go_wp2_with (first | (go_at_call 54; refine (half_any _ _ _).mono ?_; rintro e w' ⟨rfl, rfl⟩) | (go_at_call 55; refine (sign_any _ _ _).mono ?_; rintro e w' ⟨rfl, rfl⟩))
  all_goals first | (go_ret; refine ⟨by simp [ordT, ha, hb, hs, *], rfl⟩) | trace_state

end Go.Proofs.Ytbphmjfgpkjecaa
