/-
  What each function of package turn answers, and what the reference of its chapter answers: one contract a function, for every float: the answer stands in the relation of its formula to what was given; of the memory that was there nothing has turned.
-/
import Derived.Test.YtoljkokcgmigeaaVec
import Derived.Test.YtoljkokcgmigeaaTurns
import Derived.Below
import Derived.WalkKit
import Derived.WalkLawsBesides
import Derived.WalkSpells
import Derived.ProofKit
import Derived.OpenShut
import Derived.Deep.RegionHeld3
namespace Go.Proofs.Ytoljkokcgmigeaa
open Go.ChangeShapes Go.WideShapes Go.ChangeAt Go.RowKit
set_option linter.unusedVariables false
set_option linter.unusedSimpArgs false


theorem way_any (x y : Nat) (w : World) : Calls Try.prog 67 #[.complex .f64 x y] w fun e w' => e = .returned (.agg #[.float .f64 x, .float .f64 y]) ∧ Bel w w' := by
  go_enter Try.func67, Try.ntmps67
  go_wp2
  refine bodyPost_ret (v := .agg #[.float .f64 x, .float .f64 y]) (by simp [results, Try.results67, go_sem] <;> exact ⟨rfl, rfl⟩) rfl ⟨rfl, ?_⟩
  repeat (first | exact bl_refl _ | assumption | apply bl_drewN | apply bl_drew | apply bl_alloc | refine bl_set ?_ (by simp <;> omega) | refine bl_trans ?_ (by assumption))
theorem number_any (x y : Nat) (w : World) : Calls Try.prog 86 #[.agg #[.float .f64 x, .float .f64 y]] w fun e w' => e = .returned (.complex .f64 x y) ∧ Bel w w' := by
  go_enter Try.func86, Try.ntmps86
  go_wp2
  go_ret
  refine ⟨rfl, ?_⟩
  repeat (first | exact bl_refl _ | assumption | apply bl_drewN | apply bl_drew | apply bl_alloc | refine bl_set ?_ (by simp <;> omega) | refine bl_trans ?_ (by assumption))

theorem tOne_any (w : World) : Calls Try.prog 40 #[] w fun e w' => e = .returned (.complex .f64 4607182418800017408 0) ∧ w' = w := by
  go_enter Try.func40, Try.ntmps40
  go_wp2
  go_ret
  exact ⟨rfl, rfl⟩

theorem tCheck_any (x y : Nat) (w : World) : Calls Try.prog 38 #[.complex .f64 x y] w fun e w' => ∃ s, DotR x y x y s ∧ e = .returned (.int .i64 (errT (chk s))) ∧ Bel w w' := by
  have c1 := cmp_le .f64
  go_enter Try.func38, Try.ntmps38
  go_wp2_with (first | (go_at_call 67; refine (way_any _ _ _).mono ?_; rintro e w' ⟨rfl, hb⟩) | (go_at_call 66; refine (vSquare_any _ _ _).mono ?_; rintro e w' ⟨s, hs, rfl, hb2⟩; cases h1 : leK .f64 4607182418800009216 s <;> cases h2 : leK .f64 s 4607182418800021504))
  all_goals
    go_ret
    refine ⟨_, hs, by simp [errT, chk, lo40, hi40, h1, h2], ?_⟩
    repeat (first | exact bl_refl _ | assumption | apply bl_drewN | apply bl_drew | apply bl_alloc | refine bl_set ?_ (by simp <;> omega) | refine bl_trans ?_ (by assumption))
set_option maxHeartbeats 400000 in
theorem tUnit_any (x y : Nat) (w : World) : Calls Try.prog 46 #[.complex .f64 x y] w fun e w' => ∃ u v b, TUnitR x y u v b ∧ e = .returned (.tuple #[.complex .f64 u v, .bool b]) ∧ Bel w w' := by
  have q4 := run_quo Try.prog
  have e1 : errT true = 0 := rfl
  have e2 : errT false = 30 := rfl
  go_enter Try.func46, Try.ntmps46
  go_wp2_with (first | (go_at_call 67; refine (way_any _ _ _).mono ?_; rintro e w' ⟨rfl, hb⟩) | (go_at_call 70; refine (vLength_any _ _ _).mono ?_; rintro e w' ⟨n, hn, rfl, hb2⟩) | (go_at_call 38; refine (tCheck_any _ _ _).mono ?_; rintro e w' ⟨s, hs, rfl, hb3⟩; cases h1 : chk s))
  · refine bodyPost_ret (v := .tuple #[.complex .f64 0 0, .bool false]) (by simp [results, Try.results46, go_sem] <;> exact ⟨rfl, rfl⟩) rfl ⟨_, _, _, ⟨_, _, _, _, hn, fv_res _ _ _ _ _, fv_res _ _ _ _ _, hs, h1.symm, rfl, rfl⟩, rfl, ?_⟩
    repeat (first | exact bl_refl _ | assumption | apply bl_drewN | apply bl_drew | apply bl_alloc | refine bl_set ?_ (by simp <;> omega) | refine bl_trans ?_ (by assumption))
  · refine bodyPost_ret (v := .tuple #[.complex .f64 _ _, .bool true]) (by simp [results, Try.results46, go_sem] <;> exact ⟨rfl, rfl⟩) rfl ⟨_, _, _, ⟨_, _, _, _, hn, fv_res _ _ _ _ _, fv_res _ _ _ _ _, hs, h1.symm, rfl, rfl⟩, rfl, ?_⟩
    repeat (first | exact bl_refl _ | assumption | apply bl_drewN | apply bl_drew | apply bl_alloc | refine bl_set ?_ (by simp <;> omega) | refine bl_trans ?_ (by assumption))
theorem isInf_one (x : Nat) (w : World) : Calls Try.prog 18 #[.float .f64 x, .int .i64 1] w fun e w' => e = .returned (.bool (ltK .f64 9218868437227405311 x)) ∧ w' = w := by
  have c1 := cmp_gt .f64
  go_enter Try.func18, Try.ntmps18
  go_wp2
  go_ret
  exact ⟨rfl, rfl⟩
theorem tBy_any (t : Nat) (w : World) : Calls Try.prog 45 #[.float .f64 t] w fun e w' => ∃ x y, TByR t x y ∧ e = .returned (.complex .f64 x y) ∧ Bel w w' := by
  have q1 := run_add Try.prog
  have q2 := run_sub Try.prog
  have q3 := run_mul Try.prog
  have q4 := run_quo Try.prog
  have hs := fv_res .mul .f64 t t w
  cases h1 : ltK .f64 9218868437227405311 (fv .mul .f64 t t w)
  all_goals
    go_enter Try.func45, Try.ntmps45
    go_wp2_with (first | (go_at_call 18; refine (isInf_one _ _).mono ?_; rintro e w' ⟨rfl, rfl⟩))
    go_ret
    refine ⟨_, _, ⟨_, hs, ?_⟩, rfl, ?_⟩
    · rw [h1]
      first | exact ⟨rfl, rfl⟩ | (simp only [Bool.false_eq_true, if_false]; exact ⟨_, _, _, fv_res _ _ _ _ _, fv_res _ _ _ _ _, fv_res _ _ _ _ _, fv_res _ _ _ _ _, fv_res _ _ _ _ _⟩)
    repeat (first | exact bl_refl _ | assumption | apply bl_drewN | apply bl_drew | apply bl_alloc | refine bl_set ?_ (by simp <;> omega) | refine bl_trans ?_ (by assumption))
theorem tThen_any (x y u v : Nat) (w : World) : Calls Try.prog 44 #[.complex .f64 x y, .complex .f64 u v] w fun e w' => ∃ r i, ThenR x y u v r i ∧ e = .returned (.complex .f64 r i) ∧ Bel w w' := by
  have q1 := run_add Try.prog
  have q2 := run_sub Try.prog
  have q3 := run_mul Try.prog
  have q4 := run_quo Try.prog
  go_enter Try.func44, Try.ntmps44
  go_wp2
  go_ret
  refine ⟨_, _, ⟨_, _, _, _, fv_res _ _ _ _ _, fv_res _ _ _ _ _, fv_res _ _ _ _ _, fv_res _ _ _ _ _, fv_res _ _ _ _ _, fv_res _ _ _ _ _⟩, rfl, ?_⟩
  repeat (first | exact bl_refl _ | assumption | apply bl_drewN | apply bl_drew | apply bl_alloc | refine bl_set ?_ (by simp <;> omega) | refine bl_trans ?_ (by assumption))

theorem tBack_any (x y : Nat) (w : World) : Calls Try.prog 62 #[.complex .f64 x y] w fun e w' => e = .returned (.complex .f64 x (Op.negFloat .f64 y)) ∧ w' = w := by
  have q := run_neg Try.prog
  go_enter Try.func62, Try.ntmps62
  go_wp2
  go_ret
  exact ⟨rfl, rfl⟩

theorem tApply_any (x y u v : Nat) (w : World) : Calls Try.prog 82 #[.complex .f64 x y, .agg #[.float .f64 u, .float .f64 v]] w fun e w' => ∃ r i, ThenR x y u v r i ∧ e = .returned (.agg #[.float .f64 r, .float .f64 i]) ∧ Bel w w' := by
  go_enter Try.func82, Try.ntmps82
  go_wp2_with (first | (go_at_call 86; refine (number_any _ _ _).mono ?_; rintro e w' ⟨rfl, hb⟩; have B := hb; obtain ⟨hc, hf⟩ := bcell B; have hz := B.size; simp at hz) | (go_at_call 44; refine (tThen_any _ _ _ _ _).mono ?_; rintro e w' ⟨r, i, ht, rfl, hb⟩; clear hc hf hz; have B := bl_trans B hb; obtain ⟨hc, hf⟩ := bcell B; have hz := B.size; simp at hz) | (go_at_call 67; refine (way_any _ _ _).mono ?_; rintro e w' ⟨rfl, hb⟩; clear hc hf hz; have B := bl_trans B hb; obtain ⟨hc, hf⟩ := bcell B; have hz := B.size; simp at hz))
  refine bodyPost_ret (v := .agg #[.float .f64 _, .float .f64 _]) (by simp [hc, results, Try.results82, go_sem] <;> exact ⟨rfl, rfl⟩) rfl ⟨_, _, ht, rfl, ?_⟩
  repeat (first | exact bl_refl _ | assumption | apply bl_drewN | apply bl_drew | apply bl_alloc | refine bl_set ?_ (by simp <;> omega) | refine bl_trans ?_ (by assumption))

theorem tUndo_any (x y u v : Nat) (w : World) : Calls Try.prog 83 #[.complex .f64 x y, .agg #[.float .f64 u, .float .f64 v]] w fun e w' => ∃ r i, ThenR x (Op.negFloat .f64 y) u v r i ∧ e = .returned (.agg #[.float .f64 r, .float .f64 i]) ∧ Bel w w' := by
  go_enter Try.func83, Try.ntmps83
  go_wp2
  go_region_held3 (fun w1 => w1.cell? ⟨w.heap.size, 0, none⟩ = some (.float .f64 u) ∧ w1.cell? ⟨w.heap.size, 1, none⟩ = some (.float .f64 v)) (first | go_keep | (go_split_ands; first | exact ⟨keep hb (by assumption), keep hb (by assumption)⟩))
    (first | (go_at_call 62; refine (tBack_any _ _ _).mono ?_; rintro e w' ⟨rfl, rfl⟩) | (go_at_call 86; refine (number_any _ _ _).mono ?_; rintro e w' ⟨rfl, hb⟩; have B := hb; obtain ⟨hc, hf⟩ := bcell B; have hz := B.size; simp at hz) | (go_at_call 44; refine (tThen_any _ _ _ _ _).mono ?_; rintro e w' ⟨r, i, ht, rfl, hb⟩; clear hc hf hz; have B := bl_trans B hb; obtain ⟨hc, hf⟩ := bcell B; have hz := B.size; simp at hz) | (go_at_call 67; refine (way_any _ _ _).mono ?_; rintro e w' ⟨rfl, hb⟩; clear hc hf hz; have B := bl_trans B hb; obtain ⟨hc, hf⟩ := bcell B; have hz := B.size; simp at hz))
  all_goals go_wp2
  refine bodyPost_ret (v := .agg #[.float .f64 _, .float .f64 _]) (by simp [hc, results, Try.results83, go_sem] <;> exact ⟨rfl, rfl⟩) rfl ⟨_, _, ht, rfl, ?_⟩
  repeat (first | exact bl_refl _ | assumption | apply bl_drewN | apply bl_drew | apply bl_alloc | refine bl_set ?_ (by simp <;> omega) | refine bl_trans ?_ (by assumption))

theorem isNaN_any (x : Nat) (w : World) : Calls Try.prog 80 #[.float .f64 x] w fun e w' => e = .returned (.bool (nanK .f64 x)) ∧ w' = w := by
  have c1 := cmp_ne .f64
  have c2 := eqK_self .f64
  go_enter Try.func80, Try.ntmps80
  go_wp2
  go_ret
  exact ⟨by simp, rfl⟩

end Go.Proofs.Ytoljkokcgmigeaa
