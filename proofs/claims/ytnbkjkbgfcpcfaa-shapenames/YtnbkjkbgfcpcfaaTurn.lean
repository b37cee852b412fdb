/-
  What each function of package turn answers, and what the reference of its chapter answers: one contract a function, for every float: the answer stands in the relation of its formula to what was given; of the memory that was there nothing has turned.
-/
import Derived.Test.YtnbkjkbgfcpcfaaVec
import Derived.Test.YtnbkjkbgfcpcfaaShq
import Derived.Below
import Derived.WalkKit
import Derived.WalkLawsBesides
import Derived.WalkSpells
import Derived.ProofKit
import Derived.OpenShut
import Derived.Deep.RegionHeld3
namespace Go.Proofs.Ytnbkjkbgfcpcfaa
open Go.ChangeShapes Go.WideShapes Go.ChangeAt Go.RowKit
set_option linter.unusedVariables false
set_option linter.unusedSimpArgs false


theorem way_any (x y : Nat) (w : World) : Calls Try.prog 123 #[.complex .f64 x y] w fun e w' => e = .returned (.agg #[.float .f64 x, .float .f64 y]) ∧ Bel w w' := by
  go_enter Try.func123, Try.ntmps123
  go_wp2
  refine bodyPost_ret (v := .agg #[.float .f64 x, .float .f64 y]) (by simp [results, Try.results123, go_sem] <;> exact ⟨rfl, rfl⟩) rfl ⟨rfl, ?_⟩
  repeat (first | exact bl_refl _ | assumption | apply bl_drewN | apply bl_drew | apply bl_alloc | refine bl_set ?_ (by simp <;> omega) | refine bl_trans ?_ (by assumption))
theorem number_any (x y : Nat) (w : World) : Calls Try.prog 139 #[.agg #[.float .f64 x, .float .f64 y]] w fun e w' => e = .returned (.complex .f64 x y) ∧ Bel w w' := by
  go_enter Try.func139, Try.ntmps139
  go_wp2
  go_ret
  refine ⟨rfl, ?_⟩
  repeat (first | exact bl_refl _ | assumption | apply bl_drewN | apply bl_drew | apply bl_alloc | refine bl_set ?_ (by simp <;> omega) | refine bl_trans ?_ (by assumption))

theorem tCheck_any (x y : Nat) (w : World) : Calls Try.prog 98 #[.complex .f64 x y] w fun e w' => ∃ s, DotR x y x y s ∧ e = .returned (.int .i64 (errT (chk s))) ∧ Bel w w' := by
  have c1 := cmp_le .f64
  go_enter Try.func98, Try.ntmps98
  go_wp2_with (first | (go_at_call 123; refine (way_any _ _ _).mono ?_; rintro e w' ⟨rfl, hb⟩) | (go_at_call 103; refine (vSquare_any _ _ _).mono ?_; rintro e w' ⟨s, hs, rfl, hb2⟩; cases h1 : leK .f64 4607182418800009216 s <;> cases h2 : leK .f64 s 4607182418800021504))
  all_goals
    go_ret
    refine ⟨_, hs, by simp [errT, chk, lo40, hi40, h1, h2], ?_⟩
    repeat (first | exact bl_refl _ | assumption | apply bl_drewN | apply bl_drew | apply bl_alloc | refine bl_set ?_ (by simp <;> omega) | refine bl_trans ?_ (by assumption))
theorem tThen_any (x y u v : Nat) (w : World) : Calls Try.prog 138 #[.complex .f64 x y, .complex .f64 u v] w fun e w' => ∃ r i, ThenR x y u v r i ∧ e = .returned (.complex .f64 r i) ∧ Bel w w' := by
  have q1 := run_add Try.prog
  have q2 := run_sub Try.prog
  have q3 := run_mul Try.prog
  have q4 := run_quo Try.prog
  go_enter Try.func138, Try.ntmps138
  go_wp2
  go_ret
  refine ⟨_, _, ⟨_, _, _, _, fv_res _ _ _ _ _, fv_res _ _ _ _ _, fv_res _ _ _ _ _, fv_res _ _ _ _ _, fv_res _ _ _ _ _, fv_res _ _ _ _ _⟩, rfl, ?_⟩
  repeat (first | exact bl_refl _ | assumption | apply bl_drewN | apply bl_drew | apply bl_alloc | refine bl_set ?_ (by simp <;> omega) | refine bl_trans ?_ (by assumption))

theorem tApply_any (x y u v : Nat) (w : World) : Calls Try.prog 133 #[.complex .f64 x y, .agg #[.float .f64 u, .float .f64 v]] w fun e w' => ∃ r i, ThenR x y u v r i ∧ e = .returned (.agg #[.float .f64 r, .float .f64 i]) ∧ Bel w w' := by
  go_enter Try.func133, Try.ntmps133
  go_wp2_with (first | (go_at_call 139; refine (number_any _ _ _).mono ?_; rintro e w' ⟨rfl, hb⟩; have B := hb; obtain ⟨hc, hf⟩ := bcell B; have hz := B.size; simp at hz) | (go_at_call 138; refine (tThen_any _ _ _ _ _).mono ?_; rintro e w' ⟨r, i, ht, rfl, hb⟩; clear hc hf hz; have B := bl_trans B hb; obtain ⟨hc, hf⟩ := bcell B; have hz := B.size; simp at hz) | (go_at_call 123; refine (way_any _ _ _).mono ?_; rintro e w' ⟨rfl, hb⟩; clear hc hf hz; have B := bl_trans B hb; obtain ⟨hc, hf⟩ := bcell B; have hz := B.size; simp at hz))
  refine bodyPost_ret (v := .agg #[.float .f64 _, .float .f64 _]) (by simp [hc, results, Try.results133, go_sem] <;> exact ⟨rfl, rfl⟩) rfl ⟨_, _, ht, rfl, ?_⟩
  repeat (first | exact bl_refl _ | assumption | apply bl_drewN | apply bl_drew | apply bl_alloc | refine bl_set ?_ (by simp <;> omega) | refine bl_trans ?_ (by assumption))

theorem cisNaN_any (x : Nat) (w : World) : Calls Try.prog 118 #[.float .f64 x] w fun e w' => e = .returned (.bool (nanK .f64 x)) ∧ w' = w := by
  have c1 := cmp_ne .f64
  have c2 := eqK_self .f64
  go_enter Try.func118, Try.ntmps118
  go_wp2
  go_ret
  exact ⟨by simp, rfl⟩
end Go.Proofs.Ytnbkjkbgfcpcfaa
