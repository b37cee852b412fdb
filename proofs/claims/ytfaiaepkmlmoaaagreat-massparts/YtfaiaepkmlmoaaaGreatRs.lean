/-
  What each function of package poly answers, and what the reference of its chapter answers: one contract a function, for every float: the answer stands in the relation of its formula to what was given; of the memory that was there nothing has turned.
-/
import Derived.Test.YtfaiaepkmlmoaaaGreatVec
import Derived.Test.YtfaiaepkmlmoaaaGreatSb
import Derived.Below
import Derived.WalkKit
import Derived.WalkLawsBesides
import Derived.WalkSpells
import Derived.ProofKit
import Derived.OpenShut
import Derived.Deep.RegionHeld3
namespace Go.Proofs.YtfaiaepkmlmoaaaGreat
open Go.ChangeShapes Go.WideShapes Go.ChangeAt Go.RowKit
set_option linter.unusedVariables false
set_option linter.unusedSimpArgs false


theorem real4 (x : Nat) (w : World) (hx : okK .f64 x) : Calls Tryz.prog 76 #[.float .f64 x] w fun e w' => e = .returned (.bool (withinK .f64 x 4787326403894837248)) ∧ w' = w := by
  go_enter Tryz.func76, Tryz.ntmps76
  go_wp2_with (first | (go_at_call 88; refine (nWithin_any _ _ _ hx (by rw [okK64]; decide)).mono ?_; rintro e w' ⟨rfl, rfl⟩))
  go_ret
  exact ⟨rfl, rfl⟩
theorem real7 (x y : Nat) (w : World) (hx : okK .f64 x) (hy : okK .f64 y) : Calls Tryz.prog 56 #[.agg #[.float .f64 x, .float .f64 y]] w fun e w' => e = .returned (.bool (inB x y)) ∧ Bel w w' := by
  cases h1 : withinK .f64 x 4787326403894837248
  · go_enter Tryz.func56, Tryz.ntmps56
    go_wp2_with (first | (go_at_call 76; refine (real4 _ _ hx).mono ?_; rintro e w' ⟨rfl, hw⟩; rw [hw, h1]))
    go_ret
    refine ⟨by unfold inB; rw [h1]; rfl, ?_⟩
    repeat (first | exact bl_refl _ | assumption | apply bl_drewN | apply bl_drew | apply bl_alloc | refine bl_set ?_ (by simp <;> omega) | refine bl_trans ?_ (by assumption))
  · go_enter Tryz.func56, Tryz.ntmps56
    go_wp2_with (first | (have zn := m1; clear zn; go_at_call 76; refine (real4 _ _ hy).mono ?_; rintro e w2 ⟨rfl, hw⟩; rw [hw]) | (go_at_call 76; refine (real4 _ _ hx).mono ?_; rintro e w1 ⟨rfl, hw⟩; rw [hw, h1]; have m1 := True.intro))
    go_ret
    refine ⟨by unfold inB; rw [h1]; rfl, ?_⟩
    repeat (first | exact bl_refl _ | assumption | apply bl_drewN | apply bl_drew | apply bl_alloc | refine bl_set ?_ (by simp <;> omega) | refine bl_trans ?_ (by assumption))
theorem minus7 {n ax ay bx b_y : Nat} (w : World) (h1 : Bd n ax) (h2 : Bd n ay) (h3 : Bd n bx) (h4 : Bd n b_y) : Calls Tryz.prog 58 #[.agg #[.float .f64 ax, .float .f64 ay], .agg #[.float .f64 bx, .float .f64 b_y]] w fun e w' => e = .returned (.agg #[.float .f64 (Dv .sub ax bx), .float .f64 (Dv .sub ay b_y)]) ∧ Bel w w' := by
  have q1 := fun t W => run_sub_dv Tryz.prog t ax bx W h1.2.1 h3.2.1 h3.1
  have q2 := fun t W => run_sub_dv Tryz.prog t ay b_y W h2.2.1 h4.2.1 h4.1
  go_enter Tryz.func58, Tryz.ntmps58
  go_wp2
  refine bodyPost_ret (v := .agg #[.float .f64 _, .float .f64 _]) (by simp [results, Tryz.results58, go_sem] <;> (first | exact ⟨rfl, rfl⟩ | rfl)) rfl ⟨rfl, ?_⟩
  repeat (first | exact bl_refl _ | assumption | apply bl_drewN | apply bl_drew | apply bl_alloc | refine bl_set ?_ (by simp <;> omega) | refine bl_trans ?_ (by assumption))
theorem dot7 {n m ax ay bx b_y : Nat} (w : World) (h1 : Bd n ax) (h2 : Bd n ay) (h3 : Bd m bx) (h4 : Bd m b_y) (hn : n + m ≤ 800) : Calls Tryz.prog 77 #[.agg #[.float .f64 ax, .float .f64 ay], .agg #[.float .f64 bx, .float .f64 b_y]] w fun e w' => e = .returned (.float .f64 (dtK ax ay bx b_y)) ∧ Bel w w' := by
  have q1 := fun t W => run_mul_dv Tryz.prog t ax bx W h1.2.1 h3.2.1
  have q2 := fun t W => run_mul_dv Tryz.prog t ay b_y W h2.2.1 h4.2.1
  have q3 := fun t W => run_add_dv Tryz.prog t (Dv .mul ax bx) (Dv .mul ay b_y) W (bd_mul h1 h3 (by omega)).2.1 (bd_mul h2 h4 (by omega)).2.1
  go_enter Tryz.func77, Tryz.ntmps77
  go_wp2
  go_region
  go_wp2
  go_ret
  refine ⟨rfl, ?_⟩
  repeat (first | exact bl_refl _ | assumption | apply bl_drewN | apply bl_drew | apply bl_alloc | refine bl_set ?_ (by simp <;> omega) | refine bl_trans ?_ (by assumption))
theorem length7 {n ax ay : Nat} (w : World) (h1 : Bd n ax) (h2 : Bd n ay) (hn : n ≤ 400) : Calls Tryz.prog 57 #[.agg #[.float .f64 ax, .float .f64 ay]] w fun e w' => e = .returned (.float .f64 (lnK ax ay)) ∧ Bel w w' := by
  obtain ⟨f, g⟩ := sq_ng h1 h2 hn
  have es : ∀ r, sqR (dtK ax ay ax ay) r → r = lnK ax ay := fun r h => sqR_is h (sqr_some f g)
  go_enter Tryz.func57, Tryz.ntmps57
  go_wp2_with (first | (go_at_call 77; refine (dot7 _ h1 h2 h1 h2 (by omega)).mono ?_; rintro e w' ⟨rfl, hb⟩; have Bd0 := hb) | (go_at_call 71; refine (sqrt_any _ _).mono ?_; rintro e w2 ⟨r, nn, hq, rfl, hw⟩; rw [hw, es r hq]))
  go_ret
  refine ⟨rfl, ?_⟩
  repeat (first | exact bl_refl _ | assumption | apply bl_drewN | apply bl_drew | apply bl_alloc | refine bl_set ?_ (by simp <;> omega) | refine bl_trans ?_ (by assumption))
end Go.Proofs.YtfaiaepkmlmoaaaGreat
