/-
  What each function of package poly answers, and what the reference of its chapter answers: one contract a function, for every float: the answer stands in the relation of its formula to what was given; of the memory that was there nothing has turned.
-/
import Derived.Test.YtpnkmflkjokhlaaVec
import Derived.Test.YtpnkmflkjokhlaaSb
import Derived.Below
import Derived.WalkKit
import Derived.WalkLawsBesides
import Derived.WalkSpells
import Derived.ProofKit
import Derived.OpenShut
import Derived.Deep.RegionHeld3
namespace Go.Proofs.Ytpnkmflkjokhlaa
open Go.ChangeShapes Go.WideShapes Go.ChangeAt Go.RowKit
set_option linter.unusedVariables false
set_option linter.unusedSimpArgs false


theorem real4 (x : Nat) (w : World) (hx : okK .f64 x) : Calls Try.prog 85 #[.float .f64 x] w fun e w' => e = .returned (.bool (withinK .f64 x 4787326403894837248)) ∧ w' = w := by
  go_enter Try.func85, Try.ntmps85
  go_wp2_with (first | (go_at_call 104; refine (nWithin_any _ _ _ hx (by rw [okK64]; decide)).mono ?_; rintro e w' ⟨rfl, rfl⟩))
  go_ret
  exact ⟨rfl, rfl⟩
theorem real7 (x y : Nat) (w : World) (hx : okK .f64 x) (hy : okK .f64 y) : Calls Try.prog 59 #[.agg #[.float .f64 x, .float .f64 y]] w fun e w' => e = .returned (.bool (inB x y)) ∧ Bel w w' := by
  cases h1 : withinK .f64 x 4787326403894837248
  · go_enter Try.func59, Try.ntmps59
    go_wp2_with (first | (go_at_call 85; refine (real4 _ _ hx).mono ?_; rintro e w' ⟨rfl, hw⟩; rw [hw, h1]))
    go_ret
    refine ⟨by unfold inB; rw [h1]; rfl, ?_⟩
    repeat (first | exact bl_refl _ | assumption | apply bl_drewN | apply bl_drew | apply bl_alloc | refine bl_set ?_ (by simp <;> omega) | refine bl_trans ?_ (by assumption))
  · go_enter Try.func59, Try.ntmps59
    go_wp2_with (first | (have zn := m1; clear zn; go_at_call 85; refine (real4 _ _ hy).mono ?_; rintro e w2 ⟨rfl, hw⟩; rw [hw]) | (go_at_call 85; refine (real4 _ _ hx).mono ?_; rintro e w1 ⟨rfl, hw⟩; rw [hw, h1]; have m1 := True.intro))
    go_ret
    refine ⟨by unfold inB; rw [h1]; rfl, ?_⟩
    repeat (first | exact bl_refl _ | assumption | apply bl_drewN | apply bl_drew | apply bl_alloc | refine bl_set ?_ (by simp <;> omega) | refine bl_trans ?_ (by assumption))
theorem inf1_any (x : Nat) (w : World) : Calls Try.prog 91 #[.float .f64 x, .int .i64 1] w fun e w' => e = .returned (.bool (ltK .f64 9218868437227405311 x)) ∧ w' = w := by
  have c1 := cmp_gt .f64
  go_enter Try.func91, Try.ntmps91
  go_wp2
  go_ret
  exact ⟨by first | rfl | simp, rfl⟩
theorem fin_below {x : Nat} (h : finK .f64 x = true) : ltK .f64 9218868437227405311 x = false := by
  unfold ltK
  rw [fin_num h, show nanK .f64 9218868437227405311 = false by decide +kernel]
  simp only [Bool.not_false, Bool.true_and, decide_eq_false_iff_not, Int.not_lt]
  have h2 : rgK .f64 x < 9218868437227405312 := of_decide_eq_true h
  rw [show woK .f64 9218868437227405311 = 9218868437227405311 by decide +kernel, woK_eq]
  split <;> omega
theorem mg_zero_lt {x n : Nat} (h : Bd n x) (hz : mg x = 0) : ltK .f64 0 x = false := by
  have hr : rgK .f64 x = 0 := mg_zero.1 hz
  have e : woK .f64 x = 0 := by rw [woK_eq, hr]; split <;> rfl
  unfold ltK
  rw [e, show woK .f64 0 = 0 by decide +kernel]
  simp

end Go.Proofs.Ytpnkmflkjokhlaa
