/-
  What each function of package vec answers, and what the reference of its chapter answers: one contract a function, for every float: the answer stands in the relation of its formula to what was given; of the memory that was there nothing has turned.
-/
import Derived.Test.YtekhnolpgoejdabNum
import Derived.Below
import Derived.WalkKit
import Derived.WalkLawsBesides
import Derived.WalkSpells
import Derived.ProofKit
import Derived.OpenShut
import Derived.Deep.RegionHeld3
namespace Go.Proofs.Ytekhnolpgoejdab
open Go.ChangeShapes Go.WideShapes Go.ChangeAt Go.RowKit
set_option linter.unusedVariables false
set_option linter.unusedSimpArgs false


theorem from_int (n : Int) (w : World) : (callFunc 32 #[.int .u64 n]).run Try.prog w = .ok (.value (.float .f64 n.toNat)) w := by
  rw [run_callFunc_extern Try.func32 (by kernel_rfl) (by kernel_rfl) (by kernel_rfl) (f := 32) (e := Extern.MathFloatBits.float64frombits) (by kernel_rfl)]
  rfl

theorem abs_any (x : Nat) (w : World) (hx : okK .f64 x) : Calls Try.prog 12 #[.float .f64 x] w fun e w' => e = .returned (.float .f64 (rgK .f64 x)) ∧ w' = w := by
  have q1 := bits_run
  have q2 := from_int
  have q3 := andNot_u64 x hx
  go_enter Try.func12, Try.ntmps12
  go_wp2
  go_ret
  exact ⟨rfl, rfl⟩

theorem copysign_mz (w : World) : Calls Try.prog 53 #[.float .f64 0, .float .f64 13830554455654793216] w fun e w' => e = .returned (.float .f64 9223372036854775808) ∧ w' = w := by
  have hb := bits_run
  have hf := from_int
  have e1 : bits .andNot .u64 0 9223372036854775808 = 0 := by decide +kernel
  have e2 : bits .and .u64 13830554455654793216 9223372036854775808 = 9223372036854775808 := by decide +kernel
  have e3 : bits .or .u64 0 9223372036854775808 = 9223372036854775808 := by decide +kernel
  go_enter Try.func53, Try.ntmps53
  go_wp2
  go_ret
  exact ⟨rfl, rfl⟩

theorem vSub_any (ax ay bx b_y : Nat) (w : World) : Calls Try.prog 78 #[.agg #[.float .f64 ax, .float .f64 ay], .agg #[.float .f64 bx, .float .f64 b_y]] w fun e w' => ∃ x y, SubR ax ay bx b_y x y ∧ e = .returned (.agg #[.float .f64 x, .float .f64 y]) ∧ Bel w w' := by
  have q1 := run_add Try.prog
  have q2 := run_sub Try.prog
  have q3 := run_mul Try.prog
  have q4 := run_quo Try.prog
  go_enter Try.func78, Try.ntmps78
  go_wp2
  refine bodyPost_ret (v := .agg #[.float .f64 _, .float .f64 _]) (by simp [results, Try.results78, go_sem] <;> exact ⟨rfl, rfl⟩) rfl ⟨_, _, ⟨fv_res _ _ _ _ _, fv_res _ _ _ _ _⟩, rfl, ?_⟩
  repeat (first | exact bl_refl _ | assumption | apply bl_drewN | apply bl_drew | apply bl_alloc | refine bl_set ?_ (by simp <;> omega) | refine bl_trans ?_ (by assumption))

theorem vScale_any (ax ay s : Nat) (w : World) : Calls Try.prog 14 #[.agg #[.float .f64 ax, .float .f64 ay], .float .f64 s] w fun e w' => ∃ x y, ScaleR ax ay s x y ∧ e = .returned (.agg #[.float .f64 x, .float .f64 y]) ∧ Bel w w' := by
  have q1 := run_add Try.prog
  have q2 := run_sub Try.prog
  have q3 := run_mul Try.prog
  have q4 := run_quo Try.prog
  go_enter Try.func14, Try.ntmps14
  go_wp2
  refine bodyPost_ret (v := .agg #[.float .f64 _, .float .f64 _]) (by simp [results, Try.results14, go_sem] <;> exact ⟨rfl, rfl⟩) rfl ⟨_, _, ⟨fv_res _ _ _ _ _, fv_res _ _ _ _ _⟩, rfl, ?_⟩
  repeat (first | exact bl_refl _ | assumption | apply bl_drewN | apply bl_drew | apply bl_alloc | refine bl_set ?_ (by simp <;> omega) | refine bl_trans ?_ (by assumption))

theorem vFinite_any (ax ay : Nat) (w : World) : Calls Try.prog 28 #[.agg #[.float .f64 ax, .float .f64 ay]] w fun e w' => e = .returned (.bool (finK .f64 ax && finK .f64 ay)) ∧ Bel w w' := by
  cases h1 : finK .f64 ax
  all_goals
    go_enter Try.func28, Try.ntmps28
    go_wp2_with (first | (go_at_call 49; refine (finite_6 _ _).mono ?_; rintro e w' ⟨n2, rfl, rfl⟩))
    go_ret
    refine ⟨rfl, ?_⟩
    repeat (first | exact bl_refl _ | assumption | apply bl_drewN | apply bl_drew | apply bl_alloc | refine bl_set ?_ (by simp <;> omega) | refine bl_trans ?_ (by assumption))

end Go.Proofs.Ytekhnolpgoejdab
