/-
  What each function of package vec answers, and what the reference of its chapter answers: one contract a function, for every float: the answer stands in the relation of its formula to what was given; of the memory that was there nothing has turned.
-/
import Derived.Test.YtoljkokcgmigeaaNum
import Derived.Below
import Derived.WalkKit
import Derived.WalkLawsBesides
import Derived.WalkSpells
import Derived.ProofKit
import Derived.OpenShut
import Derived.Deep.RegionHeld3
namespace Go.Proofs.Ytoljkokcgmigeaa
open Go.ChangeShapes Go.WideShapes Go.ChangeAt Go.RowKit
set_option linter.unusedVariables false
set_option linter.unusedSimpArgs false


theorem from_int (n : Int) (w : World) : (callFunc 41 #[.int .u64 n]).run Try.prog w = .ok (.value (.float .f64 n.toNat)) w := by
  rw [run_callFunc_extern Try.func41 (by kernel_rfl) (by kernel_rfl) (by kernel_rfl) (f := 41) (e := Extern.MathFloatBits.float64frombits) (by kernel_rfl)]
  rfl

theorem sqrt_run (x : Nat) (w : World) : (callFunc 84 #[.float .f64 x]).run Try.prog w = .ok (.value (.float .f64 (sv x w))) (w.drewN (sd x)) := by
  rw [run_callFunc_extern Try.func84 (by kernel_rfl) (by kernel_rfl) (by kernel_rfl) (f := 84) (e := Extern.MathSqrt.sqrt) (by kernel_rfl)]
  unfold sv sd
  show (((match FloatKind.f64.format.sqrt x with
    | some r => pure (.float .f64 r)
    | none => do pure (.float .f64 (← choose (.nanBits .f64 x x))) : Sem Value).run Try.prog w).andThen fun v w' => Result.ok (Next.value v) w') = _
  cases FloatKind.f64.format.sqrt x <;> rfl
theorem sqrt_any (x : Nat) (w : World) : Calls Try.prog 78 #[.float .f64 x] w fun e w' => ∃ r n, sqR x r ∧ e = .returned (.float .f64 r) ∧ w' = w.drewN n := by
  have q := sqrt_run
  go_enter Try.func78, Try.ntmps78
  go_wp2
  go_ret
  exact ⟨_, _, sv_res x w, rfl, rfl⟩

theorem abs_any (x : Nat) (w : World) (hx : okK .f64 x) : Calls Try.prog 36 #[.float .f64 x] w fun e w' => e = .returned (.float .f64 (rgK .f64 x)) ∧ w' = w := by
  have q1 := bits_run
  have q2 := from_int
  have q3 := andNot_u64 x hx
  go_enter Try.func36, Try.ntmps36
  go_wp2
  go_ret
  exact ⟨rfl, rfl⟩

theorem copysign_mz (w : World) : Calls Try.prog 13 #[.float .f64 0, .float .f64 13830554455654793216] w fun e w' => e = .returned (.float .f64 9223372036854775808) ∧ w' = w := by
  have hb := bits_run
  have hf := from_int
  have e1 : bits .andNot .u64 0 9223372036854775808 = 0 := by decide +kernel
  have e2 : bits .and .u64 13830554455654793216 9223372036854775808 = 9223372036854775808 := by decide +kernel
  have e3 : bits .or .u64 0 9223372036854775808 = 9223372036854775808 := by decide +kernel
  go_enter Try.func13, Try.ntmps13
  go_wp2
  go_ret
  exact ⟨rfl, rfl⟩

theorem vAdd_any (ax ay bx b_y : Nat) (w : World) : Calls Try.prog 52 #[.agg #[.float .f64 ax, .float .f64 ay], .agg #[.float .f64 bx, .float .f64 b_y]] w fun e w' => ∃ x y, AddR ax ay bx b_y x y ∧ e = .returned (.agg #[.float .f64 x, .float .f64 y]) ∧ Bel w w' := by
  have q1 := run_add Try.prog
  have q2 := run_sub Try.prog
  have q3 := run_mul Try.prog
  have q4 := run_quo Try.prog
  go_enter Try.func52, Try.ntmps52
  go_wp2
  refine bodyPost_ret (v := .agg #[.float .f64 _, .float .f64 _]) (by simp [results, Try.results52, go_sem] <;> exact ⟨rfl, rfl⟩) rfl ⟨_, _, ⟨fv_res _ _ _ _ _, fv_res _ _ _ _ _⟩, rfl, ?_⟩
  repeat (first | exact bl_refl _ | assumption | apply bl_drewN | apply bl_drew | apply bl_alloc | refine bl_set ?_ (by simp <;> omega) | refine bl_trans ?_ (by assumption))

theorem vSub_any (ax ay bx b_y : Nat) (w : World) : Calls Try.prog 57 #[.agg #[.float .f64 ax, .float .f64 ay], .agg #[.float .f64 bx, .float .f64 b_y]] w fun e w' => ∃ x y, SubR ax ay bx b_y x y ∧ e = .returned (.agg #[.float .f64 x, .float .f64 y]) ∧ Bel w w' := by
  have q1 := run_add Try.prog
  have q2 := run_sub Try.prog
  have q3 := run_mul Try.prog
  have q4 := run_quo Try.prog
  go_enter Try.func57, Try.ntmps57
  go_wp2
  refine bodyPost_ret (v := .agg #[.float .f64 _, .float .f64 _]) (by simp [results, Try.results57, go_sem] <;> exact ⟨rfl, rfl⟩) rfl ⟨_, _, ⟨fv_res _ _ _ _ _, fv_res _ _ _ _ _⟩, rfl, ?_⟩
  repeat (first | exact bl_refl _ | assumption | apply bl_drewN | apply bl_drew | apply bl_alloc | refine bl_set ?_ (by simp <;> omega) | refine bl_trans ?_ (by assumption))

theorem vMore_any (ax ay s bx b_y : Nat) (w : World) : Calls Try.prog 47 #[.agg #[.float .f64 ax, .float .f64 ay], .float .f64 s, .agg #[.float .f64 bx, .float .f64 b_y]] w fun e w' => ∃ x y, MoreR ax ay s bx b_y x y ∧ e = .returned (.agg #[.float .f64 x, .float .f64 y]) ∧ Bel w w' := by
  have q1 := run_add Try.prog
  have q2 := run_sub Try.prog
  have q3 := run_mul Try.prog
  have q4 := run_quo Try.prog
  go_enter Try.func47, Try.ntmps47
  go_wp2
  refine bodyPost_ret (v := .agg #[.float .f64 _, .float .f64 _]) (by simp [results, Try.results47, go_sem] <;> exact ⟨rfl, rfl⟩) rfl ⟨_, _, ⟨_, _, fv_res _ _ _ _ _, fv_res _ _ _ _ _, fv_res _ _ _ _ _, fv_res _ _ _ _ _⟩, rfl, ?_⟩
  repeat (first | exact bl_refl _ | assumption | apply bl_drewN | apply bl_drew | apply bl_alloc | refine bl_set ?_ (by simp <;> omega) | refine bl_trans ?_ (by assumption))

theorem vDot_any (ax ay bx b_y : Nat) (w : World) : Calls Try.prog 79 #[.agg #[.float .f64 ax, .float .f64 ay], .agg #[.float .f64 bx, .float .f64 b_y]] w fun e w' => ∃ r, DotR ax ay bx b_y r ∧ e = .returned (.float .f64 r) ∧ Bel w w' := by
  have q1 := run_add Try.prog
  have q2 := run_sub Try.prog
  have q3 := run_mul Try.prog
  have q4 := run_quo Try.prog
  go_enter Try.func79, Try.ntmps79
  go_wp2
  go_ret
  refine ⟨_, ⟨_, _, fv_res _ _ _ _ _, fv_res _ _ _ _ _, fv_res _ _ _ _ _⟩, rfl, ?_⟩
  repeat (first | exact bl_refl _ | assumption | apply bl_drewN | apply bl_drew | apply bl_alloc | refine bl_set ?_ (by simp <;> omega) | refine bl_trans ?_ (by assumption))

theorem vSquare_any (ax ay : Nat) (w : World) : Calls Try.prog 66 #[.agg #[.float .f64 ax, .float .f64 ay]] w fun e w' => ∃ r, DotR ax ay ax ay r ∧ e = .returned (.float .f64 r) ∧ Bel w w' := by
  go_enter Try.func66, Try.ntmps66
  go_wp2_with (first | (go_at_call 79; refine (vDot_any _ _ _ _ _).mono ?_; rintro e w' ⟨r, hr, rfl, hb⟩))
  go_ret
  refine ⟨_, hr, rfl, ?_⟩
  repeat (first | exact bl_refl _ | assumption | apply bl_drewN | apply bl_drew | apply bl_alloc | refine bl_set ?_ (by simp <;> omega) | refine bl_trans ?_ (by assumption))

theorem vLength_any (ax ay : Nat) (w : World) : Calls Try.prog 70 #[.agg #[.float .f64 ax, .float .f64 ay]] w fun e w' => ∃ r, LengthR ax ay r ∧ e = .returned (.float .f64 r) ∧ Bel w w' := by
  go_enter Try.func70, Try.ntmps70
  go_wp2_with (first | (go_at_call 66; refine (vSquare_any _ _ _).mono ?_; rintro e w' ⟨r, hr, rfl, hb⟩) | (go_at_call 78; refine (sqrt_any _ _).mono ?_; rintro e w' ⟨r2, n, hr2, rfl, rfl⟩))
  go_ret
  refine ⟨_, ⟨_, hr, hr2⟩, rfl, ?_⟩
  repeat (first | exact bl_refl _ | assumption | apply bl_drewN | apply bl_drew | apply bl_alloc | refine bl_set ?_ (by simp <;> omega) | refine bl_trans ?_ (by assumption))

end Go.Proofs.Ytoljkokcgmigeaa
