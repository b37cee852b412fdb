/-
  What each function of package vec answers, and what the reference of its chapter answers: one contract a function, for every float: the answer stands in the relation of its formula to what was given; of the memory that was there nothing has turned.
-/
import Derived.Test.YtdlendamklcinabNum
import Derived.Below
import Derived.WalkKit
import Derived.WalkLawsBesides
import Derived.WalkSpells
import Derived.ProofKit
import Derived.OpenShut
import Derived.Deep.RegionHeld3
namespace Go.Proofs.Ytdlendamklcinab
open Go.ChangeShapes Go.WideShapes Go.ChangeAt Go.RowKit
set_option linter.unusedVariables false
set_option linter.unusedSimpArgs false


theorem from_int (n : Int) (w : World) : (callFunc 36 #[.int .u64 n]).run Try.prog w = .ok (.value (.float .f64 n.toNat)) w := by
  rw [run_callFunc_extern Try.func36 (by kernel_rfl) (by kernel_rfl) (by kernel_rfl) (f := 36) (e := Extern.MathFloatBits.float64frombits) (by kernel_rfl)]
  rfl

theorem sqrt_run (x : Nat) (w : World) : (callFunc 43 #[.float .f64 x]).run Try.prog w = .ok (.value (.float .f64 (sv x w))) (w.drewN (sd x)) := by
  rw [run_callFunc_extern Try.func43 (by kernel_rfl) (by kernel_rfl) (by kernel_rfl) (f := 43) (e := Extern.MathSqrt.sqrt) (by kernel_rfl)]
  unfold sv sd
  show (((match FloatKind.f64.format.sqrt x with
    | some r => pure (.float .f64 r)
    | none => do pure (.float .f64 (← choose (.nanBits .f64 x x))) : Sem Value).run Try.prog w).andThen fun v w' => Result.ok (Next.value v) w') = _
  cases FloatKind.f64.format.sqrt x <;> rfl
theorem sqrt_any (x : Nat) (w : World) : Calls Try.prog 32 #[.float .f64 x] w fun e w' => ∃ r n, sqR x r ∧ e = .returned (.float .f64 r) ∧ w' = w.drewN n := by
  have q := sqrt_run
  go_enter Try.func32, Try.ntmps32
  go_wp2
  go_ret
  exact ⟨_, _, sv_res x w, rfl, rfl⟩

theorem abs_any (x : Nat) (w : World) (hx : okK .f64 x) : Calls Try.prog 25 #[.float .f64 x] w fun e w' => e = .returned (.float .f64 (rgK .f64 x)) ∧ w' = w := by
  have q1 := bits_run
  have q2 := from_int
  have q3 := andNot_u64 x hx
  go_enter Try.func25, Try.ntmps25
  go_wp2
  go_ret
  exact ⟨rfl, rfl⟩

theorem copysign_mz (w : World) : Calls Try.prog 23 #[.float .f64 0, .float .f64 13830554455654793216] w fun e w' => e = .returned (.float .f64 9223372036854775808) ∧ w' = w := by
  have hb := bits_run
  have hf := from_int
  have e1 : bits .andNot .u64 0 9223372036854775808 = 0 := by decide +kernel
  have e2 : bits .and .u64 13830554455654793216 9223372036854775808 = 9223372036854775808 := by decide +kernel
  have e3 : bits .or .u64 0 9223372036854775808 = 9223372036854775808 := by decide +kernel
  go_enter Try.func23, Try.ntmps23
  go_wp2
  go_ret
  exact ⟨rfl, rfl⟩

theorem rBits_any (a : Nat) (w : World) : Calls Try.prog 42 #[.float .f64 a] w fun e w' => e = .returned (.int .u64 (bitsR a)) ∧ w' = w := by
  have c1 := cmp_ne .f64
  have c2 := eqK_self .f64
  have hb := bits_run
  cases na : nanK .f64 a
  all_goals
    go_enter Try.func42, Try.ntmps42
    go_wp2
    go_ret
    exact ⟨by simp [bitsR, na], rfl⟩

theorem rIs_any (a b : Nat) (w : World) : Calls Try.prog 31 #[.float .f64 a, .float .f64 b] w fun e w' => e = .returned (.bool (smK .f64 a b)) ∧ w' = w := by
  have hq := bitsR_eq a b
  go_enter Try.func31, Try.ntmps31
  go_wp2_with (first | (go_at_call 42; refine (rBits_any _ _).mono ?_; rintro e w' ⟨rfl, rfl⟩))
  go_ret
  exact ⟨by rw [← hq, beq_cast]; rfl, rfl⟩

theorem rEnd_any (a : Nat) (w : World) : Calls Try.prog 33 #[.float .f64 a] w fun e w' => ∃ n, e = .returned (.bool (finK .f64 a)) ∧ w' = w.drewN n := by
  have c1 := cmp_eq .f64
  have q1 := run_sub Try.prog
  have q2 := self_sub .f64 a
  go_enter Try.func33, Try.ntmps33
  go_wp2
  go_ret
  exact ⟨_, rfl, rfl⟩

theorem vAdd_any (ax ay bx b_y : Nat) (w : World) : Calls Try.prog 10 #[.agg #[.float .f64 ax, .float .f64 ay], .agg #[.float .f64 bx, .float .f64 b_y]] w fun e w' => ∃ x y, AddR ax ay bx b_y x y ∧ e = .returned (.agg #[.float .f64 x, .float .f64 y]) ∧ Bel w w' := by
  have q1 := run_add Try.prog
  have q2 := run_sub Try.prog
  have q3 := run_mul Try.prog
  have q4 := run_quo Try.prog
  go_enter Try.func10, Try.ntmps10
  go_wp2
  refine bodyPost_ret (v := .agg #[.float .f64 _, .float .f64 _]) (by simp [results, Try.results10, go_sem] <;> exact ⟨rfl, rfl⟩) rfl ⟨_, _, ⟨fv_res _ _ _ _ _, fv_res _ _ _ _ _⟩, rfl, ?_⟩
  repeat (first | exact bl_refl _ | assumption | apply bl_drewN | apply bl_drew | apply bl_alloc | refine bl_set ?_ (by simp <;> omega) | refine bl_trans ?_ (by assumption))

theorem vSub_any (ax ay bx b_y : Nat) (w : World) : Calls Try.prog 11 #[.agg #[.float .f64 ax, .float .f64 ay], .agg #[.float .f64 bx, .float .f64 b_y]] w fun e w' => ∃ x y, SubR ax ay bx b_y x y ∧ e = .returned (.agg #[.float .f64 x, .float .f64 y]) ∧ Bel w w' := by
  have q1 := run_add Try.prog
  have q2 := run_sub Try.prog
  have q3 := run_mul Try.prog
  have q4 := run_quo Try.prog
  go_enter Try.func11, Try.ntmps11
  go_wp2
  refine bodyPost_ret (v := .agg #[.float .f64 _, .float .f64 _]) (by simp [results, Try.results11, go_sem] <;> exact ⟨rfl, rfl⟩) rfl ⟨_, _, ⟨fv_res _ _ _ _ _, fv_res _ _ _ _ _⟩, rfl, ?_⟩
  repeat (first | exact bl_refl _ | assumption | apply bl_drewN | apply bl_drew | apply bl_alloc | refine bl_set ?_ (by simp <;> omega) | refine bl_trans ?_ (by assumption))

theorem vScale_any (ax ay s : Nat) (w : World) : Calls Try.prog 7 #[.agg #[.float .f64 ax, .float .f64 ay], .float .f64 s] w fun e w' => ∃ x y, ScaleR ax ay s x y ∧ e = .returned (.agg #[.float .f64 x, .float .f64 y]) ∧ Bel w w' := by
  have q1 := run_add Try.prog
  have q2 := run_sub Try.prog
  have q3 := run_mul Try.prog
  have q4 := run_quo Try.prog
  go_enter Try.func7, Try.ntmps7
  go_wp2
  refine bodyPost_ret (v := .agg #[.float .f64 _, .float .f64 _]) (by simp [results, Try.results7, go_sem] <;> exact ⟨rfl, rfl⟩) rfl ⟨_, _, ⟨fv_res _ _ _ _ _, fv_res _ _ _ _ _⟩, rfl, ?_⟩
  repeat (first | exact bl_refl _ | assumption | apply bl_drewN | apply bl_drew | apply bl_alloc | refine bl_set ?_ (by simp <;> omega) | refine bl_trans ?_ (by assumption))

theorem vMore_any (ax ay s bx b_y : Nat) (w : World) : Calls Try.prog 14 #[.agg #[.float .f64 ax, .float .f64 ay], .float .f64 s, .agg #[.float .f64 bx, .float .f64 b_y]] w fun e w' => ∃ x y, MoreR ax ay s bx b_y x y ∧ e = .returned (.agg #[.float .f64 x, .float .f64 y]) ∧ Bel w w' := by
  have q1 := run_add Try.prog
  have q2 := run_sub Try.prog
  have q3 := run_mul Try.prog
  have q4 := run_quo Try.prog
  go_enter Try.func14, Try.ntmps14
  go_wp2
  refine bodyPost_ret (v := .agg #[.float .f64 _, .float .f64 _]) (by simp [results, Try.results14, go_sem] <;> exact ⟨rfl, rfl⟩) rfl ⟨_, _, ⟨_, _, fv_res _ _ _ _ _, fv_res _ _ _ _ _, fv_res _ _ _ _ _, fv_res _ _ _ _ _⟩, rfl, ?_⟩
  repeat (first | exact bl_refl _ | assumption | apply bl_drewN | apply bl_drew | apply bl_alloc | refine bl_set ?_ (by simp <;> omega) | refine bl_trans ?_ (by assumption))

theorem vMiddle_any (ax ay bx b_y : Nat) (w : World) : Calls Try.prog 12 #[.agg #[.float .f64 ax, .float .f64 ay], .agg #[.float .f64 bx, .float .f64 b_y]] w fun e w' => ∃ x y, MiddleR ax ay bx b_y x y ∧ e = .returned (.agg #[.float .f64 x, .float .f64 y]) ∧ Bel w w' := by
  have q1 := run_add Try.prog
  have q2 := run_sub Try.prog
  have q3 := run_mul Try.prog
  have q4 := run_quo Try.prog
  go_enter Try.func12, Try.ntmps12
  go_wp2
  refine bodyPost_ret (v := .agg #[.float .f64 _, .float .f64 _]) (by simp [results, Try.results12, go_sem] <;> exact ⟨rfl, rfl⟩) rfl ⟨_, _, ⟨_, _, fv_res _ _ _ _ _, fv_res _ _ _ _ _, fv_res _ _ _ _ _, fv_res _ _ _ _ _⟩, rfl, ?_⟩
  repeat (first | exact bl_refl _ | assumption | apply bl_drewN | apply bl_drew | apply bl_alloc | refine bl_set ?_ (by simp <;> omega) | refine bl_trans ?_ (by assumption))

theorem vDot_any (ax ay bx b_y : Nat) (w : World) : Calls Try.prog 16 #[.agg #[.float .f64 ax, .float .f64 ay], .agg #[.float .f64 bx, .float .f64 b_y]] w fun e w' => ∃ r, DotR ax ay bx b_y r ∧ e = .returned (.float .f64 r) ∧ Bel w w' := by
  have q1 := run_add Try.prog
  have q2 := run_sub Try.prog
  have q3 := run_mul Try.prog
  have q4 := run_quo Try.prog
  go_enter Try.func16, Try.ntmps16
  go_wp2
  go_ret
  refine ⟨_, ⟨_, _, fv_res _ _ _ _ _, fv_res _ _ _ _ _, fv_res _ _ _ _ _⟩, rfl, ?_⟩
  repeat (first | exact bl_refl _ | assumption | apply bl_drewN | apply bl_drew | apply bl_alloc | refine bl_set ?_ (by simp <;> omega) | refine bl_trans ?_ (by assumption))

theorem vCross_any (ax ay bx b_y : Nat) (w : World) : Calls Try.prog 17 #[.agg #[.float .f64 ax, .float .f64 ay], .agg #[.float .f64 bx, .float .f64 b_y]] w fun e w' => ∃ r, CrossR ax ay bx b_y r ∧ e = .returned (.float .f64 r) ∧ Bel w w' := by
  have q1 := run_add Try.prog
  have q2 := run_sub Try.prog
  have q3 := run_mul Try.prog
  have q4 := run_quo Try.prog
  go_enter Try.func17, Try.ntmps17
  go_wp2
  go_ret
  refine ⟨_, ⟨_, _, fv_res _ _ _ _ _, fv_res _ _ _ _ _, fv_res _ _ _ _ _⟩, rfl, ?_⟩
  repeat (first | exact bl_refl _ | assumption | apply bl_drewN | apply bl_drew | apply bl_alloc | refine bl_set ?_ (by simp <;> omega) | refine bl_trans ?_ (by assumption))

theorem vSquare_any (ax ay : Nat) (w : World) : Calls Try.prog 18 #[.agg #[.float .f64 ax, .float .f64 ay]] w fun e w' => ∃ r, DotR ax ay ax ay r ∧ e = .returned (.float .f64 r) ∧ Bel w w' := by
  go_enter Try.func18, Try.ntmps18
  go_wp2_with (first | (go_at_call 16; refine (vDot_any _ _ _ _ _).mono ?_; rintro e w' ⟨r, hr, rfl, hb⟩))
  go_ret
  refine ⟨_, hr, rfl, ?_⟩
  repeat (first | exact bl_refl _ | assumption | apply bl_drewN | apply bl_drew | apply bl_alloc | refine bl_set ?_ (by simp <;> omega) | refine bl_trans ?_ (by assumption))

theorem vLength_any (ax ay : Nat) (w : World) : Calls Try.prog 19 #[.agg #[.float .f64 ax, .float .f64 ay]] w fun e w' => ∃ r, LengthR ax ay r ∧ e = .returned (.float .f64 r) ∧ Bel w w' := by
  go_enter Try.func19, Try.ntmps19
  go_wp2_with (first | (go_at_call 18; refine (vSquare_any _ _ _).mono ?_; rintro e w' ⟨r, hr, rfl, hb⟩) | (go_at_call 32; refine (sqrt_any _ _).mono ?_; rintro e w' ⟨r2, n, hr2, rfl, rfl⟩))
  go_ret
  refine ⟨_, ⟨_, hr, hr2⟩, rfl, ?_⟩
  repeat (first | exact bl_refl _ | assumption | apply bl_drewN | apply bl_drew | apply bl_alloc | refine bl_set ?_ (by simp <;> omega) | refine bl_trans ?_ (by assumption))

end Go.Proofs.Ytdlendamklcinab
