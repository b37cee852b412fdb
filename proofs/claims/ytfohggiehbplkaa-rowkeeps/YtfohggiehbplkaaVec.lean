/-
  What each function of package vec answers, and what the reference of its chapter answers: one contract a function, for every float: the answer stands in the relation of its formula to what was given; of the memory that was there nothing has turned.
-/
import Derived.Test.YtfohggiehbplkaaNum
import Derived.Below
import Derived.WalkKit
import Derived.WalkLawsBesides
import Derived.WalkSpells
import Derived.ProofKit
import Derived.OpenShut
import Derived.Deep.RegionHeld3
namespace Go.Proofs.Ytfohggiehbplkaa
open Go.ChangeShapes Go.WideShapes Go.ChangeAt Go.RowKit
set_option linter.unusedVariables false
set_option linter.unusedSimpArgs false


theorem from_int (n : Int) (w : World) : (callFunc 63 #[.int .u64 n]).run Try.prog w = .ok (.value (.float .f64 n.toNat)) w := by
  rw [run_callFunc_extern Try.func63 (by kernel_rfl) (by kernel_rfl) (by kernel_rfl) (f := 63) (e := Extern.MathFloatBits.float64frombits) (by kernel_rfl)]
  rfl

theorem sqrt_run (x : Nat) (w : World) : (callFunc 135 #[.float .f64 x]).run Try.prog w = .ok (.value (.float .f64 (sv x w))) (w.drewN (sd x)) := by
  rw [run_callFunc_extern Try.func135 (by kernel_rfl) (by kernel_rfl) (by kernel_rfl) (f := 135) (e := Extern.MathSqrt.sqrt) (by kernel_rfl)]
  unfold sv sd
  show (((match FloatKind.f64.format.sqrt x with
    | some r => pure (.float .f64 r)
    | none => do pure (.float .f64 (← choose (.nanBits .f64 x x))) : Sem Value).run Try.prog w).andThen fun v w' => Result.ok (Next.value v) w') = _
  cases FloatKind.f64.format.sqrt x <;> rfl
theorem sqrt_any (x : Nat) (w : World) : Calls Try.prog 86 #[.float .f64 x] w fun e w' => ∃ r n, sqR x r ∧ e = .returned (.float .f64 r) ∧ w' = w.drewN n := by
  have q := sqrt_run
  go_enter Try.func86, Try.ntmps86
  go_wp2
  go_ret
  exact ⟨_, _, sv_res x w, rfl, rfl⟩

theorem abs_any (x : Nat) (w : World) (hx : okK .f64 x) : Calls Try.prog 22 #[.float .f64 x] w fun e w' => e = .returned (.float .f64 (rgK .f64 x)) ∧ w' = w := by
  have q1 := bits_run
  have q2 := from_int
  have q3 := andNot_u64 x hx
  go_enter Try.func22, Try.ntmps22
  go_wp2
  go_ret
  exact ⟨rfl, rfl⟩

theorem copysign_mz (w : World) : Calls Try.prog 106 #[.float .f64 0, .float .f64 13830554455654793216] w fun e w' => e = .returned (.float .f64 9223372036854775808) ∧ w' = w := by
  have hb := bits_run
  have hf := from_int
  have e1 : bits .andNot .u64 0 9223372036854775808 = 0 := by decide +kernel
  have e2 : bits .and .u64 13830554455654793216 9223372036854775808 = 9223372036854775808 := by decide +kernel
  have e3 : bits .or .u64 0 9223372036854775808 = 9223372036854775808 := by decide +kernel
  go_enter Try.func106, Try.ntmps106
  go_wp2
  go_ret
  exact ⟨rfl, rfl⟩

theorem rVec_any (x y : Nat) (w : World) : Calls Try.prog 97 #[.float .f64 x, .float .f64 y] w fun e w' => e = .returned (.agg #[.float .f64 x, .float .f64 y]) ∧ Bel w w' := by
  go_enter Try.func97, Try.ntmps97
  go_wp2
  refine bodyPost_ret (v := .agg #[.float .f64 x, .float .f64 y]) (by simp [results, Try.results97, go_sem] <;> exact ⟨rfl, rfl⟩) rfl ⟨rfl, ?_⟩
  repeat (first | exact bl_refl _ | assumption | apply bl_drewN | apply bl_drew | apply bl_alloc | refine bl_set ?_ (by simp <;> omega) | refine bl_trans ?_ (by assumption))

theorem rBits_any (a : Nat) (w : World) : Calls Try.prog 84 #[.float .f64 a] w fun e w' => e = .returned (.int .u64 (bitsR a)) ∧ w' = w := by
  have c1 := cmp_ne .f64
  have c2 := eqK_self .f64
  have hb := bits_run
  cases na : nanK .f64 a
  all_goals
    go_enter Try.func84, Try.ntmps84
    go_wp2
    go_ret
    exact ⟨by simp [bitsR, na], rfl⟩

theorem rIs_any (a b : Nat) (w : World) : Calls Try.prog 37 #[.float .f64 a, .float .f64 b] w fun e w' => e = .returned (.bool (smK .f64 a b)) ∧ w' = w := by
  have hq := bitsR_eq a b
  go_enter Try.func37, Try.ntmps37
  go_wp2_with (first | (go_at_call 84; refine (rBits_any _ _).mono ?_; rintro e w' ⟨rfl, rfl⟩))
  go_ret
  exact ⟨by rw [← hq, beq_cast]; rfl, rfl⟩

theorem rEnd_any (a : Nat) (w : World) : Calls Try.prog 127 #[.float .f64 a] w fun e w' => ∃ n, e = .returned (.bool (finK .f64 a)) ∧ w' = w.drewN n := by
  have c1 := cmp_eq .f64
  have q1 := run_sub Try.prog
  have q2 := self_sub .f64 a
  go_enter Try.func127, Try.ntmps127
  go_wp2
  go_ret
  exact ⟨_, rfl, rfl⟩

theorem vScale_any (ax ay s : Nat) (w : World) : Calls Try.prog 26 #[.agg #[.float .f64 ax, .float .f64 ay], .float .f64 s] w fun e w' => ∃ x y, ScaleR ax ay s x y ∧ e = .returned (.agg #[.float .f64 x, .float .f64 y]) ∧ Bel w w' := by
  have q1 := run_add Try.prog
  have q2 := run_sub Try.prog
  have q3 := run_mul Try.prog
  have q4 := run_quo Try.prog
  go_enter Try.func26, Try.ntmps26
  go_wp2
  refine bodyPost_ret (v := .agg #[.float .f64 _, .float .f64 _]) (by simp [results, Try.results26, go_sem] <;> exact ⟨rfl, rfl⟩) rfl ⟨_, _, ⟨fv_res _ _ _ _ _, fv_res _ _ _ _ _⟩, rfl, ?_⟩
  repeat (first | exact bl_refl _ | assumption | apply bl_drewN | apply bl_drew | apply bl_alloc | refine bl_set ?_ (by simp <;> omega) | refine bl_trans ?_ (by assumption))

theorem vDot_any (ax ay bx b_y : Nat) (w : World) : Calls Try.prog 102 #[.agg #[.float .f64 ax, .float .f64 ay], .agg #[.float .f64 bx, .float .f64 b_y]] w fun e w' => ∃ r, DotR ax ay bx b_y r ∧ e = .returned (.float .f64 r) ∧ Bel w w' := by
  have q1 := run_add Try.prog
  have q2 := run_sub Try.prog
  have q3 := run_mul Try.prog
  have q4 := run_quo Try.prog
  go_enter Try.func102, Try.ntmps102
  go_wp2
  go_ret
  refine ⟨_, ⟨_, _, fv_res _ _ _ _ _, fv_res _ _ _ _ _, fv_res _ _ _ _ _⟩, rfl, ?_⟩
  repeat (first | exact bl_refl _ | assumption | apply bl_drewN | apply bl_drew | apply bl_alloc | refine bl_set ?_ (by simp <;> omega) | refine bl_trans ?_ (by assumption))

theorem vSquare_any (ax ay : Nat) (w : World) : Calls Try.prog 65 #[.agg #[.float .f64 ax, .float .f64 ay]] w fun e w' => ∃ r, DotR ax ay ax ay r ∧ e = .returned (.float .f64 r) ∧ Bel w w' := by
  go_enter Try.func65, Try.ntmps65
  go_wp2_with (first | (go_at_call 102; refine (vDot_any _ _ _ _ _).mono ?_; rintro e w' ⟨r, hr, rfl, hb⟩))
  go_ret
  refine ⟨_, hr, rfl, ?_⟩
  repeat (first | exact bl_refl _ | assumption | apply bl_drewN | apply bl_drew | apply bl_alloc | refine bl_set ?_ (by simp <;> omega) | refine bl_trans ?_ (by assumption))

theorem rMore_any (ax ay s bx b_y : Nat) (w : World) : Calls Try.prog 148 #[.agg #[.float .f64 ax, .float .f64 ay], .float .f64 s, .agg #[.float .f64 bx, .float .f64 b_y]] w fun e w' => ∃ x y, MoreR ax ay s bx b_y x y ∧ e = .returned (.agg #[.float .f64 x, .float .f64 y]) ∧ Bel w w' := by
  have q1 := run_add Try.prog
  have q2 := run_sub Try.prog
  have q3 := run_mul Try.prog
  have q4 := run_quo Try.prog
  go_enter Try.func148, Try.ntmps148
  go_wp2_with (first | (go_at_call 97; refine (rVec_any _ _ _).mono ?_; rintro e w' ⟨rfl, hb⟩; obtain ⟨hc, hf⟩ := bcell hb; have hz := hb.size; simp at hz))
  refine bodyPost_ret (v := .agg #[.float .f64 _, .float .f64 _]) (by simp [hc, results, Try.results148, go_sem] <;> exact ⟨rfl, rfl⟩) rfl ⟨_, _, ⟨_, _, fv_res _ _ _ _ _, fv_res _ _ _ _ _, fv_res _ _ _ _ _, fv_res _ _ _ _ _⟩, rfl, ?_⟩
  repeat (first | exact bl_refl _ | assumption | apply bl_drewN | apply bl_drew | apply bl_alloc | refine bl_set ?_ (by simp <;> omega) | refine bl_trans ?_ (by assumption))

theorem rDot_any (ax ay bx b_y : Nat) (w : World) : Calls Try.prog 149 #[.agg #[.float .f64 ax, .float .f64 ay], .agg #[.float .f64 bx, .float .f64 b_y]] w fun e w' => ∃ r, DotR ax ay bx b_y r ∧ e = .returned (.float .f64 r) ∧ Bel w w' := by
  have q1 := run_add Try.prog
  have q2 := run_sub Try.prog
  have q3 := run_mul Try.prog
  have q4 := run_quo Try.prog
  go_enter Try.func149, Try.ntmps149
  go_wp2
  go_ret
  refine ⟨_, ⟨_, _, fv_res _ _ _ _ _, fv_res _ _ _ _ _, fv_res _ _ _ _ _⟩, rfl, ?_⟩
  repeat (first | exact bl_refl _ | assumption | apply bl_drewN | apply bl_drew | apply bl_alloc | refine bl_set ?_ (by simp <;> omega) | refine bl_trans ?_ (by assumption))

theorem rSquare_any (ax ay : Nat) (w : World) : Calls Try.prog 141 #[.agg #[.float .f64 ax, .float .f64 ay]] w fun e w' => ∃ r, DotR ax ay ax ay r ∧ e = .returned (.float .f64 r) ∧ Bel w w' := by
  go_enter Try.func141, Try.ntmps141
  go_wp2_with (first | (go_at_call 149; refine (rDot_any _ _ _ _ _).mono ?_; rintro e w' ⟨r, hr, rfl, hb⟩))
  go_ret
  refine ⟨_, hr, rfl, ?_⟩
  repeat (first | exact bl_refl _ | assumption | apply bl_drewN | apply bl_drew | apply bl_alloc | refine bl_set ?_ (by simp <;> omega) | refine bl_trans ?_ (by assumption))

theorem vFinite_any (ax ay : Nat) (w : World) : Calls Try.prog 136 #[.agg #[.float .f64 ax, .float .f64 ay]] w fun e w' => e = .returned (.bool (finK .f64 ax && finK .f64 ay)) ∧ Bel w w' := by
  cases h1 : finK .f64 ax
  all_goals
    go_enter Try.func136, Try.ntmps136
    go_wp2_with (first | (go_at_call 99; refine (finite_6 _ _).mono ?_; rintro e w' ⟨n2, rfl, rfl⟩))
    go_ret
    refine ⟨rfl, ?_⟩
    repeat (first | exact bl_refl _ | assumption | apply bl_drewN | apply bl_drew | apply bl_alloc | refine bl_set ?_ (by simp <;> omega) | refine bl_trans ?_ (by assumption))

theorem vWithin_any (ax ay m : Nat) (w : World) : Calls Try.prog 89 #[.agg #[.float .f64 ax, .float .f64 ay], .float .f64 m] w fun e w' => e = .returned (.bool (withinK .f64 ax m && withinK .f64 ay m)) ∧ Bel w w' := by
  cases h1 : withinK .f64 ax m
  all_goals
    go_enter Try.func89, Try.ntmps89
    go_wp2_with (first | (go_at_call 93; refine (within_6 _ _ _).mono ?_; rintro e w' ⟨rfl, rfl⟩))
    go_ret
    refine ⟨rfl, ?_⟩
    repeat (first | exact bl_refl _ | assumption | apply bl_drewN | apply bl_drew | apply bl_alloc | refine bl_set ?_ (by simp <;> omega) | refine bl_trans ?_ (by assumption))

theorem rSame_any (ax ay bx b_y : Nat) (w : World) : Calls Try.prog 54 #[.agg #[.float .f64 ax, .float .f64 ay], .agg #[.float .f64 bx, .float .f64 b_y]] w fun e w' => e = .returned (.bool (smK .f64 ax bx && smK .f64 ay b_y)) ∧ Bel w w' := by
  cases h1 : smK .f64 ax bx
  all_goals
    go_enter Try.func54, Try.ntmps54
    go_wp2_with (first | (go_at_call 37; refine (rIs_any _ _ _).mono ?_; rintro e w' ⟨rfl, rfl⟩))
    go_ret
    refine ⟨rfl, ?_⟩
    repeat (first | exact bl_refl _ | assumption | apply bl_drewN | apply bl_drew | apply bl_alloc | refine bl_set ?_ (by simp <;> omega) | refine bl_trans ?_ (by assumption))

theorem rFinite_any (ax ay : Nat) (w : World) : Calls Try.prog 153 #[.agg #[.float .f64 ax, .float .f64 ay]] w fun e w' => e = .returned (.bool (finK .f64 ax && finK .f64 ay)) ∧ Bel w w' := by
  cases h1 : finK .f64 ax
  all_goals
    go_enter Try.func153, Try.ntmps153
    go_wp2_with (first | (go_at_call 127; refine (rEnd_any _ _).mono ?_; rintro e w' ⟨n2, rfl, rfl⟩))
    go_ret
    refine ⟨rfl, ?_⟩
    repeat (first | exact bl_refl _ | assumption | apply bl_drewN | apply bl_drew | apply bl_alloc | refine bl_set ?_ (by simp <;> omega) | refine bl_trans ?_ (by assumption))

theorem rWithin_any (ax ay m : Nat) (hx : okK .f64 ax) (hy : okK .f64 ay) (hm : okK .f64 m) (w : World) : Calls Try.prog 96 #[.agg #[.float .f64 ax, .float .f64 ay], .float .f64 m] w fun e w' => e = .returned (.bool (withinK .f64 ax m && withinK .f64 ay m)) ∧ Bel w w' := by
  have c1 := cmp_le .f64
  have c2 := abs_within ax m hm
  have c3 := abs_within ay m hm
  cases h1 : withinK .f64 ax m
  all_goals
    go_enter Try.func96, Try.ntmps96
    go_wp2_with (first | (go_at_call 22; refine (abs_any _ _ (by assumption)).mono ?_; rintro e w' ⟨rfl, rfl⟩))
    go_ret
    refine ⟨rfl, ?_⟩
    repeat (first | exact bl_refl _ | assumption | apply bl_drewN | apply bl_drew | apply bl_alloc | refine bl_set ?_ (by simp <;> omega) | refine bl_trans ?_ (by assumption))

end Go.Proofs.Ytfohggiehbplkaa
