/-
  What each function of package vec answers, and what the reference of its chapter answers: one contract a function, for every float: the answer stands in the relation of its formula to what was given; of the memory that was there nothing has turned.
-/
import Derived.Test.YtglndoncaammlaaNum
import Derived.Below
import Derived.WalkKit
import Derived.WalkLawsBesides
import Derived.WalkSpells
import Derived.ProofKit
import Derived.OpenShut
import Derived.Deep.RegionHeld3
namespace Go.Proofs.Ytglndoncaammlaa
open Go.ChangeShapes Go.WideShapes Go.ChangeAt Go.RowKit
set_option linter.unusedVariables false
set_option linter.unusedSimpArgs false


theorem from_int (n : Int) (w : World) : (callFunc 53 #[.int .u64 n]).run Try.prog w = .ok (.value (.float .f64 n.toNat)) w := by
  rw [run_callFunc_extern Try.func53 (by kernel_rfl) (by kernel_rfl) (by kernel_rfl) (f := 53) (e := Extern.MathFloatBits.float64frombits) (by kernel_rfl)]
  rfl

theorem sqrt_run (x : Nat) (w : World) : (callFunc 41 #[.float .f64 x]).run Try.prog w = .ok (.value (.float .f64 (sv x w))) (w.drewN (sd x)) := by
  rw [run_callFunc_extern Try.func41 (by kernel_rfl) (by kernel_rfl) (by kernel_rfl) (f := 41) (e := Extern.MathSqrt.sqrt) (by kernel_rfl)]
  unfold sv sd
  show (((match FloatKind.f64.format.sqrt x with
    | some r => pure (.float .f64 r)
    | none => do pure (.float .f64 (← choose (.nanBits .f64 x x))) : Sem Value).run Try.prog w).andThen fun v w' => Result.ok (Next.value v) w') = _
  cases FloatKind.f64.format.sqrt x <;> rfl
theorem sqrt_any (x : Nat) (w : World) : Calls Try.prog 25 #[.float .f64 x] w fun e w' => ∃ r n, sqR x r ∧ e = .returned (.float .f64 r) ∧ w' = w.drewN n := by
  have q := sqrt_run
  go_enter Try.func25, Try.ntmps25
  go_wp2
  go_ret
  exact ⟨_, _, sv_res x w, rfl, rfl⟩

theorem vAdd_any (ax ay bx b_y : Nat) (w : World) : Calls Try.prog 48 #[.agg #[.float .f64 ax, .float .f64 ay], .agg #[.float .f64 bx, .float .f64 b_y]] w fun e w' => ∃ x y, AddR ax ay bx b_y x y ∧ e = .returned (.agg #[.float .f64 x, .float .f64 y]) ∧ Bel w w' := by
  have q1 := run_add Try.prog
  have q2 := run_sub Try.prog
  have q3 := run_mul Try.prog
  have q4 := run_quo Try.prog
  go_enter Try.func48, Try.ntmps48
  go_wp2
  refine bodyPost_ret (v := .agg #[.float .f64 _, .float .f64 _]) (by simp [results, Try.results48, go_sem] <;> exact ⟨rfl, rfl⟩) rfl ⟨_, _, ⟨fv_res _ _ _ _ _, fv_res _ _ _ _ _⟩, rfl, ?_⟩
  repeat (first | exact bl_refl _ | assumption | apply bl_drewN | apply bl_drew | apply bl_alloc | refine bl_set ?_ (by simp <;> omega) | refine bl_trans ?_ (by assumption))

theorem vSub_any (ax ay bx b_y : Nat) (w : World) : Calls Try.prog 10 #[.agg #[.float .f64 ax, .float .f64 ay], .agg #[.float .f64 bx, .float .f64 b_y]] w fun e w' => ∃ x y, SubR ax ay bx b_y x y ∧ e = .returned (.agg #[.float .f64 x, .float .f64 y]) ∧ Bel w w' := by
  have q1 := run_add Try.prog
  have q2 := run_sub Try.prog
  have q3 := run_mul Try.prog
  have q4 := run_quo Try.prog
  go_enter Try.func10, Try.ntmps10
  go_wp2
  refine bodyPost_ret (v := .agg #[.float .f64 _, .float .f64 _]) (by simp [results, Try.results10, go_sem] <;> exact ⟨rfl, rfl⟩) rfl ⟨_, _, ⟨fv_res _ _ _ _ _, fv_res _ _ _ _ _⟩, rfl, ?_⟩
  repeat (first | exact bl_refl _ | assumption | apply bl_drewN | apply bl_drew | apply bl_alloc | refine bl_set ?_ (by simp <;> omega) | refine bl_trans ?_ (by assumption))

theorem vScale_any (ax ay s : Nat) (w : World) : Calls Try.prog 46 #[.agg #[.float .f64 ax, .float .f64 ay], .float .f64 s] w fun e w' => ∃ x y, ScaleR ax ay s x y ∧ e = .returned (.agg #[.float .f64 x, .float .f64 y]) ∧ Bel w w' := by
  have q1 := run_add Try.prog
  have q2 := run_sub Try.prog
  have q3 := run_mul Try.prog
  have q4 := run_quo Try.prog
  go_enter Try.func46, Try.ntmps46
  go_wp2
  refine bodyPost_ret (v := .agg #[.float .f64 _, .float .f64 _]) (by simp [results, Try.results46, go_sem] <;> exact ⟨rfl, rfl⟩) rfl ⟨_, _, ⟨fv_res _ _ _ _ _, fv_res _ _ _ _ _⟩, rfl, ?_⟩
  repeat (first | exact bl_refl _ | assumption | apply bl_drewN | apply bl_drew | apply bl_alloc | refine bl_set ?_ (by simp <;> omega) | refine bl_trans ?_ (by assumption))

theorem vMore_any (ax ay s bx b_y : Nat) (w : World) : Calls Try.prog 18 #[.agg #[.float .f64 ax, .float .f64 ay], .float .f64 s, .agg #[.float .f64 bx, .float .f64 b_y]] w fun e w' => ∃ x y, MoreR ax ay s bx b_y x y ∧ e = .returned (.agg #[.float .f64 x, .float .f64 y]) ∧ Bel w w' := by
  have q1 := run_add Try.prog
  have q2 := run_sub Try.prog
  have q3 := run_mul Try.prog
  have q4 := run_quo Try.prog
  go_enter Try.func18, Try.ntmps18
  go_wp2
  refine bodyPost_ret (v := .agg #[.float .f64 _, .float .f64 _]) (by simp [results, Try.results18, go_sem] <;> exact ⟨rfl, rfl⟩) rfl ⟨_, _, ⟨_, _, fv_res _ _ _ _ _, fv_res _ _ _ _ _, fv_res _ _ _ _ _, fv_res _ _ _ _ _⟩, rfl, ?_⟩
  repeat (first | exact bl_refl _ | assumption | apply bl_drewN | apply bl_drew | apply bl_alloc | refine bl_set ?_ (by simp <;> omega) | refine bl_trans ?_ (by assumption))

theorem vDot_any (ax ay bx b_y : Nat) (w : World) : Calls Try.prog 7 #[.agg #[.float .f64 ax, .float .f64 ay], .agg #[.float .f64 bx, .float .f64 b_y]] w fun e w' => ∃ r, DotR ax ay bx b_y r ∧ e = .returned (.float .f64 r) ∧ Bel w w' := by
  have q1 := run_add Try.prog
  have q2 := run_sub Try.prog
  have q3 := run_mul Try.prog
  have q4 := run_quo Try.prog
  go_enter Try.func7, Try.ntmps7
  go_wp2
  go_ret
  refine ⟨_, ⟨_, _, fv_res _ _ _ _ _, fv_res _ _ _ _ _, fv_res _ _ _ _ _⟩, rfl, ?_⟩
  repeat (first | exact bl_refl _ | assumption | apply bl_drewN | apply bl_drew | apply bl_alloc | refine bl_set ?_ (by simp <;> omega) | refine bl_trans ?_ (by assumption))

theorem vCross_any (ax ay bx b_y : Nat) (w : World) : Calls Try.prog 15 #[.agg #[.float .f64 ax, .float .f64 ay], .agg #[.float .f64 bx, .float .f64 b_y]] w fun e w' => ∃ r, CrossR ax ay bx b_y r ∧ e = .returned (.float .f64 r) ∧ Bel w w' := by
  have q1 := run_add Try.prog
  have q2 := run_sub Try.prog
  have q3 := run_mul Try.prog
  have q4 := run_quo Try.prog
  go_enter Try.func15, Try.ntmps15
  go_wp2
  go_ret
  refine ⟨_, ⟨_, _, fv_res _ _ _ _ _, fv_res _ _ _ _ _, fv_res _ _ _ _ _⟩, rfl, ?_⟩
  repeat (first | exact bl_refl _ | assumption | apply bl_drewN | apply bl_drew | apply bl_alloc | refine bl_set ?_ (by simp <;> omega) | refine bl_trans ?_ (by assumption))

theorem vSquare_any (ax ay : Nat) (w : World) : Calls Try.prog 24 #[.agg #[.float .f64 ax, .float .f64 ay]] w fun e w' => ∃ r, DotR ax ay ax ay r ∧ e = .returned (.float .f64 r) ∧ Bel w w' := by
  go_enter Try.func24, Try.ntmps24
  go_wp2_with (first | (go_at_call 7; refine (vDot_any _ _ _ _ _).mono ?_; rintro e w' ⟨r, hr, rfl, hb⟩))
  go_ret
  refine ⟨_, hr, rfl, ?_⟩
  repeat (first | exact bl_refl _ | assumption | apply bl_drewN | apply bl_drew | apply bl_alloc | refine bl_set ?_ (by simp <;> omega) | refine bl_trans ?_ (by assumption))

theorem vLength_any (ax ay : Nat) (w : World) : Calls Try.prog 12 #[.agg #[.float .f64 ax, .float .f64 ay]] w fun e w' => ∃ r, LengthR ax ay r ∧ e = .returned (.float .f64 r) ∧ Bel w w' := by
  go_enter Try.func12, Try.ntmps12
  go_wp2_with (first | (go_at_call 24; refine (vSquare_any _ _ _).mono ?_; rintro e w' ⟨r, hr, rfl, hb⟩) | (go_at_call 25; refine (sqrt_any _ _).mono ?_; rintro e w' ⟨r2, n, hr2, rfl, rfl⟩))
  go_ret
  refine ⟨_, ⟨_, hr, hr2⟩, rfl, ?_⟩
  repeat (first | exact bl_refl _ | assumption | apply bl_drewN | apply bl_drew | apply bl_alloc | refine bl_set ?_ (by simp <;> omega) | refine bl_trans ?_ (by assumption))

set_option maxHeartbeats 400000 in
theorem quarters_any (ax ay n : Nat) (hn : n ≤ 3) (w : World) : Calls Try.prog 49 #[.agg #[.float .f64 ax, .float .f64 ay], .int .i64 n] w fun e w' => e = .returned (.agg #[.float .f64 (rotP n (ax, ay)).1, .float .f64 (rotP n (ax, ay)).2]) ∧ Bel w w' := by
  have q := run_neg Try.prog
  go_enter Try.func49, Try.ntmps49
  go_wp2
  go_loopw [6] (fun i wr => ∃ k : Nat, k ≤ n ∧ i = .int .i64 k ∧ wr = (w.alloc (Obj.cells #[.float .f64 (rotP k (ax, ay)).1, .float .f64 (rotP k (ax, ay)).2] 24)).alloc (Obj.cells #[.float .f64 0, .float .f64 0] 24)) (fun i _ => n - (intOf i).toNat)
  case atStart => exact ⟨0, by omega, rfl, rfl⟩
  case round =>
    obtain ⟨k, hk, rfl, rfl⟩ := hrel
    by_cases hlt : k < n
    · go_wp2
      go_roundw
      case rel => exact ⟨k + 1, by omega, by go_num, rfl⟩
      case measure => simp [intOf]; omega
    · have hkn : k = n := by omega
      subst hkn
      go_wp2
      refine bodyPost_ret (v := .agg #[.float .f64 _, .float .f64 _]) (by simp [results, Try.results49, go_sem] <;> exact ⟨rfl, rfl⟩) rfl ⟨rfl, ?_⟩
      repeat (first | exact bl_refl _ | assumption | apply bl_drewN | apply bl_drew | apply bl_alloc | refine bl_set ?_ (by simp <;> omega) | refine bl_trans ?_ (by assumption))

theorem vNeg_any (ax ay : Nat) (w : World) : Calls Try.prog 31 #[.agg #[.float .f64 ax, .float .f64 ay]] w fun e w' => e = .returned (.agg #[.float .f64 (Op.negFloat .f64 ax), .float .f64 (Op.negFloat .f64 ay)]) ∧ Bel w w' := by
  go_enter Try.func31, Try.ntmps31
  go_wp2_with (first | (go_at_call 49; refine (quarters_any _ _ 2 (by decide) _).mono ?_; rintro e w' ⟨rfl, hb⟩; obtain ⟨hc, hf⟩ := bcell hb; have hz := hb.size; simp at hz))
  refine bodyPost_ret (v := .agg #[.float .f64 _, .float .f64 _]) (by simp [hc, results, Try.results31, go_sem] <;> exact ⟨rfl, rfl⟩) rfl ⟨by first | rfl | (rw [rot_three]), ?_⟩
  repeat (first | exact bl_refl _ | assumption | apply bl_drewN | apply bl_drew | apply bl_alloc | refine bl_set ?_ (by simp <;> omega) | refine bl_trans ?_ (by assumption))

theorem vLeft_any (ax ay : Nat) (w : World) : Calls Try.prog 47 #[.agg #[.float .f64 ax, .float .f64 ay]] w fun e w' => e = .returned (.agg #[.float .f64 (Op.negFloat .f64 ay), .float .f64 (ax)]) ∧ Bel w w' := by
  go_enter Try.func47, Try.ntmps47
  go_wp2_with (first | (go_at_call 49; refine (quarters_any _ _ 1 (by decide) _).mono ?_; rintro e w' ⟨rfl, hb⟩; obtain ⟨hc, hf⟩ := bcell hb; have hz := hb.size; simp at hz))
  refine bodyPost_ret (v := .agg #[.float .f64 _, .float .f64 _]) (by simp [hc, results, Try.results47, go_sem] <;> exact ⟨rfl, rfl⟩) rfl ⟨by first | rfl | (rw [rot_three]), ?_⟩
  repeat (first | exact bl_refl _ | assumption | apply bl_drewN | apply bl_drew | apply bl_alloc | refine bl_set ?_ (by simp <;> omega) | refine bl_trans ?_ (by assumption))

theorem vRight_any (ax ay : Nat) (w : World) : Calls Try.prog 30 #[.agg #[.float .f64 ax, .float .f64 ay]] w fun e w' => e = .returned (.agg #[.float .f64 (ay), .float .f64 (Op.negFloat .f64 ax)]) ∧ Bel w w' := by
  go_enter Try.func30, Try.ntmps30
  go_wp2_with (first | (go_at_call 49; refine (quarters_any _ _ 3 (by decide) _).mono ?_; rintro e w' ⟨rfl, hb⟩; obtain ⟨hc, hf⟩ := bcell hb; have hz := hb.size; simp at hz))
  refine bodyPost_ret (v := .agg #[.float .f64 _, .float .f64 _]) (by simp [hc, results, Try.results30, go_sem] <;> exact ⟨rfl, rfl⟩) rfl ⟨by first | rfl | (rw [rot_three]), ?_⟩
  repeat (first | exact bl_refl _ | assumption | apply bl_drewN | apply bl_drew | apply bl_alloc | refine bl_set ?_ (by simp <;> omega) | refine bl_trans ?_ (by assumption))

set_option maxHeartbeats 400000 in
theorem vUnit_any (ax ay : Nat) (w : World) : Calls Try.prog 26 #[.agg #[.float .f64 ax, .float .f64 ay]] w fun e w' => ∃ x y b, UnitR ax ay x y b ∧ e = .returned (.tuple #[.agg #[.float .f64 x, .float .f64 y], .bool b]) ∧ Bel w w' := by
  have c1 := cmp_gt .f64
  have q4 := run_quo Try.prog
  go_enter Try.func26, Try.ntmps26
  go_wp2_with (first | (go_at_call 12; refine (vLength_any _ _ _).mono ?_; rintro e w' ⟨r0, hr0, rfl, hb⟩; obtain ⟨hc, hf⟩ := bcell hb; have hz := hb.size; simp at hz; have hy : w.heap.size + 1 < w'.heap.size := by omega) | (go_at_call 42; refine (finite_6 _ _).mono ?_; rintro e w' ⟨n2, rfl, rfl⟩))
  all_goals first | (refine bodyPost_ret (v := .tuple #[.agg #[.float .f64 _, .float .f64 _], .bool true]) (by simp [hc, results, Try.results26, go_sem] <;> exact ⟨rfl, rfl⟩) rfl ⟨_, _, _, ⟨_, hr0, by simp [*], by simp only [if_true]; exact ⟨fv_res _ _ _ _ _, fv_res _ _ _ _ _⟩⟩, rfl, ?_⟩; repeat (first | exact bl_refl _ | assumption | apply bl_drewN | apply bl_drew | apply bl_alloc | refine bl_set ?_ (by simp <;> omega) | refine bl_trans ?_ (by assumption))) | (refine bodyPost_ret (v := .tuple #[.agg #[.float .f64 _, .float .f64 _], .bool false]) (by simp [hc, results, Try.results26, go_sem] <;> exact ⟨rfl, rfl⟩) rfl ⟨_, _, _, ⟨_, hr0, by simp [*], by simp⟩, rfl, ?_⟩; repeat (first | exact bl_refl _ | assumption | apply bl_drewN | apply bl_drew | apply bl_alloc | refine bl_set ?_ (by simp <;> omega) | refine bl_trans ?_ (by assumption)))

theorem vWithin_any (ax ay m : Nat) (w : World) : Calls Try.prog 11 #[.agg #[.float .f64 ax, .float .f64 ay], .float .f64 m] w fun e w' => e = .returned (.bool (withinK .f64 ax m && withinK .f64 ay m)) ∧ Bel w w' := by
  cases h1 : withinK .f64 ax m
  all_goals
    go_enter Try.func11, Try.ntmps11
    go_wp2_with (first | (go_at_call 29; refine (within_6 _ _ _).mono ?_; rintro e w' ⟨rfl, rfl⟩))
    go_ret
    refine ⟨rfl, ?_⟩
    repeat (first | exact bl_refl _ | assumption | apply bl_drewN | apply bl_drew | apply bl_alloc | refine bl_set ?_ (by simp <;> omega) | refine bl_trans ?_ (by assumption))

end Go.Proofs.Ytglndoncaammlaa
