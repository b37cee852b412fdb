/-
  What each function of package vec answers, and what the reference of its chapter answers: one contract a function, for every float: the answer stands in the relation of its formula to what was given; of the memory that was there nothing has turned.
-/
import Derived.Test.YtdeooadeohojcaaGreatNum
import Derived.Below
import Derived.WalkKit
import Derived.WalkLawsBesides
import Derived.WalkSpells
import Derived.ProofKit
import Derived.OpenShut
import Derived.Deep.RegionHeld3
namespace Go.Proofs.YtdeooadeohojcaaGreat
open Go.ChangeShapes Go.WideShapes Go.ChangeAt Go.RowKit
set_option linter.unusedVariables false
set_option linter.unusedSimpArgs false


theorem from_int (n : Int) (w : World) : (callFunc 77 #[.int .u64 n]).run Tryz.prog w = .ok (.value (.float .f64 n.toNat)) w := by
  rw [run_callFunc_extern Tryz.func77 (by kernel_rfl) (by kernel_rfl) (by kernel_rfl) (f := 77) (e := Extern.MathFloatBits.float64frombits) (by kernel_rfl)]
  rfl

theorem sqrt_run (x : Nat) (w : World) : (callFunc 57 #[.float .f64 x]).run Tryz.prog w = .ok (.value (.float .f64 (sv x w))) (w.drewN (sd x)) := by
  rw [run_callFunc_extern Tryz.func57 (by kernel_rfl) (by kernel_rfl) (by kernel_rfl) (f := 57) (e := Extern.MathSqrt.sqrt) (by kernel_rfl)]
  unfold sv sd
  show (((match FloatKind.f64.format.sqrt x with
    | some r => pure (.float .f64 r)
    | none => do pure (.float .f64 (← choose (.nanBits .f64 x x))) : Sem Value).run Tryz.prog w).andThen fun v w' => Result.ok (Next.value v) w') = _
  cases FloatKind.f64.format.sqrt x <;> rfl
theorem sqrt_any (x : Nat) (w : World) : Calls Tryz.prog 24 #[.float .f64 x] w fun e w' => ∃ r n, sqR x r ∧ e = .returned (.float .f64 r) ∧ w' = w.drewN n := by
  have q := sqrt_run
  go_enter Tryz.func24, Tryz.ntmps24
  go_wp2
  go_ret
  exact ⟨_, _, sv_res x w, rfl, rfl⟩

theorem abs_any (x : Nat) (w : World) (hx : okK .f64 x) : Calls Tryz.prog 91 #[.float .f64 x] w fun e w' => e = .returned (.float .f64 (rgK .f64 x)) ∧ w' = w := by
  have q1 := bits_run
  have q2 := from_int
  have q3 := andNot_u64 x hx
  go_enter Tryz.func91, Tryz.ntmps91
  go_wp2
  go_ret
  exact ⟨rfl, rfl⟩

theorem rVec_any (x y : Nat) (w : World) : Calls Tryz.prog 60 #[.float .f64 x, .float .f64 y] w fun e w' => e = .returned (.agg #[.float .f64 x, .float .f64 y]) ∧ Bel w w' := by
  go_enter Tryz.func60, Tryz.ntmps60
  go_wp2
  refine bodyPost_ret (v := .agg #[.float .f64 x, .float .f64 y]) (by simp [results, Tryz.results60, go_sem] <;> exact ⟨rfl, rfl⟩) rfl ⟨rfl, ?_⟩
  repeat (first | exact bl_refl _ | assumption | apply bl_drewN | apply bl_drew | apply bl_alloc | refine bl_set ?_ (by simp <;> omega) | refine bl_trans ?_ (by assumption))

theorem rBits_any (a : Nat) (w : World) : Calls Tryz.prog 93 #[.float .f64 a] w fun e w' => e = .returned (.int .u64 (bitsR a)) ∧ w' = w := by
  have c1 := cmp_ne .f64
  have c2 := eqK_self .f64
  have hb := bits_run
  cases na : nanK .f64 a
  all_goals
    go_enter Tryz.func93, Tryz.ntmps93
    go_wp2
    go_ret
    exact ⟨by simp [bitsR, na], rfl⟩

theorem rIs_any (a b : Nat) (w : World) : Calls Tryz.prog 62 #[.float .f64 a, .float .f64 b] w fun e w' => e = .returned (.bool (smK .f64 a b)) ∧ w' = w := by
  have hq := bitsR_eq a b
  go_enter Tryz.func62, Tryz.ntmps62
  go_wp2_with (first | (go_at_call 93; refine (rBits_any _ _).mono ?_; rintro e w' ⟨rfl, rfl⟩))
  go_ret
  exact ⟨by rw [← hq, beq_cast]; rfl, rfl⟩

theorem rEnd_any (a : Nat) (w : World) : Calls Tryz.prog 92 #[.float .f64 a] w fun e w' => ∃ n, e = .returned (.bool (finK .f64 a)) ∧ w' = w.drewN n := by
  have c1 := cmp_eq .f64
  have q1 := run_sub Tryz.prog
  have q2 := self_sub .f64 a
  go_enter Tryz.func92, Tryz.ntmps92
  go_wp2
  go_ret
  exact ⟨_, rfl, rfl⟩

theorem rTurned_any (a : Nat) (w : World) (ha : okK .f64 a) : Calls Tryz.prog 65 #[.float .f64 a] w fun e w' => e = .returned (.float .f64 (Op.negFloat .f64 a)) ∧ w' = w := by
  have q1 := bits_run
  have q2 := from_int
  have q3 := xor_u64 a ha
  go_enter Tryz.func65, Tryz.ntmps65
  go_wp2
  go_ret
  exact ⟨rfl, rfl⟩

theorem vAdd_any (ax ay bx b_y : Nat) (w : World) : Calls Tryz.prog 83 #[.agg #[.float .f64 ax, .float .f64 ay], .agg #[.float .f64 bx, .float .f64 b_y]] w fun e w' => ∃ x y, AddR ax ay bx b_y x y ∧ e = .returned (.agg #[.float .f64 x, .float .f64 y]) ∧ Bel w w' := by
  have q1 := run_add Tryz.prog
  have q2 := run_sub Tryz.prog
  have q3 := run_mul Tryz.prog
  have q4 := run_quo Tryz.prog
  go_enter Tryz.func83, Tryz.ntmps83
  go_wp2
  refine bodyPost_ret (v := .agg #[.float .f64 _, .float .f64 _]) (by simp [results, Tryz.results83, go_sem] <;> exact ⟨rfl, rfl⟩) rfl ⟨_, _, ⟨fv_res _ _ _ _ _, fv_res _ _ _ _ _⟩, rfl, ?_⟩
  repeat (first | exact bl_refl _ | assumption | apply bl_drewN | apply bl_drew | apply bl_alloc | refine bl_set ?_ (by simp <;> omega) | refine bl_trans ?_ (by assumption))

theorem vSub_any (ax ay bx b_y : Nat) (w : World) : Calls Tryz.prog 19 #[.agg #[.float .f64 ax, .float .f64 ay], .agg #[.float .f64 bx, .float .f64 b_y]] w fun e w' => ∃ x y, SubR ax ay bx b_y x y ∧ e = .returned (.agg #[.float .f64 x, .float .f64 y]) ∧ Bel w w' := by
  have q1 := run_add Tryz.prog
  have q2 := run_sub Tryz.prog
  have q3 := run_mul Tryz.prog
  have q4 := run_quo Tryz.prog
  go_enter Tryz.func19, Tryz.ntmps19
  go_wp2
  refine bodyPost_ret (v := .agg #[.float .f64 _, .float .f64 _]) (by simp [results, Tryz.results19, go_sem] <;> exact ⟨rfl, rfl⟩) rfl ⟨_, _, ⟨fv_res _ _ _ _ _, fv_res _ _ _ _ _⟩, rfl, ?_⟩
  repeat (first | exact bl_refl _ | assumption | apply bl_drewN | apply bl_drew | apply bl_alloc | refine bl_set ?_ (by simp <;> omega) | refine bl_trans ?_ (by assumption))

theorem vScale_any (ax ay s : Nat) (w : World) : Calls Tryz.prog 81 #[.agg #[.float .f64 ax, .float .f64 ay], .float .f64 s] w fun e w' => ∃ x y, ScaleR ax ay s x y ∧ e = .returned (.agg #[.float .f64 x, .float .f64 y]) ∧ Bel w w' := by
  have q1 := run_add Tryz.prog
  have q2 := run_sub Tryz.prog
  have q3 := run_mul Tryz.prog
  have q4 := run_quo Tryz.prog
  go_enter Tryz.func81, Tryz.ntmps81
  go_wp2
  refine bodyPost_ret (v := .agg #[.float .f64 _, .float .f64 _]) (by simp [results, Tryz.results81, go_sem] <;> exact ⟨rfl, rfl⟩) rfl ⟨_, _, ⟨fv_res _ _ _ _ _, fv_res _ _ _ _ _⟩, rfl, ?_⟩
  repeat (first | exact bl_refl _ | assumption | apply bl_drewN | apply bl_drew | apply bl_alloc | refine bl_set ?_ (by simp <;> omega) | refine bl_trans ?_ (by assumption))

theorem vMore_any (ax ay s bx b_y : Nat) (w : World) : Calls Tryz.prog 26 #[.agg #[.float .f64 ax, .float .f64 ay], .float .f64 s, .agg #[.float .f64 bx, .float .f64 b_y]] w fun e w' => ∃ x y, MoreR ax ay s bx b_y x y ∧ e = .returned (.agg #[.float .f64 x, .float .f64 y]) ∧ Bel w w' := by
  have q1 := run_add Tryz.prog
  have q2 := run_sub Tryz.prog
  have q3 := run_mul Tryz.prog
  have q4 := run_quo Tryz.prog
  go_enter Tryz.func26, Tryz.ntmps26
  go_wp2
  refine bodyPost_ret (v := .agg #[.float .f64 _, .float .f64 _]) (by simp [results, Tryz.results26, go_sem] <;> exact ⟨rfl, rfl⟩) rfl ⟨_, _, ⟨_, _, fv_res _ _ _ _ _, fv_res _ _ _ _ _, fv_res _ _ _ _ _, fv_res _ _ _ _ _⟩, rfl, ?_⟩
  repeat (first | exact bl_refl _ | assumption | apply bl_drewN | apply bl_drew | apply bl_alloc | refine bl_set ?_ (by simp <;> omega) | refine bl_trans ?_ (by assumption))

theorem vDot_any (ax ay bx b_y : Nat) (w : World) : Calls Tryz.prog 21 #[.agg #[.float .f64 ax, .float .f64 ay], .agg #[.float .f64 bx, .float .f64 b_y]] w fun e w' => ∃ r, DotR ax ay bx b_y r ∧ e = .returned (.float .f64 r) ∧ Bel w w' := by
  have q1 := run_add Tryz.prog
  have q2 := run_sub Tryz.prog
  have q3 := run_mul Tryz.prog
  have q4 := run_quo Tryz.prog
  go_enter Tryz.func21, Tryz.ntmps21
  go_wp2
  go_ret
  refine ⟨_, ⟨_, _, fv_res _ _ _ _ _, fv_res _ _ _ _ _, fv_res _ _ _ _ _⟩, rfl, ?_⟩
  repeat (first | exact bl_refl _ | assumption | apply bl_drewN | apply bl_drew | apply bl_alloc | refine bl_set ?_ (by simp <;> omega) | refine bl_trans ?_ (by assumption))

theorem vCross_any (ax ay bx b_y : Nat) (w : World) : Calls Tryz.prog 39 #[.agg #[.float .f64 ax, .float .f64 ay], .agg #[.float .f64 bx, .float .f64 b_y]] w fun e w' => ∃ r, CrossR ax ay bx b_y r ∧ e = .returned (.float .f64 r) ∧ Bel w w' := by
  have q1 := run_add Tryz.prog
  have q2 := run_sub Tryz.prog
  have q3 := run_mul Tryz.prog
  have q4 := run_quo Tryz.prog
  go_enter Tryz.func39, Tryz.ntmps39
  go_wp2
  go_ret
  refine ⟨_, ⟨_, _, fv_res _ _ _ _ _, fv_res _ _ _ _ _, fv_res _ _ _ _ _⟩, rfl, ?_⟩
  repeat (first | exact bl_refl _ | assumption | apply bl_drewN | apply bl_drew | apply bl_alloc | refine bl_set ?_ (by simp <;> omega) | refine bl_trans ?_ (by assumption))

theorem vSquare_any (ax ay : Nat) (w : World) : Calls Tryz.prog 20 #[.agg #[.float .f64 ax, .float .f64 ay]] w fun e w' => ∃ r, DotR ax ay ax ay r ∧ e = .returned (.float .f64 r) ∧ Bel w w' := by
  go_enter Tryz.func20, Tryz.ntmps20
  go_wp2_with (first | (go_at_call 21; refine (vDot_any _ _ _ _ _).mono ?_; rintro e w' ⟨r, hr, rfl, hb⟩))
  go_ret
  refine ⟨_, hr, rfl, ?_⟩
  repeat (first | exact bl_refl _ | assumption | apply bl_drewN | apply bl_drew | apply bl_alloc | refine bl_set ?_ (by simp <;> omega) | refine bl_trans ?_ (by assumption))

theorem vLength_any (ax ay : Nat) (w : World) : Calls Tryz.prog 38 #[.agg #[.float .f64 ax, .float .f64 ay]] w fun e w' => ∃ r, LengthR ax ay r ∧ e = .returned (.float .f64 r) ∧ Bel w w' := by
  go_enter Tryz.func38, Tryz.ntmps38
  go_wp2_with (first | (go_at_call 20; refine (vSquare_any _ _ _).mono ?_; rintro e w' ⟨r, hr, rfl, hb⟩) | (go_at_call 24; refine (sqrt_any _ _).mono ?_; rintro e w' ⟨r2, n, hr2, rfl, rfl⟩))
  go_ret
  refine ⟨_, ⟨_, hr, hr2⟩, rfl, ?_⟩
  repeat (first | exact bl_refl _ | assumption | apply bl_drewN | apply bl_drew | apply bl_alloc | refine bl_set ?_ (by simp <;> omega) | refine bl_trans ?_ (by assumption))

theorem rSub_any (ax ay bx b_y : Nat) (w : World) : Calls Tryz.prog 30 #[.agg #[.float .f64 ax, .float .f64 ay], .agg #[.float .f64 bx, .float .f64 b_y]] w fun e w' => ∃ x y, SubR ax ay bx b_y x y ∧ e = .returned (.agg #[.float .f64 x, .float .f64 y]) ∧ Bel w w' := by
  have q1 := run_add Tryz.prog
  have q2 := run_sub Tryz.prog
  have q3 := run_mul Tryz.prog
  have q4 := run_quo Tryz.prog
  go_enter Tryz.func30, Tryz.ntmps30
  go_wp2_with (first | (go_at_call 60; refine (rVec_any _ _ _).mono ?_; rintro e w' ⟨rfl, hb⟩; obtain ⟨hc, hf⟩ := bcell hb; have hz := hb.size; simp at hz))
  refine bodyPost_ret (v := .agg #[.float .f64 _, .float .f64 _]) (by simp [hc, results, Tryz.results30, go_sem] <;> exact ⟨rfl, rfl⟩) rfl ⟨_, _, ⟨fv_res _ _ _ _ _, fv_res _ _ _ _ _⟩, rfl, ?_⟩
  repeat (first | exact bl_refl _ | assumption | apply bl_drewN | apply bl_drew | apply bl_alloc | refine bl_set ?_ (by simp <;> omega) | refine bl_trans ?_ (by assumption))

theorem rMore_any (ax ay s bx b_y : Nat) (w : World) : Calls Tryz.prog 35 #[.agg #[.float .f64 ax, .float .f64 ay], .float .f64 s, .agg #[.float .f64 bx, .float .f64 b_y]] w fun e w' => ∃ x y, MoreR ax ay s bx b_y x y ∧ e = .returned (.agg #[.float .f64 x, .float .f64 y]) ∧ Bel w w' := by
  have q1 := run_add Tryz.prog
  have q2 := run_sub Tryz.prog
  have q3 := run_mul Tryz.prog
  have q4 := run_quo Tryz.prog
  go_enter Tryz.func35, Tryz.ntmps35
  go_wp2_with (first | (go_at_call 60; refine (rVec_any _ _ _).mono ?_; rintro e w' ⟨rfl, hb⟩; obtain ⟨hc, hf⟩ := bcell hb; have hz := hb.size; simp at hz))
  refine bodyPost_ret (v := .agg #[.float .f64 _, .float .f64 _]) (by simp [hc, results, Tryz.results35, go_sem] <;> exact ⟨rfl, rfl⟩) rfl ⟨_, _, ⟨_, _, fv_res _ _ _ _ _, fv_res _ _ _ _ _, fv_res _ _ _ _ _, fv_res _ _ _ _ _⟩, rfl, ?_⟩
  repeat (first | exact bl_refl _ | assumption | apply bl_drewN | apply bl_drew | apply bl_alloc | refine bl_set ?_ (by simp <;> omega) | refine bl_trans ?_ (by assumption))

theorem rDot_any (ax ay bx b_y : Nat) (w : World) : Calls Tryz.prog 32 #[.agg #[.float .f64 ax, .float .f64 ay], .agg #[.float .f64 bx, .float .f64 b_y]] w fun e w' => ∃ r, DotR ax ay bx b_y r ∧ e = .returned (.float .f64 r) ∧ Bel w w' := by
  have q1 := run_add Tryz.prog
  have q2 := run_sub Tryz.prog
  have q3 := run_mul Tryz.prog
  have q4 := run_quo Tryz.prog
  go_enter Tryz.func32, Tryz.ntmps32
  go_wp2
  go_ret
  refine ⟨_, ⟨_, _, fv_res _ _ _ _ _, fv_res _ _ _ _ _, fv_res _ _ _ _ _⟩, rfl, ?_⟩
  repeat (first | exact bl_refl _ | assumption | apply bl_drewN | apply bl_drew | apply bl_alloc | refine bl_set ?_ (by simp <;> omega) | refine bl_trans ?_ (by assumption))

theorem rCross_any (ax ay bx b_y : Nat) (w : World) : Calls Tryz.prog 42 #[.agg #[.float .f64 ax, .float .f64 ay], .agg #[.float .f64 bx, .float .f64 b_y]] w fun e w' => ∃ r, CrossR ax ay bx b_y r ∧ e = .returned (.float .f64 r) ∧ Bel w w' := by
  have q1 := run_add Tryz.prog
  have q2 := run_sub Tryz.prog
  have q3 := run_mul Tryz.prog
  have q4 := run_quo Tryz.prog
  go_enter Tryz.func42, Tryz.ntmps42
  go_wp2
  go_ret
  refine ⟨_, ⟨_, _, fv_res _ _ _ _ _, fv_res _ _ _ _ _, fv_res _ _ _ _ _⟩, rfl, ?_⟩
  repeat (first | exact bl_refl _ | assumption | apply bl_drewN | apply bl_drew | apply bl_alloc | refine bl_set ?_ (by simp <;> omega) | refine bl_trans ?_ (by assumption))

theorem rSquare_any (ax ay : Nat) (w : World) : Calls Tryz.prog 31 #[.agg #[.float .f64 ax, .float .f64 ay]] w fun e w' => ∃ r, DotR ax ay ax ay r ∧ e = .returned (.float .f64 r) ∧ Bel w w' := by
  go_enter Tryz.func31, Tryz.ntmps31
  go_wp2_with (first | (go_at_call 32; refine (rDot_any _ _ _ _ _).mono ?_; rintro e w' ⟨r, hr, rfl, hb⟩))
  go_ret
  refine ⟨_, hr, rfl, ?_⟩
  repeat (first | exact bl_refl _ | assumption | apply bl_drewN | apply bl_drew | apply bl_alloc | refine bl_set ?_ (by simp <;> omega) | refine bl_trans ?_ (by assumption))

theorem rLength_any (ax ay : Nat) (w : World) : Calls Tryz.prog 41 #[.agg #[.float .f64 ax, .float .f64 ay]] w fun e w' => ∃ r, LengthR ax ay r ∧ e = .returned (.float .f64 r) ∧ Bel w w' := by
  go_enter Tryz.func41, Tryz.ntmps41
  go_wp2_with (first | (go_at_call 31; refine (rSquare_any _ _ _).mono ?_; rintro e w' ⟨r, hr, rfl, hb⟩) | (go_at_call 24; refine (sqrt_any _ _).mono ?_; rintro e w' ⟨r2, n, hr2, rfl, rfl⟩))
  go_ret
  refine ⟨_, ⟨_, hr, hr2⟩, rfl, ?_⟩
  repeat (first | exact bl_refl _ | assumption | apply bl_drewN | apply bl_drew | apply bl_alloc | refine bl_set ?_ (by simp <;> omega) | refine bl_trans ?_ (by assumption))

set_option maxHeartbeats 400000 in
theorem quarters_any (ax ay n : Nat) (hn : n ≤ 3) (w : World) : Calls Tryz.prog 94 #[.agg #[.float .f64 ax, .float .f64 ay], .int .i64 n] w fun e w' => e = .returned (.agg #[.float .f64 (rotP n (ax, ay)).1, .float .f64 (rotP n (ax, ay)).2]) ∧ Bel w w' := by
  have q := run_neg Tryz.prog
  go_enter Tryz.func94, Tryz.ntmps94
  go_wp2
  go_loopw [6] (fun i wr => ∃ k : Nat, k ≤ n ∧ i = .int .i64 k ∧ wr = (w.alloc (Obj.cells #[.float .f64 (rotP k (ax, ay)).1, .float .f64 (rotP k (ax, ay)).2] 24)).alloc (Obj.cells #[.float .f64 0, .float .f64 0] 24)) (fun i _ => n - (intOf i).toNat)
  case atStart => exact ⟨0, by omega, rfl, rfl⟩
  case round =>
    obtain ⟨k, hk, rfl, rfl⟩ := hrel
    by_cases hlt : k < n
    · go_wp2
      go_roundw
      case rel => exact ⟨k + 1, by omega, by go_num, rfl⟩
      case measure => simp [intOf]; omega
    · have hkn : k = n := by omega
      subst hkn
      go_wp2
      refine bodyPost_ret (v := .agg #[.float .f64 _, .float .f64 _]) (by simp [results, Tryz.results94, go_sem] <;> exact ⟨rfl, rfl⟩) rfl ⟨rfl, ?_⟩
      repeat (first | exact bl_refl _ | assumption | apply bl_drewN | apply bl_drew | apply bl_alloc | refine bl_set ?_ (by simp <;> omega) | refine bl_trans ?_ (by assumption))

theorem vNeg_any (ax ay : Nat) (w : World) : Calls Tryz.prog 64 #[.agg #[.float .f64 ax, .float .f64 ay]] w fun e w' => e = .returned (.agg #[.float .f64 (Op.negFloat .f64 ax), .float .f64 (Op.negFloat .f64 ay)]) ∧ Bel w w' := by
  go_enter Tryz.func64, Tryz.ntmps64
  go_wp2_with (first | (go_at_call 94; refine (quarters_any _ _ 2 (by decide) _).mono ?_; rintro e w' ⟨rfl, hb⟩; obtain ⟨hc, hf⟩ := bcell hb; have hz := hb.size; simp at hz))
  refine bodyPost_ret (v := .agg #[.float .f64 _, .float .f64 _]) (by simp [hc, results, Tryz.results64, go_sem] <;> exact ⟨rfl, rfl⟩) rfl ⟨by first | rfl | (rw [rot_three]), ?_⟩
  repeat (first | exact bl_refl _ | assumption | apply bl_drewN | apply bl_drew | apply bl_alloc | refine bl_set ?_ (by simp <;> omega) | refine bl_trans ?_ (by assumption))

theorem rNeg_any (ax ay : Nat) (w : World) (ha : okK .f64 ax) (hb : okK .f64 ay) : Calls Tryz.prog 44 #[.agg #[.float .f64 ax, .float .f64 ay]] w fun e w' => e = .returned (.agg #[.float .f64 (Op.negFloat .f64 ax), .float .f64 (Op.negFloat .f64 ay)]) ∧ Bel w w' := by
  go_enter Tryz.func44, Tryz.ntmps44
  go_wp2
  go_region_held3 (fun w1 => w1.cell? ⟨w.heap.size, 0, none⟩ = some (.float .f64 ax) ∧ w1.cell? ⟨w.heap.size, 1, none⟩ = some (.float .f64 ay)) (first | go_keep | (go_split_ands; first | exact ⟨keep hb1 (by assumption), keep hb1 (by assumption)⟩))
    (first | (go_at_call 65; refine (rTurned_any _ _ (by assumption)).mono ?_; rintro e w' ⟨rfl, rfl⟩) | (go_at_call 60; refine (rVec_any _ _ _).mono ?_; rintro e w' ⟨rfl, hb1⟩; obtain ⟨hc, hf⟩ := bcell hb1; have hz := hb1.size; simp at hz))
  all_goals go_wp2
  refine bodyPost_ret (v := .agg #[.float .f64 _, .float .f64 _]) (by simp [hc, results, Tryz.results44, go_sem] <;> exact ⟨rfl, rfl⟩) rfl ⟨rfl, ?_⟩
  repeat (first | exact bl_refl _ | assumption | apply bl_drewN | apply bl_drew | apply bl_alloc | refine bl_set ?_ (by simp <;> omega) | refine bl_trans ?_ (by assumption))

theorem vLeft_any (ax ay : Nat) (w : World) : Calls Tryz.prog 82 #[.agg #[.float .f64 ax, .float .f64 ay]] w fun e w' => e = .returned (.agg #[.float .f64 (Op.negFloat .f64 ay), .float .f64 (ax)]) ∧ Bel w w' := by
  go_enter Tryz.func82, Tryz.ntmps82
  go_wp2_with (first | (go_at_call 94; refine (quarters_any _ _ 1 (by decide) _).mono ?_; rintro e w' ⟨rfl, hb⟩; obtain ⟨hc, hf⟩ := bcell hb; have hz := hb.size; simp at hz))
  refine bodyPost_ret (v := .agg #[.float .f64 _, .float .f64 _]) (by simp [hc, results, Tryz.results82, go_sem] <;> exact ⟨rfl, rfl⟩) rfl ⟨by first | rfl | (rw [rot_three]), ?_⟩
  repeat (first | exact bl_refl _ | assumption | apply bl_drewN | apply bl_drew | apply bl_alloc | refine bl_set ?_ (by simp <;> omega) | refine bl_trans ?_ (by assumption))

theorem vRight_any (ax ay : Nat) (w : World) : Calls Tryz.prog 63 #[.agg #[.float .f64 ax, .float .f64 ay]] w fun e w' => e = .returned (.agg #[.float .f64 (ay), .float .f64 (Op.negFloat .f64 ax)]) ∧ Bel w w' := by
  go_enter Tryz.func63, Tryz.ntmps63
  go_wp2_with (first | (go_at_call 94; refine (quarters_any _ _ 3 (by decide) _).mono ?_; rintro e w' ⟨rfl, hb⟩; obtain ⟨hc, hf⟩ := bcell hb; have hz := hb.size; simp at hz))
  refine bodyPost_ret (v := .agg #[.float .f64 _, .float .f64 _]) (by simp [hc, results, Tryz.results63, go_sem] <;> exact ⟨rfl, rfl⟩) rfl ⟨by first | rfl | (rw [rot_three]), ?_⟩
  repeat (first | exact bl_refl _ | assumption | apply bl_drewN | apply bl_drew | apply bl_alloc | refine bl_set ?_ (by simp <;> omega) | refine bl_trans ?_ (by assumption))

theorem rRight_any (ax ay : Nat) (w : World) (ha : okK .f64 ax) (hb : okK .f64 ay) : Calls Tryz.prog 43 #[.agg #[.float .f64 ax, .float .f64 ay]] w fun e w' => e = .returned (.agg #[.float .f64 (ay), .float .f64 (Op.negFloat .f64 ax)]) ∧ Bel w w' := by
  go_enter Tryz.func43, Tryz.ntmps43
  go_wp2
  go_region_held3 (fun w1 => w1.cell? ⟨w.heap.size, 0, none⟩ = some (.float .f64 ax) ∧ w1.cell? ⟨w.heap.size, 1, none⟩ = some (.float .f64 ay)) (first | go_keep | (go_split_ands; first | exact ⟨keep hb1 (by assumption), keep hb1 (by assumption)⟩))
    (first | (go_at_call 65; refine (rTurned_any _ _ (by assumption)).mono ?_; rintro e w' ⟨rfl, rfl⟩) | (go_at_call 60; refine (rVec_any _ _ _).mono ?_; rintro e w' ⟨rfl, hb1⟩; obtain ⟨hc, hf⟩ := bcell hb1; have hz := hb1.size; simp at hz))
  all_goals go_wp2
  refine bodyPost_ret (v := .agg #[.float .f64 _, .float .f64 _]) (by simp [hc, results, Tryz.results43, go_sem] <;> exact ⟨rfl, rfl⟩) rfl ⟨rfl, ?_⟩
  repeat (first | exact bl_refl _ | assumption | apply bl_drewN | apply bl_drew | apply bl_alloc | refine bl_set ?_ (by simp <;> omega) | refine bl_trans ?_ (by assumption))

theorem lt_le_flip (n : Nat) (h : finK .f64 n = true) : leK .f64 n 0 = !ltK .f64 0 n := by
  have hn : nanK .f64 n = false := by unfold finK at h; rw [nanK_eq]; simp at h ⊢; omega
  unfold leK ltK
  rw [hn, nought_nan, nought_wo]
  simp
  rw [Bool.eq_iff_iff]
  simp
theorem unit_yes {n : Nat} (h : finK .f64 n = true) (g : leK .f64 n 0 = false) : true = (ltK .f64 0 n && finK .f64 n) := by
  rw [lt_le_flip n h] at g; rw [h]; simpa using g
theorem unit_no {n : Nat} (h : finK .f64 n = true) (g : leK .f64 n 0 = true) : false = (ltK .f64 0 n && finK .f64 n) := by
  rw [lt_le_flip n h] at g; rw [h]; simpa using g

set_option maxHeartbeats 400000 in
theorem vUnit_any (ax ay : Nat) (w : World) : Calls Tryz.prog 27 #[.agg #[.float .f64 ax, .float .f64 ay]] w fun e w' => ∃ x y b, UnitR ax ay x y b ∧ e = .returned (.tuple #[.agg #[.float .f64 x, .float .f64 y], .bool b]) ∧ Bel w w' := by
  have c1 := cmp_gt .f64
  have q4 := run_quo Tryz.prog
  go_enter Tryz.func27, Tryz.ntmps27
  go_wp2_with (first | (go_at_call 38; refine (vLength_any _ _ _).mono ?_; rintro e w' ⟨r0, hr0, rfl, hb⟩; obtain ⟨hc, hf⟩ := bcell hb; have hz := hb.size; simp at hz; have hy : w.heap.size + 1 < w'.heap.size := by omega) | (go_at_call 58; refine (finite_6 _ _).mono ?_; rintro e w' ⟨n2, rfl, rfl⟩))
  all_goals first | (refine bodyPost_ret (v := .tuple #[.agg #[.float .f64 _, .float .f64 _], .bool true]) (by simp [hc, results, Tryz.results27, go_sem] <;> exact ⟨rfl, rfl⟩) rfl ⟨_, _, _, ⟨_, hr0, by simp [*], by simp only [if_true]; exact ⟨fv_res _ _ _ _ _, fv_res _ _ _ _ _⟩⟩, rfl, ?_⟩; repeat (first | exact bl_refl _ | assumption | apply bl_drewN | apply bl_drew | apply bl_alloc | refine bl_set ?_ (by simp <;> omega) | refine bl_trans ?_ (by assumption))) | (refine bodyPost_ret (v := .tuple #[.agg #[.float .f64 _, .float .f64 _], .bool false]) (by simp [hc, results, Tryz.results27, go_sem] <;> exact ⟨rfl, rfl⟩) rfl ⟨_, _, _, ⟨_, hr0, by simp [*], by simp⟩, rfl, ?_⟩; repeat (first | exact bl_refl _ | assumption | apply bl_drewN | apply bl_drew | apply bl_alloc | refine bl_set ?_ (by simp <;> omega) | refine bl_trans ?_ (by assumption)))

set_option maxHeartbeats 400000 in
theorem rUnit_any (ax ay : Nat) (w : World) : Calls Tryz.prog 61 #[.agg #[.float .f64 ax, .float .f64 ay]] w fun e w' => ∃ x y b, UnitR ax ay x y b ∧ e = .returned (.tuple #[.agg #[.float .f64 x, .float .f64 y], .bool b]) ∧ Bel w w' := by
  have c1 := cmp_le .f64
  have q4 := run_quo Tryz.prog
  go_enter Tryz.func61, Tryz.ntmps61
  go_wp2_with (first | (go_at_call 41; refine (rLength_any _ _ _).mono ?_; rintro e w' ⟨r0, hr0, rfl, hb⟩; obtain ⟨hc, hf⟩ := bcell hb; have hz := hb.size; simp at hz; have hy : w.heap.size + 1 < w'.heap.size := by omega) | (go_at_call 92; refine (rEnd_any _ _).mono ?_; rintro e w' ⟨n2, rfl, rfl⟩) | (go_at_call 60; refine (rVec_any _ _ _).mono ?_; rintro e w' ⟨rfl, hb2⟩; obtain ⟨hc2, hf2⟩ := bcell hb2; simp only [World.heap_drewN, World.cell?_drewN, World.frozen?_drewN] at hc2 hf2))
  all_goals first | (refine bodyPost_ret (v := .tuple #[.agg #[.float .f64 _, .float .f64 _], .bool true]) (by simp [hc, hc2, hy, results, Tryz.results61, go_sem] <;> exact ⟨rfl, rfl⟩) rfl ⟨_, _, _, ⟨_, hr0, unit_yes (by assumption) (by assumption), by simp only [if_true]; exact ⟨fv_res _ _ _ _ _, fv_res _ _ _ _ _⟩⟩, rfl, ?_⟩; repeat (first | exact bl_refl _ | assumption | apply bl_drewN | apply bl_drew | apply bl_alloc | refine bl_set ?_ (by simp <;> omega) | refine bl_trans ?_ (by assumption))) | (refine bodyPost_ret (v := .tuple #[.agg #[.float .f64 _, .float .f64 _], .bool false]) (by simp [hc, results, Tryz.results61, go_sem] <;> exact ⟨rfl, rfl⟩) rfl ⟨_, _, _, ⟨_, hr0, by first | (simp [*]; done) | exact unit_no (by assumption) (by assumption), by simp⟩, rfl, ?_⟩; repeat (first | exact bl_refl _ | assumption | apply bl_drewN | apply bl_drew | apply bl_alloc | refine bl_set ?_ (by simp <;> omega) | refine bl_trans ?_ (by assumption)))

theorem vWithin_any (ax ay m : Nat) (w : World) : Calls Tryz.prog 16 #[.agg #[.float .f64 ax, .float .f64 ay], .float .f64 m] w fun e w' => e = .returned (.bool (withinK .f64 ax m && withinK .f64 ay m)) ∧ Bel w w' := by
  cases h1 : withinK .f64 ax m
  all_goals
    go_enter Tryz.func16, Tryz.ntmps16
    go_wp2_with (first | (go_at_call 56; refine (within_6 _ _ _).mono ?_; rintro e w' ⟨rfl, rfl⟩))
    go_ret
    refine ⟨rfl, ?_⟩
    repeat (first | exact bl_refl _ | assumption | apply bl_drewN | apply bl_drew | apply bl_alloc | refine bl_set ?_ (by simp <;> omega) | refine bl_trans ?_ (by assumption))

theorem rSame_any (ax ay bx b_y : Nat) (w : World) : Calls Tryz.prog 51 #[.agg #[.float .f64 ax, .float .f64 ay], .agg #[.float .f64 bx, .float .f64 b_y]] w fun e w' => e = .returned (.bool (smK .f64 ax bx && smK .f64 ay b_y)) ∧ Bel w w' := by
  cases h1 : smK .f64 ax bx
  all_goals
    go_enter Tryz.func51, Tryz.ntmps51
    go_wp2_with (first | (go_at_call 62; refine (rIs_any _ _ _).mono ?_; rintro e w' ⟨rfl, rfl⟩))
    go_ret
    refine ⟨rfl, ?_⟩
    repeat (first | exact bl_refl _ | assumption | apply bl_drewN | apply bl_drew | apply bl_alloc | refine bl_set ?_ (by simp <;> omega) | refine bl_trans ?_ (by assumption))

theorem rWithin_any (ax ay m : Nat) (hx : okK .f64 ax) (hy : okK .f64 ay) (hm : okK .f64 m) (w : World) : Calls Tryz.prog 59 #[.agg #[.float .f64 ax, .float .f64 ay], .float .f64 m] w fun e w' => e = .returned (.bool (withinK .f64 ax m && withinK .f64 ay m)) ∧ Bel w w' := by
  have c1 := cmp_le .f64
  have c2 := abs_within ax m hm
  have c3 := abs_within ay m hm
  cases h1 : withinK .f64 ax m
  all_goals
    go_enter Tryz.func59, Tryz.ntmps59
    go_wp2_with (first | (go_at_call 91; refine (abs_any _ _ (by assumption)).mono ?_; rintro e w' ⟨rfl, rfl⟩))
    go_ret
    refine ⟨rfl, ?_⟩
    repeat (first | exact bl_refl _ | assumption | apply bl_drewN | apply bl_drew | apply bl_alloc | refine bl_set ?_ (by simp <;> omega) | refine bl_trans ?_ (by assumption))

end Go.Proofs.YtdeooadeohojcaaGreat
