/-
  What each function of package frame answers, and what the reference of its chapter answers: one contract a function, for every float: the answer stands in the relation of its formula to what was given; of the memory that was there nothing has turned.
-/
import Derived.Test.YtoljkokcgmigeaaVec
import Derived.Test.YtoljkokcgmigeaaFlaw
import Derived.Laws.StructEq
import Derived.Below
import Derived.WalkKit
import Derived.WalkLawsBesides
import Derived.WalkSpells
import Derived.ProofKit
import Derived.OpenShut
import Derived.Deep.RegionHeld3
namespace Go.Proofs.Ytoljkokcgmigeaa
open Go.ChangeShapes Go.WideShapes Go.ChangeAt Go.RowKit
set_option linter.unusedVariables false
set_option linter.unusedSimpArgs false

theorem quarters_any (ax ay n : Nat) (hn : n ≤ 3) (w : World) : Calls Try.prog 77 #[.agg #[.float .f64 ax, .float .f64 ay], .int .i64 n] w fun e w' => e = .returned (.agg #[.float .f64 (rotP n (ax, ay)).1, .float .f64 (rotP n (ax, ay)).2]) ∧ Bel w w' := by
  have q := run_neg Try.prog
  go_enter Try.func77, Try.ntmps77
  go_wp2
  go_loopw [6] (fun i wr => ∃ k : Nat, k ≤ n ∧ i = .int .i64 k ∧ wr = (w.alloc (Obj.cells #[.float .f64 (rotP k (ax, ay)).1, .float .f64 (rotP k (ax, ay)).2] 26)).alloc (Obj.cells #[.float .f64 0, .float .f64 0] 26)) (fun i _ => n - (intOf i).toNat)
  case atStart => exact ⟨0, by omega, rfl, rfl⟩
  case round =>
    obtain ⟨k, hk, rfl, rfl⟩ := hrel
    by_cases hlt : k < n
    · go_wp2
      go_roundw
      case rel => exact ⟨k + 1, by omega, by go_num, rfl⟩
      case measure => simp [intOf]; omega
    · have hkn : k = n := by omega
      subst hkn
      go_wp2
      refine bodyPost_ret (v := .agg #[.float .f64 _, .float .f64 _]) (by simp [results, Try.results77, go_sem] <;> exact ⟨rfl, rfl⟩) rfl ⟨rfl, ?_⟩
      repeat (first | exact bl_refl _ | assumption | apply bl_drewN | apply bl_drew | apply bl_alloc | refine bl_set ?_ (by simp <;> omega) | refine bl_trans ?_ (by assumption))

theorem vNeg_any (ax ay : Nat) (w : World) : Calls Try.prog 61 #[.agg #[.float .f64 ax, .float .f64 ay]] w fun e w' => e = .returned (.agg #[.float .f64 (Op.negFloat .f64 ax), .float .f64 (Op.negFloat .f64 ay)]) ∧ Bel w w' := by
  go_enter Try.func61, Try.ntmps61
  go_wp2_with (first | (go_at_call 77; refine (quarters_any _ _ 2 (by decide) _).mono ?_; rintro e w' ⟨rfl, hb⟩; obtain ⟨hc, hf⟩ := bcell hb; have hz := hb.size; simp at hz))
  refine bodyPost_ret (v := .agg #[.float .f64 _, .float .f64 _]) (by simp [hc, results, Try.results61, go_sem] <;> exact ⟨rfl, rfl⟩) rfl ⟨by first | rfl | (rw [rot_three]), ?_⟩
  repeat (first | exact bl_refl _ | assumption | apply bl_drewN | apply bl_drew | apply bl_alloc | refine bl_set ?_ (by simp <;> omega) | refine bl_trans ?_ (by assumption))
theorem vWithin_any (ax ay m : Nat) (w : World) : Calls Try.prog 39 #[.agg #[.float .f64 ax, .float .f64 ay], .float .f64 m] w fun e w' => e = .returned (.bool (withinK .f64 ax m && withinK .f64 ay m)) ∧ Bel w w' := by
  cases h1 : withinK .f64 ax m
  all_goals
    go_enter Try.func39, Try.ntmps39
    go_wp2_with (first | (go_at_call 68; refine (within_6 _ _ _).mono ?_; rintro e w' ⟨rfl, rfl⟩))
    go_ret
    refine ⟨rfl, ?_⟩
    repeat (first | exact bl_refl _ | assumption | apply bl_drewN | apply bl_drew | apply bl_alloc | refine bl_set ?_ (by simp <;> omega) | refine bl_trans ?_ (by assumption))

theorem goutward_any (X Y x y : Nat) (w : World) : Calls Try.prog 53 #[.agg #[.float .f64 X, .float .f64 Y, .complex .f64 x y]] w fun e w' => e = .returned (.func (.func 75) #[.complex .f64 x y] #[]) ∧ Bel w w' := by
  go_enter Try.func53, Try.ntmps53
  go_wp2
  go_ret
  refine ⟨rfl, ?_⟩
  repeat (first | exact bl_refl _ | assumption | apply bl_drewN | apply bl_drew | apply bl_alloc | refine bl_set ?_ (by simp <;> omega) | refine bl_trans ?_ (by assumption))
theorem gApply_any (x y u v : Nat) (w : World) : Calls Try.prog 75 #[.complex .f64 x y, .agg #[.float .f64 u, .float .f64 v]] w fun e w' => ∃ r i, ThenR x y u v r i ∧ e = .returned (.agg #[.float .f64 r, .float .f64 i]) ∧ Bel w w' := by
  go_enter Try.func75, Try.ntmps75
  go_wp2_with (first | (go_at_call 82; refine (tApply_any _ _ _ _ _).mono ?_; rintro e w' ⟨r, i, hR, rfl, hb⟩; have B := hb; obtain ⟨hc, hf⟩ := bcell B; have hz := B.size; (try simp at hz)))
  refine bodyPost_ret (v := .agg #[.float .f64 _, .float .f64 _]) (by simp [hc, results, Try.results75, go_sem] <;> exact ⟨rfl, rfl⟩) rfl ⟨_, _, hR, rfl, ?_⟩
  repeat (first | exact bl_refl _ | assumption | apply bl_drewN | apply bl_drew | apply bl_alloc | refine bl_set ?_ (by simp <;> omega) | refine bl_trans ?_ (by assumption))

theorem ginward_any (X Y x y : Nat) (w : World) : Calls Try.prog 56 #[.agg #[.float .f64 X, .float .f64 Y, .complex .f64 x y]] w fun e w' => e = .returned (.func (.func 76) #[.complex .f64 x y] #[]) ∧ Bel w w' := by
  go_enter Try.func56, Try.ntmps56
  go_wp2
  go_ret
  refine ⟨rfl, ?_⟩
  repeat (first | exact bl_refl _ | assumption | apply bl_drewN | apply bl_drew | apply bl_alloc | refine bl_set ?_ (by simp <;> omega) | refine bl_trans ?_ (by assumption))
theorem gUndo_any (x y u v : Nat) (w : World) : Calls Try.prog 76 #[.complex .f64 x y, .agg #[.float .f64 u, .float .f64 v]] w fun e w' => ∃ r i, ThenR x (Op.negFloat .f64 y) u v r i ∧ e = .returned (.agg #[.float .f64 r, .float .f64 i]) ∧ Bel w w' := by
  go_enter Try.func76, Try.ntmps76
  go_wp2_with (first | (go_at_call 83; refine (tUndo_any _ _ _ _ _).mono ?_; rintro e w' ⟨r, i, hR, rfl, hb⟩; have B := hb; obtain ⟨hc, hf⟩ := bcell B; have hz := B.size; (try simp at hz)))
  refine bodyPost_ret (v := .agg #[.float .f64 _, .float .f64 _]) (by simp [hc, results, Try.results76, go_sem] <;> exact ⟨rfl, rfl⟩) rfl ⟨_, _, hR, rfl, ?_⟩
  repeat (first | exact bl_refl _ | assumption | apply bl_drewN | apply bl_drew | apply bl_alloc | refine bl_set ?_ (by simp <;> omega) | refine bl_trans ?_ (by assumption))

theorem then_un {x y u v r i : Nat} (oy : okK .f64 y) (h : ThenR x (Op.negFloat .f64 y) u v r i) : UndoR x y u v r i := then_undo oy h
set_option maxHeartbeats 400000 in
theorem gTo_any (X Y x y u v : Nat) (w : World) : Calls Try.prog 24 #[.agg #[.float .f64 X, .float .f64 Y, .complex .f64 x y], .agg #[.float .f64 u, .float .f64 v]] w fun e w' => ∃ tx ty, ToR X Y x y u v tx ty ∧ e = .returned (.agg #[.float .f64 tx, .float .f64 ty]) ∧ Bel w w' := by
  go_enter Try.func24, Try.ntmps24
  go_wp2
  go_region_held3 (fun w1 => w1.cell? ⟨w.heap.size, 0, none⟩ = some (.float .f64 X) ∧ w1.cell? ⟨w.heap.size, 1, none⟩ = some (.float .f64 Y) ∧ w1.cell? ⟨w.heap.size, 2, none⟩ = some (.complex .f64 x y) ∧ w1.cell? ⟨w.heap.size + 1, 0, none⟩ = some (.float .f64 u) ∧ w1.cell? ⟨w.heap.size + 1, 1, none⟩ = some (.float .f64 v)) (first | ((try go_split_ands); refine ⟨?_, ?_, ?_, ?_, ?_⟩ <;> (first | ((repeat' (first | (with_reducible assumption) | (with_reducible refine up_drew ?_) | (with_reducible refine up_drewN ?_) | (with_reducible refine keep hb ?_) | (with_reducible refine up_set2 ?_ ?_) | (with_reducible refine (cell_own ?_ _ _ _).1) | (with_reducible refine (cell_own ?_ _ _ _).2) | (with_reducible refine up_alloc ?_) | omega | (simp; done))); done) | go_keep)))
    (first | (go_at_call 53; refine (goutward_any _ _ _ _ _).mono ?_; rintro e w' ⟨rfl, hb⟩; have B := hb; obtain ⟨hc, hf⟩ := bcell B; have hz := B.size; (try simp at hz)) | (go_at_call 75; refine (gApply_any _ _ _ _ _).mono ?_; rintro e w' ⟨A, B0, hA, rfl, hb⟩; clear hc hf hz; have B := bl_trans B hb; obtain ⟨hc, hf⟩ := bcell B; have hz := B.size; (try simp at hz)) | (go_at_call 52; refine (vAdd_any _ _ _ _ _).mono ?_; rintro e w' ⟨tx, ty, hT, rfl, hb⟩; clear hc hf hz; have B := bl_trans B hb; obtain ⟨hc, hf⟩ := bcell B; have hz := B.size; (try simp at hz)))
  all_goals go_wp2
  refine bodyPost_ret (v := .agg #[.float .f64 _, .float .f64 _]) (by simp [hc, results, Try.results24, go_sem] <;> exact ⟨rfl, rfl⟩) rfl ⟨_, _, ⟨_, _, hA, hT.1, hT.2⟩, rfl, ?_⟩
  repeat (first | exact bl_refl _ | assumption | apply bl_drewN | apply bl_drew | apply bl_alloc | refine bl_set ?_ (by simp <;> omega) | refine bl_trans ?_ (by assumption))
set_option maxHeartbeats 400000 in
theorem gOwn_any (X Y x y u v : Nat) (oy : okK .f64 y) (w : World) : Calls Try.prog 26 #[.agg #[.float .f64 X, .float .f64 Y, .complex .f64 x y], .agg #[.float .f64 u, .float .f64 v]] w fun e w' => ∃ r i, OwnR X Y x y u v r i ∧ e = .returned (.agg #[.float .f64 r, .float .f64 i]) ∧ Bel w w' := by
  go_enter Try.func26, Try.ntmps26
  go_wp2
  go_region_held3 (fun w1 => w1.cell? ⟨w.heap.size, 0, none⟩ = some (.float .f64 X) ∧ w1.cell? ⟨w.heap.size, 1, none⟩ = some (.float .f64 Y) ∧ w1.cell? ⟨w.heap.size, 2, none⟩ = some (.complex .f64 x y) ∧ w1.cell? ⟨w.heap.size + 1, 0, none⟩ = some (.float .f64 u) ∧ w1.cell? ⟨w.heap.size + 1, 1, none⟩ = some (.float .f64 v)) (first | ((try go_split_ands); refine ⟨?_, ?_, ?_, ?_, ?_⟩ <;> (first | ((repeat' (first | (with_reducible assumption) | (with_reducible refine up_drew ?_) | (with_reducible refine up_drewN ?_) | (with_reducible refine keep hb ?_) | (with_reducible refine up_set2 ?_ ?_) | (with_reducible refine (cell_own ?_ _ _ _).1) | (with_reducible refine (cell_own ?_ _ _ _).2) | (with_reducible refine up_alloc ?_) | omega | (simp; done))); done) | go_keep)))
    (first | (go_at_call 56; refine (ginward_any _ _ _ _ _).mono ?_; rintro e w' ⟨rfl, hb⟩; have B := hb; obtain ⟨hc, hf⟩ := bcell B; have hz := B.size; (try simp at hz)) | (go_at_call 57; refine (vSub_any _ _ _ _ _).mono ?_; rintro e w' ⟨A, B0, hA, rfl, hb⟩; clear hc hf hz; have B := bl_trans B hb; obtain ⟨hc, hf⟩ := bcell B; have hz := B.size; (try simp at hz)) | (go_at_call 76; refine (gUndo_any _ _ _ _ _).mono ?_; rintro e w' ⟨tx, ty, hT, rfl, hb⟩; clear hc hf hz; have B := bl_trans B hb; obtain ⟨hc, hf⟩ := bcell B; have hz := B.size; (try simp at hz)))
  all_goals go_wp2
  refine bodyPost_ret (v := .agg #[.float .f64 _, .float .f64 _]) (by simp [hc, results, Try.results26, go_sem] <;> exact ⟨rfl, rfl⟩) rfl ⟨_, _, ⟨_, _, hA.1, hA.2, then_un oy hT⟩, rfl, ?_⟩
  repeat (first | exact bl_refl _ | assumption | apply bl_drewN | apply bl_drew | apply bl_alloc | refine bl_set ?_ (by simp <;> omega) | refine bl_trans ?_ (by assumption))
set_option maxHeartbeats 1000000 in
theorem gThen_any (X Y x y U V u v : Nat) (w : World) : Calls Try.prog 28 #[.agg #[.float .f64 X, .float .f64 Y, .complex .f64 x y], .agg #[.float .f64 U, .float .f64 V, .complex .f64 u v]] w fun e w' => ∃ tx ty r i, ToR X Y x y U V tx ty ∧ ThenR u v x y r i ∧ e = .returned (.agg #[.float .f64 tx, .float .f64 ty, .complex .f64 r i]) ∧ Bel w w' := by
  go_enter Try.func28, Try.ntmps28
  go_wp2
  go_region_held3 (fun w1 => w1.cell? ⟨w.heap.size, 0, none⟩ = some (.float .f64 X) ∧ w1.cell? ⟨w.heap.size, 1, none⟩ = some (.float .f64 Y) ∧ w1.cell? ⟨w.heap.size, 2, none⟩ = some (.complex .f64 x y) ∧ w1.cell? ⟨w.heap.size + 1, 0, none⟩ = some (.float .f64 U) ∧ w1.cell? ⟨w.heap.size + 1, 1, none⟩ = some (.float .f64 V) ∧ w1.cell? ⟨w.heap.size + 1, 2, none⟩ = some (.complex .f64 u v)) (first | ((try go_split_ands); refine ⟨?_, ?_, ?_, ?_, ?_, ?_⟩ <;> (first | ((repeat' (first | (with_reducible assumption) | (with_reducible refine up_drew ?_) | (with_reducible refine up_drewN ?_) | (with_reducible refine keep hb ?_) | (with_reducible refine up_set2 ?_ ?_) | (with_reducible refine (cell_own ?_ _ _ _).1) | (with_reducible refine (cell_own ?_ _ _ _).2) | (with_reducible refine up_alloc ?_) | omega | (simp; done))); done) | go_keep)))
    (first | (go_at_call 24; refine (gTo_any _ _ _ _ _ _ _).mono ?_; rintro e w' ⟨tx, ty, hT, rfl, hb⟩; have B := hb; obtain ⟨hc, hf⟩ := bcell B; have hz := B.size; (try simp at hz)) | (go_at_call 44; refine (tThen_any _ _ _ _ _).mono ?_; rintro e w' ⟨r, i, hR, rfl, hb⟩; clear hc hf hz; have B := bl_trans B hb; obtain ⟨hc, hf⟩ := bcell B; have hz := B.size; (try simp at hz)))
  all_goals go_wp2
  refine bodyPost_ret (v := .agg #[.float .f64 _, .float .f64 _, .complex .f64 _ _]) (by simp [hc, results, Try.results28, go_sem] <;> (first | exact ⟨rfl, rfl⟩ | rfl)) rfl ⟨_, _, _, _, hT, hR, rfl, ?_⟩
  repeat (first | exact bl_refl _ | assumption | apply bl_drewN | apply bl_drew | apply bl_alloc | refine bl_set ?_ (by simp <;> omega) | refine bl_trans ?_ (by assumption))
set_option maxHeartbeats 1000000 in
theorem gBack_any (X Y x y : Nat) (oy : okK .f64 y) (w : World) : Calls Try.prog 30 #[.agg #[.float .f64 X, .float .f64 Y, .complex .f64 x y]] w fun e w' => ∃ a b, UndoR x y X Y a b ∧ e = .returned (.agg #[.float .f64 (Op.negFloat .f64 a), .float .f64 (Op.negFloat .f64 b), .complex .f64 x (Op.negFloat .f64 y)]) ∧ Bel w w' := by
  go_enter Try.func30, Try.ntmps30
  go_wp2
  go_region_held3 (fun w1 => w1.cell? ⟨w.heap.size, 0, none⟩ = some (.float .f64 X) ∧ w1.cell? ⟨w.heap.size, 1, none⟩ = some (.float .f64 Y) ∧ w1.cell? ⟨w.heap.size, 2, none⟩ = some (.complex .f64 x y)) (first | ((try go_split_ands); refine ⟨?_, ?_, ?_⟩ <;> (first | ((repeat' (first | (with_reducible assumption) | (with_reducible refine up_drew ?_) | (with_reducible refine up_drewN ?_) | (with_reducible refine keep hb ?_) | (with_reducible refine up_set2 ?_ ?_) | (with_reducible refine (cell_own ?_ _ _ _).1) | (with_reducible refine (cell_own ?_ _ _ _).2) | (with_reducible refine up_alloc ?_) | omega | (simp; done))); done) | go_keep)))
    (first | (go_at_call 56; refine (ginward_any _ _ _ _ _).mono ?_; rintro e w' ⟨rfl, hb⟩; have B := hb; obtain ⟨hc, hf⟩ := bcell B; have hz := B.size; (try simp at hz)) | (go_at_call 76; refine (gUndo_any _ _ _ _ _).mono ?_; rintro e w' ⟨A, B0, hA, rfl, hb⟩; clear hc hf hz; have B := bl_trans B hb; obtain ⟨hc, hf⟩ := bcell B; have hz := B.size; (try simp at hz)) | (go_at_call 61; refine (vNeg_any _ _ _).mono ?_; rintro e w' ⟨rfl, hb⟩; clear hc hf hz; have B := bl_trans B hb; obtain ⟨hc, hf⟩ := bcell B; have hz := B.size; (try simp at hz)) | (go_at_call 62; refine (tBack_any _ _ _).mono ?_; rintro e w' ⟨rfl, rfl⟩))
  all_goals go_wp2
  refine bodyPost_ret (v := .agg #[.float .f64 _, .float .f64 _, .complex .f64 _ _]) (by simp [hc, results, Try.results30, go_sem] <;> (first | exact ⟨rfl, rfl⟩ | rfl)) rfl ⟨_, _, then_un oy hA, rfl, ?_⟩
  repeat (first | exact bl_refl _ | assumption | apply bl_drewN | apply bl_drew | apply bl_alloc | refine bl_set ?_ (by simp <;> omega) | refine bl_trans ?_ (by assumption))
theorem gHome_any (w : World) : Calls Try.prog 10 #[] w fun e w' => e = .returned (.agg #[.float .f64 0, .float .f64 0, .complex .f64 4607182418800017408 0]) ∧ Bel w w' := by
  go_enter Try.func10, Try.ntmps10
  go_wp2_with (first | (go_at_call 40; refine (tOne_any _).mono ?_; rintro e w' ⟨rfl, rfl⟩))
  refine bodyPost_ret (v := .agg #[.float .f64 0, .float .f64 0, .complex .f64 4607182418800017408 0]) (by simp [results, Try.results10, go_sem] <;> (first | exact ⟨rfl, rfl⟩ | rfl)) rfl ⟨rfl, ?_⟩
  repeat (first | exact bl_refl _ | assumption | apply bl_drewN | apply bl_drew | apply bl_alloc | refine bl_set ?_ (by simp <;> omega) | refine bl_trans ?_ (by assumption))
theorem gCheck_any (X Y x y : Nat) (w : World) : Calls Try.prog 9 #[.agg #[.float .f64 X, .float .f64 Y, .complex .f64 x y]] w fun e w' => ∃ s, DotR x y x y s ∧ e = .returned (.int .i64 (frErr X Y s)) ∧ Bel w w' := by
  obtain ⟨s0, hs0⟩ := dot_exists x y
  cases h1 : withinK .f64 X 4787326403894837248 <;> cases h2 : withinK .f64 Y 4787326403894837248
  all_goals
    go_enter Try.func9, Try.ntmps9
    go_wp2_with (first | (go_at_call 39; refine (vWithin_any _ _ _ _).mono ?_; rintro e w' ⟨rfl, hb⟩; have k2 := keep hb (a := ⟨w.heap.size, 2, none⟩) (v := .complex .f64 x y) (by go_keep)) | (go_at_call 38; refine (tCheck_any _ _ _).mono ?_; rintro e w' ⟨s, hs, rfl, hb⟩))
    go_ret
    first | (refine ⟨s, hs, by simp [frErr, h1, h2], ?_⟩; repeat (first | exact bl_refl _ | assumption | apply bl_drewN | apply bl_drew | apply bl_alloc | refine bl_set ?_ (by simp <;> omega) | refine bl_trans ?_ (by assumption))) | (refine ⟨s0, hs0, by simp [frErr, h1, h2], ?_⟩; repeat (first | exact bl_refl _ | assumption | apply bl_drewN | apply bl_drew | apply bl_alloc | refine bl_set ?_ (by simp <;> omega) | refine bl_trans ?_ (by assumption)))
set_option maxHeartbeats 2000000 in
theorem gMove_any (X Y x y sx sy wi ti : Nat) (w : World) : Calls Try.prog 15 #[.agg #[.float .f64 X, .float .f64 Y, .complex .f64 x y], .agg #[.float .f64 sx, .float .f64 sy], .float .f64 wi, .float .f64 ti] w fun e w' => ∃ px py qx qy, MoreR X Y ti sx sy px py ∧ TurnMR x y wi ti qx qy ∧ e = .returned (.agg #[.float .f64 px, .float .f64 py, .complex .f64 qx qy]) ∧ Bel w w' := by
  have q1 := run_add Try.prog
  have q2 := run_sub Try.prog
  have q3 := run_mul Try.prog
  have q4 := run_quo Try.prog
  go_enter Try.func15, Try.ntmps15
  go_wp2
  all_goals go_region_with (first | (go_at_call 45; refine (tBy_any _ _).mono ?_; rintro e w' ⟨bx, b_y, hBy, rfl, hb⟩; have B := hb; obtain ⟨hc, hf⟩ := bcell B; have hz := B.size; (try simp at hz)) | (go_at_call 44; refine (tThen_any _ _ _ _ _).mono ?_; rintro e w' ⟨r, i, hR, rfl, hb⟩; clear hc hf hz; have B := bl_trans B hb; obtain ⟨hc, hf⟩ := bcell B; have hz := B.size; (try simp at hz)))
  all_goals go_wp2_with (first | (go_at_call 46; refine (tUnit_any _ _ _).mono ?_; rintro e w' ⟨u, v, b, hU, rfl, hb⟩; clear hc hf hz; have B := bl_trans B hb; obtain ⟨hc, hf⟩ := bcell B; have hz := B.size; (try simp at hz); cases b) | (go_at_call 47; refine (vMore_any _ _ _ _ _ _).mono ?_; rintro e w' ⟨px, py, hM, rfl, hb⟩; clear hc hf hz; have B := bl_trans B hb; obtain ⟨hc, hf⟩ := bcell B; have hz := B.size; (try simp at hz)))
  all_goals
    refine bodyPost_ret (v := .agg #[.float .f64 _, .float .f64 _, .complex .f64 _ _]) (by simp [hc, results, Try.results15, go_sem] <;> (first | exact ⟨rfl, rfl⟩ | rfl)) rfl ⟨_, _, _, _, hM, ⟨_, _, _, _, _, _, _, _, _, fv_res _ _ _ _ _, fv_res _ _ _ _ _, hBy, hR, hU, rfl, rfl⟩, rfl, ?_⟩
    repeat (first | exact bl_refl _ | assumption | apply bl_drewN | apply bl_drew | apply bl_alloc | refine bl_set ?_ (by simp <;> omega) | refine bl_trans ?_ (by assumption))

theorem gNaN_any (w : World) : Calls Try.prog 12 #[] w fun e w' => e = .returned (.float .f64 9221120237041090561) ∧ w' = w := by
  have q := from_int
  go_enter Try.func12, Try.ntmps12
  go_wp2
  go_ret
  exact ⟨rfl, rfl⟩
def bitsF (a : Nat) : Nat := if nanK .f64 a then 9221120237041090561 else a
theorem bitsF_eq (a b : Nat) : decide (bitsF a = bitsF b) = smK .f64 a b := by
  rw [← bitsK_eq]
  have n0 : nanK .f64 9221120237041090561 = true := by decide +kernel
  have n1 : nanK .f64 9221120237041090560 = true := by decide +kernel
  unfold bitsF bitsK
  by_cases h1 : nanK .f64 a = true <;> by_cases h2 : nanK .f64 b = true <;> simp [h1, h2]
  · constructor <;> intro h <;> rw [← h] at h2
    · exact absurd n0 h2
    · exact absurd n1 h2
  · constructor <;> intro h <;> rw [h] at h1
    · exact absurd n0 h1
    · exact absurd n1 h1
theorem gbits_any (a : Nat) (w : World) : Calls Try.prog 69 #[.float .f64 a] w fun e w' => e = .returned (.int .u64 (bitsF a)) ∧ w' = w := by
  have q := bits_run
  unfold bitsF
  cases h : nanK .f64 a
  all_goals
    go_enter Try.func69, Try.ntmps69
    go_wp2_with (first | (go_at_call 80; refine (isNaN_any _ _).mono ?_; rintro e w' ⟨rfl, rfl⟩) | (go_at_call 12; refine (gNaN_any _).mono ?_; rintro e w' ⟨rfl, rfl⟩))
    go_ret
    exact ⟨rfl, rfl⟩
set_option maxHeartbeats 4000000 in
theorem gbitsOf_any (X Y x y : Nat) (w : World) : Calls Try.prog 43 #[.agg #[.float .f64 X, .float .f64 Y, .complex .f64 x y]] w fun e w' => e = .returned (.agg #[.int .u64 (bitsF X), .int .u64 (bitsF Y), .int .u64 (bitsF x), .int .u64 (bitsF y)]) ∧ Bel w w' := by
  go_enter Try.func43, Try.ntmps43
  go_wp2
  go_region_held3 (fun w1 => w1.cell? ⟨w.heap.size, 0, none⟩ = some (.float .f64 X) ∧ w1.cell? ⟨w.heap.size, 1, none⟩ = some (.float .f64 Y) ∧ w1.cell? ⟨w.heap.size, 2, none⟩ = some (.complex .f64 x y)) (first | ((try go_split_ands); refine ⟨?_, ?_, ?_⟩ <;> (first | ((repeat' (first | (with_reducible assumption) | (with_reducible refine up_drew ?_) | (with_reducible refine up_drewN ?_) | (with_reducible refine keep hb ?_) | (with_reducible refine up_set2 ?_ ?_) | (with_reducible refine (cell_own ?_ _ _ _).1) | (with_reducible refine (cell_own ?_ _ _ _).2) | (with_reducible refine up_alloc ?_) | omega | (simp; done))); done) | go_keep)))
    (first | (go_at_call 69; refine (gbits_any _ _).mono ?_; rintro e w' ⟨rfl, rfl⟩))
  all_goals go_wp2
  all_goals
    refine bodyPost_ret (v := .agg #[.int .u64 (bitsF X), .int .u64 (bitsF Y), .int .u64 (bitsF x), .int .u64 (bitsF y)]) (by simp [results, Try.results43, go_sem] <;> exact ⟨rfl, rfl⟩) rfl ⟨rfl, ?_⟩
    repeat (first | exact bl_refl _ | assumption | apply bl_drewN | apply bl_drew | apply bl_alloc | refine bl_set ?_ (by simp <;> omega) | refine bl_trans ?_ (by assumption))
set_option maxHeartbeats 1000000 in
theorem gSame_any (X Y x y U V u v : Nat) (w : World) : Calls Try.prog 14 #[.agg #[.float .f64 X, .float .f64 Y, .complex .f64 x y], .agg #[.float .f64 U, .float .f64 V, .complex .f64 u v]] w fun e w' => e = .returned (.bool ((smK .f64 X U && smK .f64 Y V) && (smK .f64 x u && smK .f64 y v))) ∧ Bel w w' := by
  rw [← bitsF_eq X U, ← bitsF_eq Y V, ← bitsF_eq x u, ← bitsF_eq y v]
  rcases (show (¬ (bitsF X : Int) = bitsF U) ∨ ((bitsF X : Int) = bitsF U ∧ ¬ (bitsF Y : Int) = bitsF V) ∨ ((bitsF X : Int) = bitsF U ∧ (bitsF Y : Int) = bitsF V ∧ ¬ (bitsF x : Int) = bitsF u) ∨ ((bitsF X : Int) = bitsF U ∧ (bitsF Y : Int) = bitsF V ∧ (bitsF x : Int) = bitsF u ∧ ¬ (bitsF y : Int) = bitsF v) ∨ ((bitsF X : Int) = bitsF U ∧ (bitsF Y : Int) = bitsF V ∧ (bitsF x : Int) = bitsF u ∧ (bitsF y : Int) = bitsF v) by
    by_cases h1 : (bitsF X : Int) = bitsF U <;> by_cases h2 : (bitsF Y : Int) = bitsF V <;> by_cases h3 : (bitsF x : Int) = bitsF u <;> by_cases h4 : (bitsF y : Int) = bitsF v <;> simp [h1, h2, h3, h4]) with h1 | ⟨h1, h2⟩ | ⟨h1, h2, h3⟩ | ⟨h1, h2, h3, h4⟩ | ⟨h1, h2, h3, h4⟩
  all_goals
    go_enter Try.func14, Try.ntmps14
    go_wp2
    go_region_held3 (fun w1 => w1.cell? ⟨w.heap.size, 0, none⟩ = some (.float .f64 X) ∧ w1.cell? ⟨w.heap.size, 1, none⟩ = some (.float .f64 Y) ∧ w1.cell? ⟨w.heap.size, 2, none⟩ = some (.complex .f64 x y) ∧ w1.cell? ⟨w.heap.size + 1, 0, none⟩ = some (.float .f64 U) ∧ w1.cell? ⟨w.heap.size + 1, 1, none⟩ = some (.float .f64 V) ∧ w1.cell? ⟨w.heap.size + 1, 2, none⟩ = some (.complex .f64 u v)) (first | ((try go_split_ands); refine ⟨?_, ?_, ?_, ?_, ?_, ?_⟩ <;> (first | ((repeat' (first | (with_reducible assumption) | (with_reducible refine up_drew ?_) | (with_reducible refine up_drewN ?_) | (with_reducible refine keep hb ?_) | (with_reducible refine up_set2 ?_ ?_) | (with_reducible refine (cell_own ?_ _ _ _).1) | (with_reducible refine (cell_own ?_ _ _ _).2) | (with_reducible refine up_alloc ?_) | omega | (simp; done))); done) | go_keep)))
      (first | (go_at_call 43; refine (gbitsOf_any _ _ _ _ _).mono ?_; rintro e w' ⟨rfl, hb⟩))
    all_goals go_wp2
    go_ret
    refine ⟨by simp [← Int.natCast_inj, *], ?_⟩
    repeat (first | exact bl_refl _ | assumption | apply bl_drewN | apply bl_drew | apply bl_alloc | refine bl_set ?_ (by simp <;> omega) | refine bl_trans ?_ (by assumption))

end Go.Proofs.Ytoljkokcgmigeaa
