/-
  What each function of package vec answers, and what the reference of its chapter answers: one contract a function, for every float: the answer stands in the relation of its formula to what was given; of the memory that was there nothing has turned.
-/
import Derived.Test.YtdlendamklcinabVec
import Derived.Below
import Derived.WalkKit
import Derived.WalkLawsBesides
import Derived.WalkSpells
import Derived.ProofKit
import Derived.OpenShut
import Derived.Deep.RegionHeld3
namespace Go.Proofs.Ytdlendamklcinab
open Go.ChangeShapes Go.WideShapes Go.ChangeAt Go.RowKit
set_option linter.unusedVariables false
set_option linter.unusedSimpArgs false


set_option maxHeartbeats 400000 in
theorem quarters_any (ax ay n : Nat) (hn : n ≤ 3) (w : World) : Calls Try.prog 30 #[.agg #[.float .f64 ax, .float .f64 ay], .int .i64 n] w fun e w' => e = .returned (.agg #[.float .f64 (rotP n (ax, ay)).1, .float .f64 (rotP n (ax, ay)).2]) ∧ Bel w w' := by
  have q := run_neg Try.prog
  go_enter Try.func30, Try.ntmps30
  go_wp2
  go_loopw [6] (fun i wr => ∃ k : Nat, k ≤ n ∧ i = .int .i64 k ∧ wr = (w.alloc (Obj.cells #[.float .f64 (rotP k (ax, ay)).1, .float .f64 (rotP k (ax, ay)).2] 24)).alloc (Obj.cells #[.float .f64 0, .float .f64 0] 24)) (fun i _ => n - (intOf i).toNat)
  case atStart => exact ⟨0, by omega, rfl, rfl⟩
  case round =>
    obtain ⟨k, hk, rfl, rfl⟩ := hrel
    by_cases hlt : k < n
    · go_wp2
      go_roundw
      case rel => exact ⟨k + 1, by omega, by go_num, rfl⟩
      case measure => simp [intOf]; omega
    · have hkn : k = n := by omega
      subst hkn
      go_wp2
      refine bodyPost_ret (v := .agg #[.float .f64 _, .float .f64 _]) (by simp [results, Try.results30, go_sem] <;> exact ⟨rfl, rfl⟩) rfl ⟨rfl, ?_⟩
      repeat (first | exact bl_refl _ | assumption | apply bl_drewN | apply bl_drew | apply bl_alloc | refine bl_set ?_ (by simp <;> omega) | refine bl_trans ?_ (by assumption))

theorem vLeft_any (ax ay : Nat) (w : World) : Calls Try.prog 13 #[.agg #[.float .f64 ax, .float .f64 ay]] w fun e w' => e = .returned (.agg #[.float .f64 (Op.negFloat .f64 ay), .float .f64 (ax)]) ∧ Bel w w' := by
  go_enter Try.func13, Try.ntmps13
  go_wp2_with (first | (go_at_call 30; refine (quarters_any _ _ 1 (by decide) _).mono ?_; rintro e w' ⟨rfl, hb⟩; obtain ⟨hc, hf⟩ := bcell hb; have hz := hb.size; simp at hz))
  refine bodyPost_ret (v := .agg #[.float .f64 _, .float .f64 _]) (by simp [hc, results, Try.results13, go_sem] <;> exact ⟨rfl, rfl⟩) rfl ⟨by first | rfl | (rw [rot_three]), ?_⟩
  repeat (first | exact bl_refl _ | assumption | apply bl_drewN | apply bl_drew | apply bl_alloc | refine bl_set ?_ (by simp <;> omega) | refine bl_trans ?_ (by assumption))

theorem lt_le_flip (n : Nat) (h : finK .f64 n = true) : leK .f64 n 0 = !ltK .f64 0 n := by
  have hn : nanK .f64 n = false := by unfold finK at h; rw [nanK_eq]; simp at h ⊢; omega
  unfold leK ltK
  rw [hn, nought_nan, nought_wo]
  simp
  rw [Bool.eq_iff_iff]
  simp
theorem unit_yes {n : Nat} (h : finK .f64 n = true) (g : leK .f64 n 0 = false) : true = (ltK .f64 0 n && finK .f64 n) := by
  rw [lt_le_flip n h] at g; rw [h]; simpa using g
theorem unit_no {n : Nat} (h : finK .f64 n = true) (g : leK .f64 n 0 = true) : false = (ltK .f64 0 n && finK .f64 n) := by
  rw [lt_le_flip n h] at g; rw [h]; simpa using g

set_option maxHeartbeats 400000 in
theorem vUnit_any (ax ay : Nat) (w : World) : Calls Try.prog 8 #[.agg #[.float .f64 ax, .float .f64 ay]] w fun e w' => ∃ x y b, UnitR ax ay x y b ∧ e = .returned (.tuple #[.agg #[.float .f64 x, .float .f64 y], .bool b]) ∧ Bel w w' := by
  have c1 := cmp_gt .f64
  have q4 := run_quo Try.prog
  go_enter Try.func8, Try.ntmps8
  go_wp2_with (first | (go_at_call 19; refine (vLength_any _ _ _).mono ?_; rintro e w' ⟨r0, hr0, rfl, hb⟩; obtain ⟨hc, hf⟩ := bcell hb; have hz := hb.size; simp at hz; have hy : w.heap.size + 1 < w'.heap.size := by omega) | (go_at_call 28; refine (finite_6 _ _).mono ?_; rintro e w' ⟨n2, rfl, rfl⟩))
  all_goals first | (refine bodyPost_ret (v := .tuple #[.agg #[.float .f64 _, .float .f64 _], .bool true]) (by simp [hc, results, Try.results8, go_sem] <;> exact ⟨rfl, rfl⟩) rfl ⟨_, _, _, ⟨_, hr0, by simp [*], by simp only [if_true]; exact ⟨fv_res _ _ _ _ _, fv_res _ _ _ _ _⟩⟩, rfl, ?_⟩; repeat (first | exact bl_refl _ | assumption | apply bl_drewN | apply bl_drew | apply bl_alloc | refine bl_set ?_ (by simp <;> omega) | refine bl_trans ?_ (by assumption))) | (refine bodyPost_ret (v := .tuple #[.agg #[.float .f64 _, .float .f64 _], .bool false]) (by simp [hc, results, Try.results8, go_sem] <;> exact ⟨rfl, rfl⟩) rfl ⟨_, _, _, ⟨_, hr0, by simp [*], by simp⟩, rfl, ?_⟩; repeat (first | exact bl_refl _ | assumption | apply bl_drewN | apply bl_drew | apply bl_alloc | refine bl_set ?_ (by simp <;> omega) | refine bl_trans ?_ (by assumption)))

end Go.Proofs.Ytdlendamklcinab
