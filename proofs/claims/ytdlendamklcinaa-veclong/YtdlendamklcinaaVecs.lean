/-
  What each function of package vec answers, and what the reference of its chapter answers: one contract a function, for every float: the answer stands in the relation of its formula to what was given; of the memory that was there nothing has turned.
-/
import Derived.Test.YtdlendamklcinaaVec
import Derived.Below
import Derived.WalkKit
import Derived.WalkLawsBesides
import Derived.WalkSpells
import Derived.ProofKit
import Derived.OpenShut
import Derived.Deep.RegionHeld3
namespace Go.Proofs.Ytdlendamklcinaa
open Go.ChangeShapes Go.WideShapes Go.ChangeAt Go.RowKit
set_option linter.unusedVariables false
set_option linter.unusedSimpArgs false


set_option maxHeartbeats 400000 in
theorem quarters_any (ax ay n : Nat) (hn : n ≤ 3) (w : World) : Calls Try.prog 48 #[.agg #[.float .f64 ax, .float .f64 ay], .int .i64 n] w fun e w' => e = .returned (.agg #[.float .f64 (rotP n (ax, ay)).1, .float .f64 (rotP n (ax, ay)).2]) ∧ Bel w w' := by
  have q := run_neg Try.prog
  go_enter Try.func48, Try.ntmps48
  go_wp2
  go_loopw [6] (fun i wr => ∃ k : Nat, k ≤ n ∧ i = .int .i64 k ∧ wr = (w.alloc (Obj.cells #[.float .f64 (rotP k (ax, ay)).1, .float .f64 (rotP k (ax, ay)).2] 24)).alloc (Obj.cells #[.float .f64 0, .float .f64 0] 24)) (fun i _ => n - (intOf i).toNat)
  case atStart => exact ⟨0, by omega, rfl, rfl⟩
  case round =>
    obtain ⟨k, hk, rfl, rfl⟩ := hrel
    by_cases hlt : k < n
    · go_wp2
      go_roundw
      case rel => exact ⟨k + 1, by omega, by go_num, rfl⟩
      case measure => simp [intOf]; omega
    · have hkn : k = n := by omega
      subst hkn
      go_wp2
      refine bodyPost_ret (v := .agg #[.float .f64 _, .float .f64 _]) (by simp [results, Try.results48, go_sem] <;> exact ⟨rfl, rfl⟩) rfl ⟨rfl, ?_⟩
      repeat (first | exact bl_refl _ | assumption | apply bl_drewN | apply bl_drew | apply bl_alloc | refine bl_set ?_ (by simp <;> omega) | refine bl_trans ?_ (by assumption))

theorem vNeg_any (ax ay : Nat) (w : World) : Calls Try.prog 17 #[.agg #[.float .f64 ax, .float .f64 ay]] w fun e w' => e = .returned (.agg #[.float .f64 (Op.negFloat .f64 ax), .float .f64 (Op.negFloat .f64 ay)]) ∧ Bel w w' := by
  go_enter Try.func17, Try.ntmps17
  go_wp2_with (first | (go_at_call 48; refine (quarters_any _ _ 2 (by decide) _).mono ?_; rintro e w' ⟨rfl, hb⟩; obtain ⟨hc, hf⟩ := bcell hb; have hz := hb.size; simp at hz))
  refine bodyPost_ret (v := .agg #[.float .f64 _, .float .f64 _]) (by simp [hc, results, Try.results17, go_sem] <;> exact ⟨rfl, rfl⟩) rfl ⟨by first | rfl | (rw [rot_three]), ?_⟩
  repeat (first | exact bl_refl _ | assumption | apply bl_drewN | apply bl_drew | apply bl_alloc | refine bl_set ?_ (by simp <;> omega) | refine bl_trans ?_ (by assumption))

theorem rNeg_any (ax ay : Nat) (w : World) (ha : okK .f64 ax) (hb : okK .f64 ay) : Calls Try.prog 18 #[.agg #[.float .f64 ax, .float .f64 ay]] w fun e w' => e = .returned (.agg #[.float .f64 (Op.negFloat .f64 ax), .float .f64 (Op.negFloat .f64 ay)]) ∧ Bel w w' := by
  go_enter Try.func18, Try.ntmps18
  go_wp2
  go_region_held3 (fun w1 => w1.cell? ⟨w.heap.size, 0, none⟩ = some (.float .f64 ax) ∧ w1.cell? ⟨w.heap.size, 1, none⟩ = some (.float .f64 ay)) (first | go_keep | (go_split_ands; first | exact ⟨keep hb1 (by assumption), keep hb1 (by assumption)⟩))
    (first | (go_at_call 49; refine (rTurned_any _ _ (by assumption)).mono ?_; rintro e w' ⟨rfl, rfl⟩) | (go_at_call 47; refine (rVec_any _ _ _).mono ?_; rintro e w' ⟨rfl, hb1⟩; obtain ⟨hc, hf⟩ := bcell hb1; have hz := hb1.size; simp at hz))
  all_goals go_wp2
  refine bodyPost_ret (v := .agg #[.float .f64 _, .float .f64 _]) (by simp [hc, results, Try.results18, go_sem] <;> exact ⟨rfl, rfl⟩) rfl ⟨rfl, ?_⟩
  repeat (first | exact bl_refl _ | assumption | apply bl_drewN | apply bl_drew | apply bl_alloc | refine bl_set ?_ (by simp <;> omega) | refine bl_trans ?_ (by assumption))

theorem vLeft_any (ax ay : Nat) (w : World) : Calls Try.prog 34 #[.agg #[.float .f64 ax, .float .f64 ay]] w fun e w' => e = .returned (.agg #[.float .f64 (Op.negFloat .f64 ay), .float .f64 (ax)]) ∧ Bel w w' := by
  go_enter Try.func34, Try.ntmps34
  go_wp2_with (first | (go_at_call 48; refine (quarters_any _ _ 1 (by decide) _).mono ?_; rintro e w' ⟨rfl, hb⟩; obtain ⟨hc, hf⟩ := bcell hb; have hz := hb.size; simp at hz))
  refine bodyPost_ret (v := .agg #[.float .f64 _, .float .f64 _]) (by simp [hc, results, Try.results34, go_sem] <;> exact ⟨rfl, rfl⟩) rfl ⟨by first | rfl | (rw [rot_three]), ?_⟩
  repeat (first | exact bl_refl _ | assumption | apply bl_drewN | apply bl_drew | apply bl_alloc | refine bl_set ?_ (by simp <;> omega) | refine bl_trans ?_ (by assumption))

theorem rLeft_any (ax ay : Nat) (w : World) (ha : okK .f64 ax) (hb : okK .f64 ay) : Calls Try.prog 35 #[.agg #[.float .f64 ax, .float .f64 ay]] w fun e w' => e = .returned (.agg #[.float .f64 (Op.negFloat .f64 ay), .float .f64 (ax)]) ∧ Bel w w' := by
  go_enter Try.func35, Try.ntmps35
  go_wp2
  go_region_held3 (fun w1 => w1.cell? ⟨w.heap.size, 0, none⟩ = some (.float .f64 ax) ∧ w1.cell? ⟨w.heap.size, 1, none⟩ = some (.float .f64 ay)) (first | go_keep | (go_split_ands; first | exact ⟨keep hb1 (by assumption), keep hb1 (by assumption)⟩))
    (first | (go_at_call 49; refine (rTurned_any _ _ (by assumption)).mono ?_; rintro e w' ⟨rfl, rfl⟩) | (go_at_call 47; refine (rVec_any _ _ _).mono ?_; rintro e w' ⟨rfl, hb1⟩; obtain ⟨hc, hf⟩ := bcell hb1; have hz := hb1.size; simp at hz))
  all_goals go_wp2
  refine bodyPost_ret (v := .agg #[.float .f64 _, .float .f64 _]) (by simp [hc, results, Try.results35, go_sem] <;> exact ⟨rfl, rfl⟩) rfl ⟨rfl, ?_⟩
  repeat (first | exact bl_refl _ | assumption | apply bl_drewN | apply bl_drew | apply bl_alloc | refine bl_set ?_ (by simp <;> omega) | refine bl_trans ?_ (by assumption))

theorem vRight_any (ax ay : Nat) (w : World) : Calls Try.prog 36 #[.agg #[.float .f64 ax, .float .f64 ay]] w fun e w' => e = .returned (.agg #[.float .f64 (ay), .float .f64 (Op.negFloat .f64 ax)]) ∧ Bel w w' := by
  go_enter Try.func36, Try.ntmps36
  go_wp2_with (first | (go_at_call 48; refine (quarters_any _ _ 3 (by decide) _).mono ?_; rintro e w' ⟨rfl, hb⟩; obtain ⟨hc, hf⟩ := bcell hb; have hz := hb.size; simp at hz))
  refine bodyPost_ret (v := .agg #[.float .f64 _, .float .f64 _]) (by simp [hc, results, Try.results36, go_sem] <;> exact ⟨rfl, rfl⟩) rfl ⟨by first | rfl | (rw [rot_three]), ?_⟩
  repeat (first | exact bl_refl _ | assumption | apply bl_drewN | apply bl_drew | apply bl_alloc | refine bl_set ?_ (by simp <;> omega) | refine bl_trans ?_ (by assumption))

theorem rRight_any (ax ay : Nat) (w : World) (ha : okK .f64 ax) (hb : okK .f64 ay) : Calls Try.prog 37 #[.agg #[.float .f64 ax, .float .f64 ay]] w fun e w' => e = .returned (.agg #[.float .f64 (ay), .float .f64 (Op.negFloat .f64 ax)]) ∧ Bel w w' := by
  go_enter Try.func37, Try.ntmps37
  go_wp2
  go_region_held3 (fun w1 => w1.cell? ⟨w.heap.size, 0, none⟩ = some (.float .f64 ax) ∧ w1.cell? ⟨w.heap.size, 1, none⟩ = some (.float .f64 ay)) (first | go_keep | (go_split_ands; first | exact ⟨keep hb1 (by assumption), keep hb1 (by assumption)⟩))
    (first | (go_at_call 49; refine (rTurned_any _ _ (by assumption)).mono ?_; rintro e w' ⟨rfl, rfl⟩) | (go_at_call 47; refine (rVec_any _ _ _).mono ?_; rintro e w' ⟨rfl, hb1⟩; obtain ⟨hc, hf⟩ := bcell hb1; have hz := hb1.size; simp at hz))
  all_goals go_wp2
  refine bodyPost_ret (v := .agg #[.float .f64 _, .float .f64 _]) (by simp [hc, results, Try.results37, go_sem] <;> exact ⟨rfl, rfl⟩) rfl ⟨rfl, ?_⟩
  repeat (first | exact bl_refl _ | assumption | apply bl_drewN | apply bl_drew | apply bl_alloc | refine bl_set ?_ (by simp <;> omega) | refine bl_trans ?_ (by assumption))

theorem vSpin_any (s ax ay : Nat) (w : World) : Calls Try.prog 38 #[.float .f64 s, .agg #[.float .f64 ax, .float .f64 ay]] w fun e w' => ∃ x y, SpinR s ax ay x y ∧ e = .returned (.agg #[.float .f64 x, .float .f64 y]) ∧ Bel w w' := by
  go_enter Try.func38, Try.ntmps38
  go_wp2_with (first | (go_at_call 15; refine (vScale_any _ _ _ _).mono ?_; rintro e w' ⟨p, q, hpq, rfl, hb⟩; obtain ⟨hc, hf⟩ := bcell hb; have hz := hb.size; simp at hz; have hy : w.heap.size + 1 < w'.heap.size := by omega) | (go_at_call 34; refine (vLeft_any _ _ _).mono ?_; rintro e w' ⟨rfl, hb2⟩; obtain ⟨hc2, hf2⟩ := bcell hb2; have hz2 := hb2.size))
  refine bodyPost_ret (v := .agg #[.float .f64 _, .float .f64 _]) (by simp [hc, hc2, hy, results, Try.results38, go_sem] <;> exact ⟨rfl, rfl⟩) rfl ⟨_, _, ⟨_, _, res_mul_comm hpq.2, res_mul_comm hpq.1, rfl, rfl⟩, rfl, ?_⟩
  repeat (first | exact bl_refl _ | assumption | apply bl_drewN | apply bl_drew | apply bl_alloc | refine bl_set ?_ (by simp <;> omega) | refine bl_trans ?_ (by assumption))

set_option maxHeartbeats 4000000 in
theorem rSpin_any (s ax ay : Nat) (w : World) : Calls Try.prog 39 #[.float .f64 s, .agg #[.float .f64 ax, .float .f64 ay]] w fun e w' => ∃ x y, SpinR s ax ay x y ∧ e = .returned (.agg #[.float .f64 x, .float .f64 y]) ∧ Bel w w' := by
  have q3 := run_mul Try.prog
  go_enter Try.func39, Try.ntmps39
  go_wp2
  go_region_with (first | (go_at_call 49; refine (rTurned_any _ _ (fv_res _ _ _ _ _).1).mono ?_; rintro e w' ⟨rfl, rfl⟩) | (go_at_call 47; refine (rVec_any _ _ _).mono ?_; rintro e w' ⟨rfl, hb1⟩; obtain ⟨hc, hf⟩ := bcell hb1; have hz := hb1.size; simp at hz))
  all_goals go_wp2
  all_goals
    refine bodyPost_ret (v := .agg #[.float .f64 _, .float .f64 _]) (by simp [hc, results, Try.results39, go_sem] <;> exact ⟨rfl, rfl⟩) rfl ⟨_, _, ⟨_, _, fv_res _ _ _ _ _, fv_res _ _ _ _ _, rfl, rfl⟩, rfl, ?_⟩
    repeat (first | exact bl_refl _ | assumption | apply bl_drewN | apply bl_drew | apply bl_alloc | refine bl_set ?_ (by simp <;> omega) | refine bl_trans ?_ (by assumption))

theorem lt_le_flip (n : Nat) (h : finK .f64 n = true) : leK .f64 n 0 = !ltK .f64 0 n := by
  have hn : nanK .f64 n = false := by unfold finK at h; rw [nanK_eq]; simp at h ⊢; omega
  unfold leK ltK
  rw [hn, nought_nan, nought_wo]
  simp
  rw [Bool.eq_iff_iff]
  simp
theorem unit_yes {n : Nat} (h : finK .f64 n = true) (g : leK .f64 n 0 = false) : true = (ltK .f64 0 n && finK .f64 n) := by
  rw [lt_le_flip n h] at g; rw [h]; simpa using g
theorem unit_no {n : Nat} (h : finK .f64 n = true) (g : leK .f64 n 0 = true) : false = (ltK .f64 0 n && finK .f64 n) := by
  rw [lt_le_flip n h] at g; rw [h]; simpa using g

set_option maxHeartbeats 400000 in
theorem vUnit_any (ax ay : Nat) (w : World) : Calls Try.prog 32 #[.agg #[.float .f64 ax, .float .f64 ay]] w fun e w' => ∃ x y b, UnitR ax ay x y b ∧ e = .returned (.tuple #[.agg #[.float .f64 x, .float .f64 y], .bool b]) ∧ Bel w w' := by
  have c1 := cmp_gt .f64
  have q4 := run_quo Try.prog
  go_enter Try.func32, Try.ntmps32
  go_wp2_with (first | (go_at_call 30; refine (vLength_any _ _ _).mono ?_; rintro e w' ⟨r0, hr0, rfl, hb⟩; obtain ⟨hc, hf⟩ := bcell hb; have hz := hb.size; simp at hz; have hy : w.heap.size + 1 < w'.heap.size := by omega) | (go_at_call 52; refine (finite_6 _ _).mono ?_; rintro e w' ⟨n2, rfl, rfl⟩))
  all_goals first | (refine bodyPost_ret (v := .tuple #[.agg #[.float .f64 _, .float .f64 _], .bool true]) (by simp [hc, results, Try.results32, go_sem] <;> exact ⟨rfl, rfl⟩) rfl ⟨_, _, _, ⟨_, hr0, by simp [*], by simp only [if_true]; exact ⟨fv_res _ _ _ _ _, fv_res _ _ _ _ _⟩⟩, rfl, ?_⟩; repeat (first | exact bl_refl _ | assumption | apply bl_drewN | apply bl_drew | apply bl_alloc | refine bl_set ?_ (by simp <;> omega) | refine bl_trans ?_ (by assumption))) | (refine bodyPost_ret (v := .tuple #[.agg #[.float .f64 _, .float .f64 _], .bool false]) (by simp [hc, results, Try.results32, go_sem] <;> exact ⟨rfl, rfl⟩) rfl ⟨_, _, _, ⟨_, hr0, by simp [*], by simp⟩, rfl, ?_⟩; repeat (first | exact bl_refl _ | assumption | apply bl_drewN | apply bl_drew | apply bl_alloc | refine bl_set ?_ (by simp <;> omega) | refine bl_trans ?_ (by assumption)))

set_option maxHeartbeats 400000 in
theorem rUnit_any (ax ay : Nat) (w : World) : Calls Try.prog 33 #[.agg #[.float .f64 ax, .float .f64 ay]] w fun e w' => ∃ x y b, UnitR ax ay x y b ∧ e = .returned (.tuple #[.agg #[.float .f64 x, .float .f64 y], .bool b]) ∧ Bel w w' := by
  have c1 := cmp_le .f64
  have q4 := run_quo Try.prog
  go_enter Try.func33, Try.ntmps33
  go_wp2_with (first | (go_at_call 31; refine (rLength_any _ _ _).mono ?_; rintro e w' ⟨r0, hr0, rfl, hb⟩; obtain ⟨hc, hf⟩ := bcell hb; have hz := hb.size; simp at hz; have hy : w.heap.size + 1 < w'.heap.size := by omega) | (go_at_call 53; refine (rEnd_any _ _).mono ?_; rintro e w' ⟨n2, rfl, rfl⟩) | (go_at_call 47; refine (rVec_any _ _ _).mono ?_; rintro e w' ⟨rfl, hb2⟩; obtain ⟨hc2, hf2⟩ := bcell hb2; simp only [World.heap_drewN, World.cell?_drewN, World.frozen?_drewN] at hc2 hf2))
  all_goals first | (refine bodyPost_ret (v := .tuple #[.agg #[.float .f64 _, .float .f64 _], .bool true]) (by simp [hc, hc2, hy, results, Try.results33, go_sem] <;> exact ⟨rfl, rfl⟩) rfl ⟨_, _, _, ⟨_, hr0, unit_yes (by assumption) (by assumption), by simp only [if_true]; exact ⟨fv_res _ _ _ _ _, fv_res _ _ _ _ _⟩⟩, rfl, ?_⟩; repeat (first | exact bl_refl _ | assumption | apply bl_drewN | apply bl_drew | apply bl_alloc | refine bl_set ?_ (by simp <;> omega) | refine bl_trans ?_ (by assumption))) | (refine bodyPost_ret (v := .tuple #[.agg #[.float .f64 _, .float .f64 _], .bool false]) (by simp [hc, results, Try.results33, go_sem] <;> exact ⟨rfl, rfl⟩) rfl ⟨_, _, _, ⟨_, hr0, by first | (simp [*]; done) | exact unit_no (by assumption) (by assumption), by simp⟩, rfl, ?_⟩; repeat (first | exact bl_refl _ | assumption | apply bl_drewN | apply bl_drew | apply bl_alloc | refine bl_set ?_ (by simp <;> omega) | refine bl_trans ?_ (by assumption)))

end Go.Proofs.Ytdlendamklcinaa
