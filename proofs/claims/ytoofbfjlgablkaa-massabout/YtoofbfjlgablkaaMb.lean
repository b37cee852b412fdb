/-
  What each function of package poly answers, and what the reference of its chapter answers: one contract a function, for every float: the answer stands in the relation of its formula to what was given; of the memory that was there nothing has turned.
-/
import Derived.Test.YtoofbfjlgablkaaVec
import Derived.Test.YtoofbfjlgablkaaMa
import Derived.Test.YtoofbfjlgablkaaOnce
import Derived.Below
import Derived.WalkKit
import Derived.WalkLawsBesides
import Derived.WalkSpells
import Derived.ProofKit
import Derived.OpenShut
import Derived.Deep.RegionHeld3
namespace Go.Proofs.Ytoofbfjlgablkaa
open Go.ChangeShapes Go.WideShapes Go.ChangeAt Go.RowKit
set_option linter.unusedVariables false
set_option linter.unusedSimpArgs false


theorem circle_any (x y r d : Nat) (w : World) : Calls Try.prog 38 #[.agg #[.float .f64 x, .float .f64 y], .float .f64 r, .float .f64 d] w fun e w' => ∃ m j, CircR r d m j ∧ e = .returned (.agg #[.float .f64 m, .float .f64 j, .float .f64 x, .float .f64 y]) ∧ Bel w w' := by
  have q1 := run_mul Try.prog
  go_enter Try.func38, Try.ntmps38
  go_wp2
  refine bodyPost_ret (v := .agg #[.float .f64 _, .float .f64 _, .float .f64 _, .float .f64 _]) (by simp [results, Try.results38, go_sem] <;> (first | exact ⟨rfl, rfl, rfl, rfl⟩ | exact ⟨rfl, rfl⟩ | rfl)) rfl ⟨_, _, ⟨_, _, _, _, fv_res .mul .f64 _ _ _, fv_res .mul .f64 _ _ _, fv_res .mul .f64 _ _ _, fv_res .mul .f64 _ _ _, fv_res .mul .f64 _ _ _, fv_res .mul .f64 _ _ _⟩, rfl, ?_⟩
  repeat (first | exact bl_refl _ | assumption | apply bl_drewN | apply bl_drew | apply bl_alloc | refine bl_set ?_ (by simp <;> omega) | refine bl_trans ?_ (by assumption))
set_option maxRecDepth 100000 in
set_option maxHeartbeats 2000000 in
theorem capsule_any (fx fy tx ty r d : Nat) (w : World) : Calls Try.prog 39 #[.agg #[.float .f64 fx, .float .f64 fy], .agg #[.float .f64 tx, .float .f64 ty], .float .f64 r, .float .f64 d] w fun e w' => ∃ m j x y, CapsR fx fy tx ty r d m j x y ∧ e = .returned (.agg #[.float .f64 m, .float .f64 j, .float .f64 x, .float .f64 y]) ∧ Bel w w' := by
  have q1 := run_mul Try.prog
  have q2 := run_add Try.prog
  have q3 := run_quo Try.prog
  go_enter Try.func39, Try.ntmps39
  go_wp2_with (first | (go_at_call 44; refine (vSub_any _ _ _ _ _).mono ?_; rintro e w' ⟨u, v, hU, rfl, hb⟩; (first | have B := bl_trans B hb | have B := bl_trans (by repeat (first | exact B | apply bl_drewN)) hb | have B := bl_trans (by repeat (first | exact B | apply bl_drewN | apply bl_drew | apply bl_alloc | refine bl_set ?_ (by simp <;> omega))) hb | have B := hb); (try clear hc hf hz); obtain ⟨hc, hf⟩ := bcell B; have hz := B.size; (try simp at hz)) | (go_at_call 51; refine (vLength_any _ _ _).mono ?_; rintro e w' ⟨n, hN, rfl, hb⟩; (first | have B := bl_trans B hb | have B := bl_trans (by repeat (first | exact B | apply bl_drewN)) hb | have B := bl_trans (by repeat (first | exact B | apply bl_drewN | apply bl_drew | apply bl_alloc | refine bl_set ?_ (by simp <;> omega))) hb | have B := hb); (try clear hc hf hz); obtain ⟨hc, hf⟩ := bcell B; have hz := B.size; (try simp at hz)) | (go_at_call 52; refine (vMiddle_any _ _ _ _ _).mono ?_; rintro e w' ⟨x, y, hM, rfl, hb⟩; (first | have B := bl_trans B hb | have B := bl_trans (by repeat (first | exact B | apply bl_drewN)) hb | have B := bl_trans (by repeat (first | exact B | apply bl_drewN | apply bl_drew | apply bl_alloc | refine bl_set ?_ (by simp <;> omega))) hb | have B := hb); (try clear hc hf hz); obtain ⟨hc, hf⟩ := bcell B; have hz := B.size; (try simp at hz)))
  refine bodyPost_ret (v := .agg #[.float .f64 _, .float .f64 _, .float .f64 _, .float .f64 _]) (by simp [hc, results, Try.results39, go_sem] <;> (first | exact ⟨rfl, rfl, rfl, rfl⟩ | exact ⟨rfl, rfl⟩ | rfl)) rfl ⟨_, _, _, _, ⟨_, _, _, hU, hN, ⟨_, _, _, _, _, _, _, _, _, _, _, _, _, _, _, _, _, _, _, _, _, _, fv_res .mul .f64 _ _ _, fv_res .mul .f64 _ _ _, fv_res .mul .f64 _ _ _, fv_res .mul .f64 _ _ _, fv_res .mul .f64 _ _ _, fv_res .mul .f64 _ _ _, fv_res .mul .f64 _ _ _, fv_res .quo .f64 _ _ _, fv_res .mul .f64 _ _ _, fv_res .mul .f64 _ _ _, fv_res .mul .f64 _ _ _, fv_res .add .f64 _ _ _, fv_res .mul .f64 _ _ _, fv_res .quo .f64 _ _ _, fv_res .mul .f64 _ _ _, fv_res .mul .f64 _ _ _, fv_res .mul .f64 _ _ _, fv_res .mul .f64 _ _ _, fv_res .add .f64 _ _ _, fv_res .mul .f64 _ _ _, fv_res .add .f64 _ _ _, fv_res .mul .f64 _ _ _, fv_res .add .f64 _ _ _, fv_res .add .f64 _ _ _⟩, hM⟩, rfl, ?_⟩
  repeat (first | exact bl_refl _ | assumption | apply bl_drewN | apply bl_drew | apply bl_alloc | refine bl_set ?_ (by simp <;> omega) | refine bl_trans ?_ (by assumption))
set_option maxRecDepth 100000 in
set_option maxHeartbeats 1000000 in
theorem told_any (ma ia cx cy : Nat) (w : World) : Calls Try.prog 25 #[.agg #[.float .f64 ma, .float .f64 ia, .float .f64 cx, .float .f64 cy]] w fun e w' => ∃ m j x y k, Told ma ia cx cy m j x y k ∧ e = .returned (.tuple #[.agg #[.float .f64 m, .float .f64 j, .float .f64 x, .float .f64 y], .int .i64 k]) ∧ Bel w w' := by
  cases h1 : mB ma ia cx cy
  · have e := mE_no h1
    go_enter Try.func25, Try.ntmps25
    go_wp2_with (first | (go_at_call 10; refine (mChk_any _ _ _ _ _).mono ?_; rintro e w' ⟨rfl, hb⟩; rw [e]; (first | have B := bl_trans B hb | have B := bl_trans (by repeat (first | exact B | apply bl_drewN)) hb | have B := bl_trans (by repeat (first | exact B | apply bl_drewN | apply bl_drew | apply bl_alloc | refine bl_set ?_ (by simp <;> omega))) hb | have B := hb); (try clear hc hf hz); obtain ⟨hc, hf⟩ := bcell B; have hz := B.size; (try simp at hz)))
    refine bodyPost_ret (v := .tuple #[.agg #[.float .f64 0, .float .f64 0, .float .f64 0, .float .f64 0], .int .i64 80]) (by simp [hc, results, Try.results25, go_sem] <;> (first | exact ⟨⟨rfl, rfl, rfl, rfl⟩, rfl⟩ | exact ⟨rfl, rfl, rfl, rfl, rfl⟩ | exact ⟨rfl, rfl⟩ | rfl)) rfl ⟨_, _, _, _, _, .inr ⟨h1, rfl, rfl, rfl, rfl, rfl⟩, rfl, ?_⟩
    repeat (first | exact bl_refl _ | assumption | apply bl_drewN | apply bl_drew | apply bl_alloc | refine bl_set ?_ (by simp <;> omega) | refine bl_trans ?_ (by assumption))
  · have e := mE_yes h1
    go_enter Try.func25, Try.ntmps25
    go_wp2_with (first | (go_at_call 10; refine (mChk_any _ _ _ _ _).mono ?_; rintro e w' ⟨rfl, hb⟩; rw [e]; (first | have B := bl_trans B hb | have B := bl_trans (by repeat (first | exact B | apply bl_drewN)) hb | have B := bl_trans (by repeat (first | exact B | apply bl_drewN | apply bl_drew | apply bl_alloc | refine bl_set ?_ (by simp <;> omega))) hb | have B := hb); (try clear hc hf hz); obtain ⟨hc, hf⟩ := bcell B; have hz := B.size; (try simp at hz)))
    refine bodyPost_ret (v := .tuple #[.agg #[.float .f64 ma, .float .f64 ia, .float .f64 cx, .float .f64 cy], .int .i64 0]) (by simp [hc, results, Try.results25, go_sem] <;> (first | exact ⟨⟨rfl, rfl, rfl, rfl⟩, rfl⟩ | exact ⟨rfl, rfl, rfl, rfl, rfl⟩ | exact ⟨rfl, rfl⟩ | rfl)) rfl ⟨_, _, _, _, _, .inl ⟨h1, rfl, rfl, rfl, rfl, rfl⟩, rfl, ?_⟩
    repeat (first | exact bl_refl _ | assumption | apply bl_drewN | apply bl_drew | apply bl_alloc | refine bl_set ?_ (by simp <;> omega) | refine bl_trans ?_ (by assumption))

end Go.Proofs.Ytoofbfjlgablkaa
