/-
  What each function of package poly answers, and what the reference of its chapter answers: one contract a function, for every float: the answer stands in the relation of its formula to what was given; of the memory that was there nothing has turned.
-/
import Derived.Test.YtfaiaepkmlmoaaaGreatVec
import Derived.Test.YtfaiaepkmlmoaaaGreatMi
import Derived.Test.YtfaiaepkmlmoaaaGreatRt
import Derived.Below
import Derived.WalkKit
import Derived.WalkLawsBesides
import Derived.WalkSpells
import Derived.ProofKit
import Derived.OpenShut
import Derived.Deep.RegionHeld3
namespace Go.Proofs.YtfaiaepkmlmoaaaGreat
open Go.ChangeShapes Go.WideShapes Go.ChangeAt Go.RowKit
set_option linter.unusedVariables false
set_option linter.unusedSimpArgs false


theorem rcircle_any (V : Value) (xs ys : Nat → Nat) (r d : Nat) (k : Int) (w : World) (h : AnyS w V 1 xs ys) : Calls Tryz.prog 37 #[.agg #[.int .u8 k, .float .f64 r, V], .float .f64 d] w fun e w' => ∃ m j, CircR r d m j ∧ e = .returned (.agg #[.float .f64 m, .float .f64 j, .float .f64 (xs 0), .float .f64 (ys 0)]) ∧ Bel w w' := by
  obtain ⟨a, cap, rfl, a2, a3, a4, a5, a6⟩ := id h
  rcases a6 with h0 | ⟨hp, b, off, rfl, sl⟩
  · exact absurd h0 (by decide)
  have lb := sl.lt (by decide)
  obtain ⟨x0, x1⟩ := sl 0 (by decide)
  simp only [Nat.zero_mul, Nat.add_zero] at x0 x1
  have y0 := up_alloc (o := .cells #[.float .f64 0, .float .f64 0, .float .f64 0, .float .f64 0] 34) (up_alloc (o := .cells #[.int .u8 k, .float .f64 r, .slice (some ⟨b, off, none⟩) 1 cap] 27) x0)
  have y1 := up_alloc (o := .cells #[.float .f64 0, .float .f64 0, .float .f64 0, .float .f64 0] 34) (up_alloc (o := .cells #[.int .u8 k, .float .f64 r, .slice (some ⟨b, off, none⟩) 1 cap] 27) x1)
  have q1 := run_mul Tryz.prog
  go_enter Tryz.func37, Tryz.ntmps37
  go_wp2
  refine bodyPost_ret (v := .agg #[.float .f64 _, .float .f64 _, .float .f64 _, .float .f64 _]) (by simp [results, Tryz.results37, go_sem] <;> (first | exact ⟨rfl, rfl, rfl, rfl⟩ | exact ⟨rfl, rfl⟩ | rfl)) rfl ⟨_, _, ⟨_, _, _, _, fv_res .mul .f64 _ _ _, fv_res .mul .f64 _ _ _, fv_res .mul .f64 _ _ _, fv_res .mul .f64 _ _ _, fv_res .mul .f64 _ _ _, fv_res .mul .f64 _ _ _⟩, rfl, ?_⟩
  repeat (first | exact bl_refl _ | assumption | apply bl_drewN | apply bl_drew | apply bl_alloc | refine bl_set ?_ (by simp <;> omega) | refine bl_trans ?_ (by assumption))
theorem three_any (a : Nat) (w : World) : Calls Tryz.prog 61 #[.float .f64 a] w fun e w' => ∃ t, resK .mul .f64 a 4614256656552045848 t ∧ e = .returned (.float .f64 t) ∧ Bel w w' := by
  have q1 := run_mul Tryz.prog
  go_enter Tryz.func61, Tryz.ntmps61
  go_wp2
  go_ret
  refine ⟨_, fv_res .mul .f64 _ _ _, rfl, ?_⟩
  repeat (first | exact bl_refl _ | assumption | apply bl_drewN | apply bl_drew | apply bl_alloc | refine bl_set ?_ (by simp <;> omega) | refine bl_trans ?_ (by assumption))
set_option maxRecDepth 100000 in
set_option maxHeartbeats 4000000 in
theorem rcapsule_any (V : Value) (xs ys : Nat → Nat) (r d : Nat) (k : Int) (w : World) (h : AnyS w V 2 xs ys) : Calls Tryz.prog 38 #[.agg #[.int .u8 k, .float .f64 r, V], .float .f64 d] w fun e w' => ∃ m j x y, CapsR (xs 0) (ys 0) (xs 1) (ys 1) r d m j x y ∧ e = .returned (.agg #[.float .f64 m, .float .f64 j, .float .f64 x, .float .f64 y]) ∧ Bel w w' := by
  obtain ⟨a, cap, rfl, a2, a3, a4, a5, a6⟩ := id h
  rcases a6 with h0 | ⟨hp, b, off, rfl, sl⟩
  · exact absurd h0 (by decide)
  have lb := sl.lt (by decide)
  obtain ⟨x0, x1⟩ := sl 0 (by decide)
  obtain ⟨x2, x3⟩ := sl 1 (by decide)
  simp only [Nat.zero_mul, Nat.add_zero, Nat.one_mul] at x0 x1 x2 x3
  have y0 := up_alloc (o := .cells #[.float .f64 0, .float .f64 0, .float .f64 0, .float .f64 0] 34) (up_alloc (o := .cells #[.int .u8 k, .float .f64 r, .slice (some ⟨b, off, none⟩) 2 cap] 27) x0)
  have y1 := up_alloc (o := .cells #[.float .f64 0, .float .f64 0, .float .f64 0, .float .f64 0] 34) (up_alloc (o := .cells #[.int .u8 k, .float .f64 r, .slice (some ⟨b, off, none⟩) 2 cap] 27) x1)
  have y2 := up_alloc (o := .cells #[.float .f64 0, .float .f64 0, .float .f64 0, .float .f64 0] 34) (up_alloc (o := .cells #[.int .u8 k, .float .f64 r, .slice (some ⟨b, off, none⟩) 2 cap] 27) x2)
  have y3 := up_alloc (o := .cells #[.float .f64 0, .float .f64 0, .float .f64 0, .float .f64 0] 34) (up_alloc (o := .cells #[.int .u8 k, .float .f64 r, .slice (some ⟨b, off, none⟩) 2 cap] 27) x3)
  have y2' := up_alloc (o := .cells #[.float .f64 (xs 0), .float .f64 (ys 0)] 32) y2
  have y3' := up_alloc (o := .cells #[.float .f64 (xs 0), .float .f64 (ys 0)] 32) y3
  have q1 := run_mul Tryz.prog
  have q2 := run_add Tryz.prog
  have q3 := run_quo Tryz.prog
  go_enter Tryz.func38, Tryz.ntmps38
  go_wp2_with (first | (go_at_call 43; refine (rSub_any _ _ _ _ _).mono ?_; rintro e w' ⟨u, v, hU, rfl, hb⟩; (first | have B := bl_trans B hb | have B := bl_trans (by repeat (first | exact B | apply bl_drewN)) hb | have B := bl_trans (by repeat (first | exact B | apply bl_drewN | apply bl_drew | apply bl_alloc | refine bl_set ?_ (by simp <;> omega))) hb | have B := hb); (try clear hc hf hz); obtain ⟨hc, hf⟩ := bcell B; have hz := B.size; (try simp at hz)) | (go_at_call 60; refine (rLength_any _ _ _).mono ?_; rintro e w' ⟨n, hN, rfl, hb⟩; (first | have B := bl_trans B hb | have B := bl_trans (by repeat (first | exact B | apply bl_drewN)) hb | have B := bl_trans (by repeat (first | exact B | apply bl_drewN | apply bl_drew | apply bl_alloc | refine bl_set ?_ (by simp <;> omega))) hb | have B := hb); (try clear hc hf hz); obtain ⟨hc, hf⟩ := bcell B; have hz := B.size; (try simp at hz)) | (go_at_call 62; refine (rMiddle_any _ _ _ _ _).mono ?_; rintro e w' ⟨x, y, hM, rfl, hb⟩; (first | have B := bl_trans B hb | have B := bl_trans (by repeat (first | exact B | apply bl_drewN)) hb | have B := bl_trans (by repeat (first | exact B | apply bl_drewN | apply bl_drew | apply bl_alloc | refine bl_set ?_ (by simp <;> omega))) hb | have B := hb); (try clear hc hf hz); obtain ⟨hc, hf⟩ := bcell B; have hz := B.size; (try simp at hz)) | (go_at_call 61; refine (three_any _ _).mono ?_; rintro e w' ⟨t, hT, rfl, hb⟩; obtain rfl : t = 4621495296368779730 := res_is hT (by decide +kernel); (first | have B := bl_trans B hb | have B := bl_trans (by repeat (first | exact B | apply bl_drewN)) hb | have B := bl_trans (by repeat (first | exact B | apply bl_drewN | apply bl_drew | apply bl_alloc | refine bl_set ?_ (by simp <;> omega))) hb | have B := hb); (try clear hc hf hz); obtain ⟨hc, hf⟩ := bcell B; have hz := B.size; (try simp at hz)))
  refine bodyPost_ret (v := .agg #[.float .f64 _, .float .f64 _, .float .f64 _, .float .f64 _]) (by simp [hc, results, Tryz.results38, go_sem] <;> (first | exact ⟨rfl, rfl, rfl, rfl⟩ | exact ⟨rfl, rfl⟩ | rfl)) rfl ⟨_, _, _, _, ⟨_, _, _, hU, hN, ⟨_, _, _, _, _, _, _, _, _, _, _, _, _, _, _, _, _, _, _, _, _, _, fv_res .mul .f64 _ _ _, fv_res .mul .f64 _ _ _, fv_res .mul .f64 _ _ _, fv_res .mul .f64 _ _ _, fv_res .mul .f64 _ _ _, fv_res .mul .f64 _ _ _, fv_res .mul .f64 _ _ _, fv_res .quo .f64 _ _ _, fv_res .mul .f64 _ _ _, fv_res .mul .f64 _ _ _, fv_res .mul .f64 _ _ _, fv_res .add .f64 _ _ _, fv_res .mul .f64 _ _ _, fv_res .quo .f64 _ _ _, fv_res .mul .f64 _ _ _, fv_res .mul .f64 _ _ _, fv_res .mul .f64 _ _ _, fv_res .mul .f64 _ _ _, fv_res .add .f64 _ _ _, fv_res .mul .f64 _ _ _, fv_res .add .f64 _ _ _, fv_res .mul .f64 _ _ _, fv_res .add .f64 _ _ _, fv_res .add .f64 _ _ _⟩, hM⟩, rfl, ?_⟩
  repeat (first | exact bl_refl _ | assumption | apply bl_drewN | apply bl_drew | apply bl_alloc | refine bl_set ?_ (by simp <;> omega) | refine bl_trans ?_ (by assumption))
set_option maxRecDepth 100000 in
set_option maxHeartbeats 1000000 in
theorem rtold_any (ma ia cx cy : Nat) (ox : okK .f64 cx) (oy : okK .f64 cy) (w : World) : Calls Tryz.prog 36 #[.agg #[.float .f64 ma, .float .f64 ia, .float .f64 cx, .float .f64 cy]] w fun e w' => ∃ m j x y k, Told ma ia cx cy m j x y k ∧ e = .returned (.tuple #[.agg #[.float .f64 m, .float .f64 j, .float .f64 x, .float .f64 y], .int .i64 k]) ∧ Bel w w' := by
  cases h1 : mB ma ia cx cy
  · have e := mE_no h1
    go_enter Tryz.func36, Tryz.ntmps36
    go_wp2_with (first | (go_at_call 40; refine (rChk_any _ _ _ _ ox oy _).mono ?_; rintro e w' ⟨rfl, hb⟩; rw [e]; (first | have B := bl_trans B hb | have B := bl_trans (by repeat (first | exact B | apply bl_drewN)) hb | have B := bl_trans (by repeat (first | exact B | apply bl_drewN | apply bl_drew | apply bl_alloc | refine bl_set ?_ (by simp <;> omega))) hb | have B := hb); (try clear hc hf hz); obtain ⟨hc, hf⟩ := bcell B; have hz := B.size; (try simp at hz)))
    refine bodyPost_ret (v := .tuple #[.agg #[.float .f64 0, .float .f64 0, .float .f64 0, .float .f64 0], .int .i64 80]) (by simp [hc, results, Tryz.results36, go_sem] <;> (first | exact ⟨⟨rfl, rfl, rfl, rfl⟩, rfl⟩ | exact ⟨rfl, rfl, rfl, rfl, rfl⟩ | exact ⟨rfl, rfl⟩ | rfl)) rfl ⟨_, _, _, _, _, .inr ⟨h1, rfl, rfl, rfl, rfl, rfl⟩, rfl, ?_⟩
    repeat (first | exact bl_refl _ | assumption | apply bl_drewN | apply bl_drew | apply bl_alloc | refine bl_set ?_ (by simp <;> omega) | refine bl_trans ?_ (by assumption))
  · have e := mE_yes h1
    go_enter Tryz.func36, Tryz.ntmps36
    go_wp2_with (first | (go_at_call 40; refine (rChk_any _ _ _ _ ox oy _).mono ?_; rintro e w' ⟨rfl, hb⟩; rw [e]; (first | have B := bl_trans B hb | have B := bl_trans (by repeat (first | exact B | apply bl_drewN)) hb | have B := bl_trans (by repeat (first | exact B | apply bl_drewN | apply bl_drew | apply bl_alloc | refine bl_set ?_ (by simp <;> omega))) hb | have B := hb); (try clear hc hf hz); obtain ⟨hc, hf⟩ := bcell B; have hz := B.size; (try simp at hz)))
    refine bodyPost_ret (v := .tuple #[.agg #[.float .f64 ma, .float .f64 ia, .float .f64 cx, .float .f64 cy], .int .i64 0]) (by simp [hc, results, Tryz.results36, go_sem] <;> (first | exact ⟨⟨rfl, rfl, rfl, rfl⟩, rfl⟩ | exact ⟨rfl, rfl, rfl, rfl, rfl⟩ | exact ⟨rfl, rfl⟩ | rfl)) rfl ⟨_, _, _, _, _, .inl ⟨h1, rfl, rfl, rfl, rfl, rfl⟩, rfl, ?_⟩
    repeat (first | exact bl_refl _ | assumption | apply bl_drewN | apply bl_drew | apply bl_alloc | refine bl_set ?_ (by simp <;> omega) | refine bl_trans ?_ (by assumption))

end Go.Proofs.YtfaiaepkmlmoaaaGreat
