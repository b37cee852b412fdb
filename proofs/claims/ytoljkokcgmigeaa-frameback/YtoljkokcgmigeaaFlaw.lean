/-
  What each function of package frame answers, and what the reference of its chapter answers: one contract a function, for every float: the answer stands in the relation of its formula to what was given; of the memory that was there nothing has turned.
-/
import Derived.Test.YtoljkokcgmigeaaVec
import Derived.Test.YtoljkokcgmigeaaFref
import Derived.Test.YtoljkokcgmigeaaFrames
import Derived.Below
import Derived.WalkKit
import Derived.WalkLawsBesides
import Derived.WalkSpells
import Derived.ProofKit
import Derived.OpenShut
import Derived.Deep.RegionHeld3
namespace Go.Proofs.Ytoljkokcgmigeaa
open Go.ChangeShapes Go.WideShapes Go.ChangeAt Go.RowKit
set_option linter.unusedVariables false
set_option linter.unusedSimpArgs false


def frErr (X Y s : Nat) : Int := if withinK .f64 X 4787326403894837248 && withinK .f64 Y 4787326403894837248 then errT (chk s) else 5
theorem fCheck_any (X Y x y : Nat) (oX : okK .f64 X) (oY : okK .f64 Y) (w : World) : Calls Try.prog 21 #[.agg #[.float .f64 X, .float .f64 Y, .complex .f64 x y]] w fun e w' => ∃ s, DotR x y x y s ∧ e = .returned (.int .i64 (frErr X Y s)) ∧ Bel w w' := by
  obtain ⟨s0, hs0⟩ := dot_exists x y
  cases h1 : withinK .f64 X 4787326403894837248 <;> cases h2 : withinK .f64 Y 4787326403894837248
  all_goals
    go_enter Try.func21, Try.ntmps21
    go_wp2_with (first | (go_at_call 48; refine (rReal_any _ (by assumption) _).mono ?_; rintro e w' ⟨rfl, rfl⟩) | (go_at_call 49; refine (qCheck_any _ _ _).mono ?_; rintro e w' ⟨s, hs, rfl, hb⟩))
    go_ret
    first | (refine ⟨s, hs, by simp [frErr, h1, h2], ?_⟩; repeat (first | exact bl_refl _ | assumption | apply bl_drewN | apply bl_drew | apply bl_alloc | refine bl_set ?_ (by simp <;> omega) | refine bl_trans ?_ (by assumption))) | (refine ⟨s0, hs0, by simp [frErr, h1, h2], ?_⟩; repeat (first | exact bl_refl _ | assumption | apply bl_drewN | apply bl_drew | apply bl_alloc | refine bl_set ?_ (by simp <;> omega) | refine bl_trans ?_ (by assumption)))
theorem fSame_any (X Y x y U V u v : Nat) (oX : okK .f64 X) (oY : okK .f64 Y) (ox : okK .f64 x) (oy : okK .f64 y) (oU : okK .f64 U) (oV : okK .f64 V) (ou : okK .f64 u) (ov : okK .f64 v) (w : World) : Calls Try.prog 22 #[.agg #[.float .f64 X, .float .f64 Y, .complex .f64 x y], .agg #[.float .f64 U, .float .f64 V, .complex .f64 u v]] w fun e w' => e = .returned (.bool ((smK .f64 X U && smK .f64 Y V) && (smK .f64 x u && smK .f64 y v))) ∧ Bel w w' := by
  cases h1 : (smK .f64 X U && smK .f64 Y V)
  all_goals
    go_enter Try.func22, Try.ntmps22
    go_wp2_with (first | (go_at_call 23; refine (rSameVec_any _ _ _ _ (by assumption) (by assumption) (by assumption) (by assumption) _).mono ?_; rintro e w' ⟨rfl, hb⟩; have k20 := keep hb (a := ⟨w.heap.size, 2, none⟩) (v := .complex .f64 x y) (by go_keep); have k21 := keep hb (a := ⟨w.heap.size + 1, 2, none⟩) (v := .complex .f64 u v) (by go_keep)) | (go_at_call 50; refine (rSameTurn_any _ _ _ _ (by assumption) (by assumption) (by assumption) (by assumption) _).mono ?_; rintro e w' ⟨rfl, hb2⟩))
    go_ret
    refine ⟨by simp [h1], ?_⟩
    repeat (first | exact bl_refl _ | assumption | apply bl_drewN | apply bl_drew | apply bl_alloc | refine bl_set ?_ (by simp <;> omega) | refine bl_trans ?_ (by assumption))
theorem lat_any (X Y x y : Nat) (w : World) : Calls Try.prog 11 #[.float .f64 X, .float .f64 Y, .complex .f64 x y] w fun e w' => e = .returned (.agg #[.float .f64 X, .float .f64 Y, .complex .f64 x y]) ∧ Bel w w' := by
  go_enter Try.func11, Try.ntmps11
  go_wp2
  refine bodyPost_ret (v := .agg #[.float .f64 X, .float .f64 Y, .complex .f64 x y]) (by simp [results, Try.results11, go_sem] <;> (first | exact ⟨rfl, rfl⟩ | rfl)) rfl ⟨rfl, ?_⟩
  repeat (first | exact bl_refl _ | assumption | apply bl_drewN | apply bl_drew | apply bl_alloc | refine bl_set ?_ (by simp <;> omega) | refine bl_trans ?_ (by assumption))
theorem lcalm_any (a : Nat) (w : World) : Calls Try.prog 35 #[.float .f64 a] w fun e w' => e = .returned (.bool (calmK a)) ∧ w' = w := by
  have c1 := cmp_eq .f64
  have c2 := cmp_gt .f64
  have c3 := lt_or_eq .f64
  have c4 := cmp_lt .f64
  have c5 := lt_or_eq' .f64
  unfold calmK
  cases h1 : leK .f64 14010698440749613056 a <;> cases h2 : leK .f64 a 4787326403894837248 <;> cases h3 : eqK .f64 a 0 <;> cases h4 : leK .f64 3256102530588868608 a
  all_goals
    go_enter Try.func35, Try.ntmps35
    go_wp2
    go_ret
    exact ⟨by simp [h1, h2, h3, h4], rfl⟩
theorem and_l {a b : Bool} (h : a = true) : b = (a && b) := by rw [h]; rfl
theorem and_n {a b : Bool} (h : a = false) : false = (a && b) := by rw [h]; rfl
theorem lnear_any (ax ay bx b_y al : Nat) (w : World) : Calls Try.prog 37 #[.agg #[.float .f64 ax, .float .f64 ay], .agg #[.float .f64 bx, .float .f64 b_y], .float .f64 al] w fun e w' => ∃ d1 m1 d2 m2, resK .sub .f64 ax bx d1 ∧ resK .mul .f64 tinW al m1 ∧ resK .sub .f64 ay b_y d2 ∧ resK .mul .f64 tinW al m2 ∧ e = .returned (.bool (leK .f64 (rgK .f64 d1) m1 && leK .f64 (rgK .f64 d2) m2)) ∧ Bel w w' := by
  have q1 := run_add Try.prog
  have q2 := run_sub Try.prog
  have q3 := run_mul Try.prog
  have q4 := run_quo Try.prog
  have c4 := cmp_lt .f64
  have c1 := cmp_eq .f64
  have c5 := lt_or_eq' .f64
  obtain ⟨d0, hd0⟩ := res_exists .sub ay b_y
  obtain ⟨m0, hm0⟩ := res_exists .mul tinW al
  go_enter Try.func37, Try.ntmps37
  go_wp2_with (first | (go_at_call 36; refine (abs_any _ _ (by first | assumption | exact (fv_res _ _ _ _ _).1)).mono ?_; rintro e w' ⟨rfl, rfl⟩))
  · rename_i h
    go_ret
    refine ⟨_, _, _, _, fv_res _ _ _ _ _, fv_res _ _ _ _ _, fv_res _ _ _ _ _, fv_res _ _ _ _ _, congrArg (fun b => Ending.returned (.bool b)) (and_l h), ?_⟩
    repeat (first | exact bl_refl _ | assumption | apply bl_drewN | apply bl_drew | apply bl_alloc | refine bl_set ?_ (by simp <;> omega) | refine bl_trans ?_ (by assumption))
  · rename_i h
    go_ret
    refine ⟨_, _, d0, m0, fv_res _ _ _ _ _, fv_res _ _ _ _ _, hd0, hm0, congrArg (fun b => Ending.returned (.bool b)) (and_n (Bool.eq_false_iff.2 h)), ?_⟩
    repeat (first | exact bl_refl _ | assumption | apply bl_drewN | apply bl_drew | apply bl_alloc | refine bl_set ?_ (by simp <;> omega) | refine bl_trans ?_ (by assumption))

end Go.Proofs.Ytoljkokcgmigeaa
