/-
  What each function of package turn answers, and what the reference of its chapter answers: one contract a function, for every float: the answer stands in the relation of its formula to what was given; of the memory that was there nothing has turned.
-/
import Derived.Test.YtbphmjfgpkjecabVec
import Derived.Test.YtbphmjfgpkjecabTurn
import Derived.Below
import Derived.WalkKit
import Derived.WalkLawsBesides
import Derived.WalkSpells
import Derived.ProofKit
import Derived.OpenShut
import Derived.Deep.RegionHeld3
namespace Go.Proofs.Ytbphmjfgpkjecab
open Go.ChangeShapes Go.WideShapes Go.ChangeAt Go.RowKit
set_option linter.unusedVariables false
set_option linter.unusedSimpArgs false


set_option maxHeartbeats 2000000 in
theorem awake_any (w : World) : Calls Try.prog 4 #[] w fun e w' => e = .returned (.bool true) ∧ Bel w w' := by
  have c1 := cmp_eq .f64
  have q1 := fun (x y : Nat) (w : World) => run_equalIn_float Try.prog w 34 .f64 x y Try.underlying34
  have e0 : errT false = 30 := rfl
  have e8 := eqK_self .f64
  have n0 : nanK .f64 4603579539098121011 = false := by decide +kernel
  have n1 : nanK .f64 4605380978949069210 = false := by decide +kernel
  have n2 : nanK .f64 4607182418800017408 = false := by decide +kernel
  have n3 : nanK .f64 4611686018427387904 = false := by decide +kernel
  have n4 : nanK .f64 13835058055282163712 = false := by decide +kernel
  have n5 : nanK .f64 0 = false := by decide +kernel
  go_enter Try.func4, Try.ntmps4
  go_wp2_with (first | (go_at_call 8; refine (tUnit_any _ _ _).mono ?_; rintro e w' ⟨x1, y1, b1, hU, rfl, hb⟩; obtain ⟨rfl, rfl, rfl⟩ := tunit_ex hU; clear hU) | (go_at_call 8; refine (tUnit_any _ _ _).mono ?_; rintro e w' ⟨x1, y1, b1, hU, rfl, hb⟩; obtain ⟨rfl, rfl, rfl⟩ := tunit_none hU; clear hU) | (go_at_call 9; refine (tOne_any _).mono ?_; rintro e w' ⟨rfl, rfl⟩) | (go_at_call 10; refine (tQuarter_any _).mono ?_; rintro e w' ⟨rfl, rfl⟩) | (go_at_call 11; refine (tBy_any _ _).mono ?_; rintro e w' ⟨x1, y1, hU, rfl, hb⟩; obtain ⟨rfl, rfl⟩ := tby_ex hU; clear hU) | (go_at_call 12; refine (tCheck_any _ _ _).mono ?_; rintro e w' ⟨s1, hU, rfl, hb⟩; rw [check_ex hU]; clear hU) | (go_at_call 13; refine (tApply_any _ _ _ _ _).mono ?_; rintro e w' ⟨x1, y1, hU, rfl, hb⟩; obtain ⟨rfl, rfl⟩ := apply_ex hU; clear hU) | (go_at_call 6; refine (tOrder_any _ _ _ _ _).mono ?_; rintro e w' ⟨rfl, hb⟩; rw [ord_ex]))
  go_ret
  refine ⟨rfl, ?_⟩
  repeat (first | exact bl_refl _ | assumption | apply bl_drewN | apply bl_drew | apply bl_alloc | refine bl_set ?_ (by simp <;> omega) | refine bl_trans ?_ (by assumption))

end Go.Proofs.Ytbphmjfgpkjecab
