/-
  What each function of package vec answers, and what the reference of its chapter answers: one contract a function, for every float: the answer stands in the relation of its formula to what was given; of the memory that was there nothing has turned.
-/
import Derived.Test.YtdlendamklcinabVect
import Derived.Below
import Derived.WalkKit
import Derived.WalkLawsBesides
import Derived.WalkSpells
import Derived.ProofKit
import Derived.OpenShut
import Derived.Deep.RegionHeld3
namespace Go.Proofs.Ytdlendamklcinab
open Go.ChangeShapes Go.WideShapes Go.ChangeAt Go.RowKit
set_option linter.unusedVariables false
set_option linter.unusedSimpArgs false


set_option maxHeartbeats 2000000 in
theorem alive_any (w : World) : Calls Try.prog 4 #[] w fun e w' => e = .returned (.bool true) ∧ Bel w w' := by
  have al := World.cell?_alloc_some
  have c1 := cmp_eq .f64
  have q1 := fun (x y : Nat) (w : World) => run_equalIn_float Try.prog w 22 .f64 x y Try.underlying22
  have e1 : Op.negFloat .f64 4616189618054758400 = 13839561654909534208 := by decide +kernel
  have e2 : withinK .f64 4613937818241073152 4616189618054758400 = true := by decide +kernel
  have e3 : withinK .f64 4616189618054758400 4616189618054758400 = true := by decide +kernel
  have e4 : withinK .f64 4616189618054758400 4615063718147915776 = false := by decide +kernel
  have e5 : smK .f64 0 9223372036854775808 = false := by decide +kernel
  have e6 := smK_self .f64
  have e7 : finK .f64 9218868437227405311 = true := by decide +kernel
  have e8 := eqK_self .f64
  have n1 : nanK .f64 4622382067542392832 = false := by decide +kernel
  have n2 : nanK .f64 4611686018427387904 = false := by decide +kernel
  have n3 : nanK .f64 4617315517961601024 = false := by decide +kernel
  have n4 : nanK .f64 4603579539098121011 = false := by decide +kernel
  have n5 : nanK .f64 4605380978949069210 = false := by decide +kernel
  have n6 : nanK .f64 13839561654909534208 = false := by decide +kernel
  have n7 : nanK .f64 4613937818241073152 = false := by decide +kernel
  have n8 : nanK .f64 4612811918334230528 = false := by decide +kernel
  go_enter Try.func4, Try.ntmps4
  go_wp2_with (first | (go_at_call 8; have z := a0; clear z; refine (vUnit_any _ _ _).mono ?_; rintro e w' ⟨x1, y1, b1, hU, rfl, hb⟩; obtain ⟨rfl, rfl, rfl⟩ := unit_none hU; clear hU; have B2 := hide (bl_trans (a := w) (by repeat (first | exact unhide B2 | exact bl_refl _ | apply bl_alloc | apply bl_drewN | refine bl_set ?_ (by simp <;> omega))) hb); have a0 := keep hb (a := ⟨w.heap.size, 0, none⟩) (v := .float .f64 4613937818241073152) (by first | assumption | go_keep); have a1 := keep hb (a := ⟨w.heap.size, 1, none⟩) (v := .float .f64 4616189618054758400) (by first | assumption | go_keep); have u0 := keep hb (a := ⟨w1.heap.size, 0, none⟩) (v := .float .f64 4603579539098121011) (by first | assumption | go_keep); have u1 := keep hb (a := ⟨w1.heap.size, 1, none⟩) (v := .float .f64 4605380978949069210) (by first | assumption | go_keep); clear hb) | (go_at_call 8; refine (vUnit_any _ _ _).mono ?_; rintro e w1 ⟨x1, y1, b1, hU, rfl, hb⟩; obtain ⟨rfl, rfl, rfl⟩ := unit_ex hU; clear hU; have B2 := hide (bl_trans (a := w) (by repeat (first | exact unhide B2 | exact bl_refl _ | apply bl_alloc | apply bl_drewN | refine bl_set ?_ (by simp <;> omega))) hb); have a0 := keep hb (a := ⟨w.heap.size, 0, none⟩) (v := .float .f64 4613937818241073152) (by first | assumption | go_keep); have a1 := keep hb (a := ⟨w.heap.size, 1, none⟩) (v := .float .f64 4616189618054758400) (by first | assumption | go_keep); clear hb) | (go_at_call 16; refine (vDot_any _ _ _ _ _).mono ?_; rintro e w' ⟨r1, hD, rfl, hb⟩; obtain rfl := dot_ex hD; clear hD; have B2 := hide (bl_trans (a := w) (by repeat (first | exact unhide B2 | exact bl_refl _ | apply bl_alloc | apply bl_drewN | refine bl_set ?_ (by simp <;> omega))) hb); have a0 := keep hb (a := ⟨w.heap.size, 0, none⟩) (v := .float .f64 4613937818241073152) (by first | assumption | go_keep); have a1 := keep hb (a := ⟨w.heap.size, 1, none⟩) (v := .float .f64 4616189618054758400) (by first | assumption | go_keep); have u0 := keep hb (a := ⟨w1.heap.size, 0, none⟩) (v := .float .f64 4603579539098121011) (by first | assumption | go_keep); have u1 := keep hb (a := ⟨w1.heap.size, 1, none⟩) (v := .float .f64 4605380978949069210) (by first | assumption | go_keep); clear hb) | (go_at_call 17; refine (vCross_any _ _ _ _ _).mono ?_; rintro e w' ⟨r1, hD, rfl, hb⟩; obtain rfl := cross_ex hD; clear hD; have B2 := hide (bl_trans (a := w) (by repeat (first | exact unhide B2 | exact bl_refl _ | apply bl_alloc | apply bl_drewN | refine bl_set ?_ (by simp <;> omega))) hb); have a0 := keep hb (a := ⟨w.heap.size, 0, none⟩) (v := .float .f64 4613937818241073152) (by first | assumption | go_keep); have a1 := keep hb (a := ⟨w.heap.size, 1, none⟩) (v := .float .f64 4616189618054758400) (by first | assumption | go_keep); have u0 := keep hb (a := ⟨w1.heap.size, 0, none⟩) (v := .float .f64 4603579539098121011) (by first | assumption | go_keep); have u1 := keep hb (a := ⟨w1.heap.size, 1, none⟩) (v := .float .f64 4605380978949069210) (by first | assumption | go_keep); clear hb) | (go_at_call 19; refine (vLength_any _ _ _).mono ?_; rintro e w' ⟨r1, hD, rfl, hb⟩; obtain rfl := length_ex hD; clear hD; have B2 := hide (bl_trans (a := w) (by repeat (first | exact unhide B2 | exact bl_refl _ | apply bl_alloc | apply bl_drewN | refine bl_set ?_ (by simp <;> omega))) hb); have a0 := keep hb (a := ⟨w.heap.size, 0, none⟩) (v := .float .f64 4613937818241073152) (by first | assumption | go_keep); have a1 := keep hb (a := ⟨w.heap.size, 1, none⟩) (v := .float .f64 4616189618054758400) (by first | assumption | go_keep); have u0 := keep hb (a := ⟨w1.heap.size, 0, none⟩) (v := .float .f64 4603579539098121011) (by first | assumption | go_keep); have u1 := keep hb (a := ⟨w1.heap.size, 1, none⟩) (v := .float .f64 4605380978949069210) (by first | assumption | go_keep); clear hb) | (go_at_call 13; refine (vLeft_any _ _ _).mono ?_; rintro e w' ⟨rfl, hb⟩; have B2 := hide (bl_trans (a := w) (by repeat (first | exact unhide B2 | exact bl_refl _ | apply bl_alloc | apply bl_drewN | refine bl_set ?_ (by simp <;> omega))) hb); have a0 := keep hb (a := ⟨w.heap.size, 0, none⟩) (v := .float .f64 4613937818241073152) (by first | assumption | go_keep); have a1 := keep hb (a := ⟨w.heap.size, 1, none⟩) (v := .float .f64 4616189618054758400) (by first | assumption | go_keep); clear hb) | (go_at_call 12; refine (vMiddle_any _ _ _ _ _).mono ?_; rintro e w' ⟨x1, y1, hD, rfl, hb⟩; obtain ⟨rfl, rfl⟩ := middle_ex hD; clear hD; have B2 := hide (bl_trans (a := w) (by repeat (first | exact unhide B2 | exact bl_refl _ | apply bl_alloc | apply bl_drewN | refine bl_set ?_ (by simp <;> omega))) hb); have a0 := keep hb (a := ⟨w.heap.size, 0, none⟩) (v := .float .f64 4613937818241073152) (by first | assumption | go_keep); have a1 := keep hb (a := ⟨w.heap.size, 1, none⟩) (v := .float .f64 4616189618054758400) (by first | assumption | go_keep); clear hb) | (go_at_call 21; refine (vWithin_any _ _ _ _).mono ?_; rintro e w' ⟨rfl, hb⟩; have B2 := hide (bl_trans (a := w) (by repeat (first | exact unhide B2 | exact bl_refl _ | apply bl_alloc | apply bl_drewN | refine bl_set ?_ (by simp <;> omega))) hb); have a0 := keep hb (a := ⟨w.heap.size, 0, none⟩) (v := .float .f64 4613937818241073152) (by first | assumption | go_keep); have a1 := keep hb (a := ⟨w.heap.size, 1, none⟩) (v := .float .f64 4616189618054758400) (by first | assumption | go_keep); clear hb) | (go_at_call 22; refine (vSame_any _ _ _ _ _).mono ?_; rintro e w' ⟨rfl, hb⟩; have B2 := hide (bl_trans (a := w) (by repeat (first | exact unhide B2 | exact bl_refl _ | apply bl_alloc | apply bl_drewN | refine bl_set ?_ (by simp <;> omega))) hb); have a0 := keep hb (a := ⟨w.heap.size, 0, none⟩) (v := .float .f64 4613937818241073152) (by first | assumption | go_keep); have a1 := keep hb (a := ⟨w.heap.size, 1, none⟩) (v := .float .f64 4616189618054758400) (by first | assumption | go_keep); clear hb) | (go_at_call 24; refine (vFinite_any _ _ _).mono ?_; rintro e w' ⟨rfl, hb⟩) | (go_at_call 23; refine (copysign_mz _).mono ?_; rintro e w' ⟨rfl, rfl⟩))
  go_ret
  refine ⟨rfl, ?_⟩
  repeat (first | exact bl_refl _ | assumption | apply bl_drewN | apply bl_drew | apply bl_alloc | refine bl_set ?_ (by simp <;> omega) | refine bl_trans ?_ (by assumption))

end Go.Proofs.Ytdlendamklcinab
