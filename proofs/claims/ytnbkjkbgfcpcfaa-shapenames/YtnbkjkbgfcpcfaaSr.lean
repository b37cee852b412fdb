/-
  What each function of package poly answers, and what the reference of its chapter answers: one contract a function, for every float: the answer stands in the relation of its formula to what was given; of the memory that was there nothing has turned.
-/
import Derived.Test.YtnbkjkbgfcpcfaaVec
import Derived.Test.YtnbkjkbgfcpcfaaSq
import Derived.Test.YtnbkjkbgfcpcfaaBel
import Derived.Below
import Derived.Laws.StructEq
import Derived.WalkKit
import Derived.WalkLawsBesides
import Derived.WalkSpells
import Derived.ProofKit
import Derived.OpenShut
import Derived.Deep.RegionHeld3
namespace Go.Proofs.Ytnbkjkbgfcpcfaa
open Go.ChangeShapes Go.WideShapes Go.ChangeAt Go.RowKit
set_option linter.unusedVariables false
set_option linter.unusedSimpArgs false


theorem x_circle : shE 1 4613937818241073152 (px circleL) (py circleL) 1 = 0 := by decide +kernel
theorem x_circleB : boxA 1 4613937818241073152 (px circleL) (py circleL) 1 = .agg #[.float .f64 13835058055282163712, .float .f64 13830554455654793216, .float .f64 4616189618054758400, .float .f64 4617315517961601024] := by
  unfold boxA
  rw [if_pos x_circle, show bxL 1 4613937818241073152 (px circleL) 1 = 13835058055282163712 by decide +kernel, show bxL 1 4613937818241073152 (py circleL) 1 = 13830554455654793216 by decide +kernel, show bxH 1 4613937818241073152 (px circleL) 1 = 4616189618054758400 by decide +kernel, show bxH 1 4613937818241073152 (py circleL) 1 = 4617315517961601024 by decide +kernel]

theorem x_capsule : shE 2 4607182418800017408 (px capsuleL) (py capsuleL) 2 = 0 := by decide +kernel
theorem x_capsuleB : boxA 2 4607182418800017408 (px capsuleL) (py capsuleL) 2 = .agg #[.float .f64 13830554455654793216, .float .f64 13830554455654793216, .float .f64 4617315517961601024, .float .f64 4607182418800017408] := by
  unfold boxA
  rw [if_pos x_capsule, show bxL 2 4607182418800017408 (px capsuleL) 2 = 13830554455654793216 by decide +kernel, show bxL 2 4607182418800017408 (py capsuleL) 2 = 13830554455654793216 by decide +kernel, show bxH 2 4607182418800017408 (px capsuleL) 2 = 4617315517961601024 by decide +kernel, show bxH 2 4607182418800017408 (py capsuleL) 2 = 4607182418800017408 by decide +kernel]

theorem x_square : shE 3 0 (px squareL) (py squareL) 4 = 0 := by decide +kernel
theorem x_farE : aE 3 0 (px squareL) (py squareL) 4 4607182418800017408 4607182418800017408 = 0 := by decide +kernel
theorem x_farX : farX 3 0 (px squareL) (py squareL) 4 4607182418800017408 4607182418800017408 = 4611686018427387904 := by decide +kernel
theorem x_farY : farY 3 0 (px squareL) (py squareL) 4 4607182418800017408 4607182418800017408 = 4611686018427387904 := by decide +kernel
theorem x_hasE : aE 2 4607182418800017408 (px capsuleL) (py capsuleL) 2 4611686018427387904 4607182418800017408 = 0 := by decide +kernel
theorem x_has : hasA 2 4607182418800017408 (px capsuleL) (py capsuleL) 2 4611686018427387904 4607182418800017408 = true := by unfold hasA; rw [if_pos x_hasE]; decide +kernel
theorem x_put : shE 2 4607182418800017408 (fun i => toX 4607182418800017408 0 4607182418800017408 (px capsuleL i) (py capsuleL i)) (fun i => toY 4607182418800017408 0 4607182418800017408 (px capsuleL i) (py capsuleL i)) 2 = 0 := by decide +kernel
theorem x_p0 : toX 4607182418800017408 0 4607182418800017408 0 0 = 4607182418800017408 ∧ toY 4607182418800017408 0 4607182418800017408 0 0 = 4607182418800017408 ∧ toX 4607182418800017408 0 4607182418800017408 4616189618054758400 0 = 4607182418800017408 ∧ toY 4607182418800017408 0 4607182418800017408 4616189618054758400 0 = 4617315517961601024 := by decide +kernel
theorem x_bd0 : Bd 2 0 := ⟨by rw [okK64]; decide, by decide +kernel, by decide +kernel⟩
theorem x_bd1 : Bd 2 4607182418800017408 := ⟨by rw [okK64]; decide, by decide +kernel, by decide +kernel⟩
theorem x_chk : chk (dtK 0 4607182418800017408 0 4607182418800017408) = true := by decide +kernel
theorem x_in : inB 4607182418800017408 4607182418800017408 = true := by decide +kernel

theorem new3 (W : World) (t : TypeId) (x y z : Value) : (W.alloc (.cells #[x, y, z] t)).cell? ⟨W.heap.size, 0, none⟩ = some x ∧ (W.alloc (.cells #[x, y, z] t)).cell? ⟨W.heap.size, 1, none⟩ = some y ∧ (W.alloc (.cells #[x, y, z] t)).cell? ⟨W.heap.size, 2, none⟩ = some z :=
  ⟨by rw [World.cell?_alloc_new]; rfl, by rw [World.cell?_alloc_new]; rfl, by rw [World.cell?_alloc_new]; rfl⟩
set_option maxRecDepth 100000 in
set_option maxHeartbeats 8000000 in
theorem alive7 (w : World) : Calls Try.prog 21 #[] w fun e w' => e = .returned (.bool true) ∧ Bel w w' := by
  have q0 := cmp_eq .f64
  have q1 := fun (x y : Nat) (w : World) => run_equalIn_float Try.prog w 31 .f64 x y Try.underlying31
  have q3 := fun (d x y : Nat) (w : World) => run_equalIn_fl Try.prog w d 31 .f64 x y Try.underlying31
  have q4 := fun (x y : Nat) (w : World) => run_equalIn_fl Try.prog w 9997 31 .f64 x y Try.underlying31
  have q5 := fun (x y : Nat) (w : World) => run_equalIn_fl Try.prog w 9996 31 .f64 x y Try.underlying31
  have e0 : eqK .f64 0 0 = true := by decide +kernel
  have e1 : eqK .f64 4607182418800017408 4607182418800017408 = true := by decide +kernel
  have e2 : eqK .f64 4611686018427387904 4611686018427387904 = true := by decide +kernel
  have e3 : eqK .f64 4616189618054758400 4616189618054758400 = true := by decide +kernel
  have e4 : eqK .f64 4617315517961601024 4617315517961601024 = true := by decide +kernel
  have e5 : eqK .f64 13830554455654793216 13830554455654793216 = true := by decide +kernel
  have e6 : eqK .f64 13835058055282163712 13835058055282163712 = true := by decide +kernel
  have Bc := bl_refl w
  go_enter Try.func21, Try.ntmps21
  go_wp2_with (first | (go_at_call 18; refine (put_ok _ 2 (px capsuleL) (py capsuleL) 2 4607182418800017408 4607182418800017408 4607182418800017408 0 4607182418800017408 _ hA5 (by rw [okK64]; decide) x_capsule x_in (by rw [okK64]; decide) (by rw [okK64]; decide) x_bd0 x_bd1 x_chk x_put).mono ?_; rintro e wd ⟨g, rfl, hg, hS, hb⟩; replace A0 := keep hb A0; replace A1 := keep hb A1; replace A2 := keep hb A2; replace A3 := keep hb A3; replace C0 := keep hb C0; replace C1 := keep hb C1; replace C2 := keep hb C2; replace C3 := keep hb C3; replace F0 := keep hb F0; replace F1 := keep hb F1; replace Bc := bl_trans Bc hb; obtain ⟨T0, T1⟩ := hS 0 (by decide); obtain ⟨T2, T3⟩ := hS 1 (by decide); have eT := x_p0; replace T0 : wd.cell? ⟨g, 0, none⟩ = some (.float .f64 4607182418800017408) := T0.trans (congrArg (fun z => some (Value.float .f64 z)) eT.1); replace T1 : wd.cell? ⟨g, 1, none⟩ = some (.float .f64 4607182418800017408) := T1.trans (congrArg (fun z => some (Value.float .f64 z)) eT.2.1); replace T2 : wd.cell? ⟨g, 2, none⟩ = some (.float .f64 4607182418800017408) := T2.trans (congrArg (fun z => some (Value.float .f64 z)) eT.2.2.1); replace T3 : wd.cell? ⟨g, 3, none⟩ = some (.float .f64 4617315517961601024) := T3.trans (congrArg (fun z => some (Value.float .f64 z)) eT.2.2.2); clear eT; replace T0 := up_alloc (o := .cells #[.int .u8 2, .float .f64 4607182418800017408, .slice (some ⟨g, 0, none⟩) 2 2] 33) T0; replace T1 := up_alloc (o := .cells #[.int .u8 2, .float .f64 4607182418800017408, .slice (some ⟨g, 0, none⟩) 2 2] 33) T1; replace T2 := up_alloc (o := .cells #[.int .u8 2, .float .f64 4607182418800017408, .slice (some ⟨g, 0, none⟩) 2 2] 33) T2; replace T3 := up_alloc (o := .cells #[.int .u8 2, .float .f64 4607182418800017408, .slice (some ⟨g, 0, none⟩) 2 2] 33) T3; replace A0 := up_alloc (o := .cells #[.int .u8 2, .float .f64 4607182418800017408, .slice (some ⟨g, 0, none⟩) 2 2] 33) A0; replace A1 := up_alloc (o := .cells #[.int .u8 2, .float .f64 4607182418800017408, .slice (some ⟨g, 0, none⟩) 2 2] 33) A1; replace A2 := up_alloc (o := .cells #[.int .u8 2, .float .f64 4607182418800017408, .slice (some ⟨g, 0, none⟩) 2 2] 33) A2; replace A3 := up_alloc (o := .cells #[.int .u8 2, .float .f64 4607182418800017408, .slice (some ⟨g, 0, none⟩) 2 2] 33) A3; replace C0 := up_alloc (o := .cells #[.int .u8 2, .float .f64 4607182418800017408, .slice (some ⟨g, 0, none⟩) 2 2] 33) C0; replace C1 := up_alloc (o := .cells #[.int .u8 2, .float .f64 4607182418800017408, .slice (some ⟨g, 0, none⟩) 2 2] 33) C1; replace C2 := up_alloc (o := .cells #[.int .u8 2, .float .f64 4607182418800017408, .slice (some ⟨g, 0, none⟩) 2 2] 33) C2; replace C3 := up_alloc (o := .cells #[.int .u8 2, .float .f64 4607182418800017408, .slice (some ⟨g, 0, none⟩) 2 2] 33) C3; replace F0 := up_alloc (o := .cells #[.int .u8 2, .float .f64 4607182418800017408, .slice (some ⟨g, 0, none⟩) 2 2] 33) F0; replace F1 := up_alloc (o := .cells #[.int .u8 2, .float .f64 4607182418800017408, .slice (some ⟨g, 0, none⟩) 2 2] 33) F1; replace Bc := bl_alloc Bc #[.int .u8 2, .float .f64 4607182418800017408, .slice (some ⟨g, 0, none⟩) 2 2] 33; obtain ⟨I0, I1, I2⟩ := new3 wd 33 (.int .u8 2) (.float .f64 4607182418800017408) (.slice (some ⟨g, 0, none⟩) 2 2)) | (have zn := mv2; clear zn; go_at_call 15; refine (v_any _ _ _).mono ?_; rintro e wc ⟨rfl, hb⟩; replace A0 := keep hb A0; replace A1 := keep hb A1; replace A2 := keep hb A2; replace A3 := keep hb A3; replace C0 := keep hb C0; replace C1 := keep hb C1; replace C2 := keep hb C2; replace C3 := keep hb C3; replace F0 := keep hb F0; replace F1 := keep hb F1; replace Bc := bl_trans Bc hb; replace hA5 := hA5.bel hb) | (have zn := mC2; clear zn; go_at_call 17; refine (capsule_b _).mono ?_; rintro e wb ⟨b5, rfl, hA5, hb⟩; replace A0 := keep hb A0; replace A1 := keep hb A1; replace A2 := keep hb A2; replace A3 := keep hb A3; replace C0 := keep hb C0; replace C1 := keep hb C1; replace C2 := keep hb C2; replace C3 := keep hb C3; replace F0 := keep hb F0; replace F1 := keep hb F1; replace Bc := bl_trans Bc hb) | (go_at_call 57; refine (sHas_any _ 2 (px capsuleL) (py capsuleL) 2 4607182418800017408 _ hA4 (by rw [okK64]; decide) 4611686018427387904 4607182418800017408 (by rw [okK64]; decide) (by rw [okK64]; decide)).mono ?_; rintro e wa ⟨rfl, hb⟩; replace A0 := keep hb A0; replace A1 := keep hb A1; replace A2 := keep hb A2; replace A3 := keep hb A3; replace C0 := keep hb C0; replace C1 := keep hb C1; replace C2 := keep hb C2; replace C3 := keep hb C3; replace F0 := keep hb F0; replace F1 := keep hb F1; replace Bc := bl_trans Bc hb; rw [x_has, x_hasE]) | (have zn := mv1; clear zn; go_at_call 15; refine (v_any _ _ _).mono ?_; rintro e w9 ⟨rfl, hb⟩; replace A0 := keep hb A0; replace A1 := keep hb A1; replace A2 := keep hb A2; replace A3 := keep hb A3; replace C0 := keep hb C0; replace C1 := keep hb C1; replace C2 := keep hb C2; replace C3 := keep hb C3; replace F0 := keep hb F0; replace F1 := keep hb F1; replace Bc := bl_trans Bc hb; replace hA4 := hA4.bel hb; have mv2 := True.intro) | (have zn := mC; clear zn; go_at_call 17; refine (capsule_b _).mono ?_; rintro e w8 ⟨b4, rfl, hA4, hb⟩; replace A0 := keep hb A0; replace A1 := keep hb A1; replace A2 := keep hb A2; replace A3 := keep hb A3; replace C0 := keep hb C0; replace C1 := keep hb C1; replace C2 := keep hb C2; replace C3 := keep hb C3; replace F0 := keep hb F0; replace F1 := keep hb F1; replace Bc := bl_trans Bc hb; have mC2 := True.intro) | (go_at_call 20; refine (sFar_any _ 4 (px squareL) (py squareL) 3 0 _ hA3 (by rw [okK64]; decide) 4607182418800017408 4607182418800017408 (by rw [okK64]; decide) (by rw [okK64]; decide)).mono ?_; rintro e w7 ⟨rfl, hb⟩; replace A0 := keep hb A0; replace A1 := keep hb A1; replace A2 := keep hb A2; replace A3 := keep hb A3; replace C0 := keep hb C0; replace C1 := keep hb C1; replace C2 := keep hb C2; replace C3 := keep hb C3; replace Bc := bl_trans Bc hb; rw [x_farX, x_farY, x_farE]; replace A0 := up_alloc (o := .cells #[.float .f64 4611686018427387904, .float .f64 4611686018427387904] 36) A0; replace A1 := up_alloc (o := .cells #[.float .f64 4611686018427387904, .float .f64 4611686018427387904] 36) A1; replace A2 := up_alloc (o := .cells #[.float .f64 4611686018427387904, .float .f64 4611686018427387904] 36) A2; replace A3 := up_alloc (o := .cells #[.float .f64 4611686018427387904, .float .f64 4611686018427387904] 36) A3; replace C0 := up_alloc (o := .cells #[.float .f64 4611686018427387904, .float .f64 4611686018427387904] 36) C0; replace C1 := up_alloc (o := .cells #[.float .f64 4611686018427387904, .float .f64 4611686018427387904] 36) C1; replace C2 := up_alloc (o := .cells #[.float .f64 4611686018427387904, .float .f64 4611686018427387904] 36) C2; replace C3 := up_alloc (o := .cells #[.float .f64 4611686018427387904, .float .f64 4611686018427387904] 36) C3; replace Bc := bl_alloc Bc #[.float .f64 4611686018427387904, .float .f64 4611686018427387904] 36; obtain ⟨F0, F1, _⟩ := new2 w7 36 (.float .f64 4611686018427387904) (.float .f64 4611686018427387904)) | (go_at_call 15; refine (v_any _ _ _).mono ?_; rintro e w6 ⟨rfl, hb⟩; replace A0 := keep hb A0; replace A1 := keep hb A1; replace A2 := keep hb A2; replace A3 := keep hb A3; replace C0 := keep hb C0; replace C1 := keep hb C1; replace C2 := keep hb C2; replace C3 := keep hb C3; replace Bc := bl_trans Bc hb; replace hA3 := hA3.bel hb; have mv1 := True.intro) | (go_at_call 13; refine (square_b _).mono ?_; rintro e w5 ⟨b3, rfl, hA3, hb⟩; replace A0 := keep hb A0; replace A1 := keep hb A1; replace A2 := keep hb A2; replace A3 := keep hb A3; replace C0 := keep hb C0; replace C1 := keep hb C1; replace C2 := keep hb C2; replace C3 := keep hb C3; replace Bc := bl_trans Bc hb) | (have zn := mB; clear zn; go_at_call 56; refine (sBox_any _ 2 (px capsuleL) (py capsuleL) 2 4607182418800017408 _ hA2 (by rw [okK64]; decide)).mono ?_; rintro e w4 ⟨rfl, hb⟩; replace A0 := keep hb A0; replace A1 := keep hb A1; replace A2 := keep hb A2; replace A3 := keep hb A3; replace Bc := bl_trans Bc hb; rw [x_capsuleB, x_capsule]; replace A0 := up_alloc (o := .cells #[.float .f64 13830554455654793216, .float .f64 13830554455654793216, .float .f64 4617315517961601024, .float .f64 4607182418800017408] 90) A0; replace A1 := up_alloc (o := .cells #[.float .f64 13830554455654793216, .float .f64 13830554455654793216, .float .f64 4617315517961601024, .float .f64 4607182418800017408] 90) A1; replace A2 := up_alloc (o := .cells #[.float .f64 13830554455654793216, .float .f64 13830554455654793216, .float .f64 4617315517961601024, .float .f64 4607182418800017408] 90) A2; replace A3 := up_alloc (o := .cells #[.float .f64 13830554455654793216, .float .f64 13830554455654793216, .float .f64 4617315517961601024, .float .f64 4607182418800017408] 90) A3; replace Bc := bl_alloc Bc #[.float .f64 13830554455654793216, .float .f64 13830554455654793216, .float .f64 4617315517961601024, .float .f64 4607182418800017408] 90; obtain ⟨C0, C1, C2, C3⟩ := new4 w4 90 (.float .f64 13830554455654793216) (.float .f64 13830554455654793216) (.float .f64 4617315517961601024) (.float .f64 4607182418800017408)) | (go_at_call 17; refine (capsule_b _).mono ?_; rintro e w3 ⟨b2, rfl, hA2, hb⟩; replace A0 := keep hb A0; replace A1 := keep hb A1; replace A2 := keep hb A2; replace A3 := keep hb A3; replace Bc := bl_trans Bc hb; have mC := True.intro) | (go_at_call 56; refine (sBox_any _ 1 (px circleL) (py circleL) 1 4613937818241073152 _ hA1 (by rw [okK64]; decide)).mono ?_; rintro e w2 ⟨rfl, hb⟩; replace Bc := bl_trans Bc hb; rw [x_circleB, x_circle]; replace Bc := bl_alloc Bc #[.float .f64 13835058055282163712, .float .f64 13830554455654793216, .float .f64 4616189618054758400, .float .f64 4617315517961601024] 90; obtain ⟨A0, A1, A2, A3⟩ := new4 w2 90 (.float .f64 13835058055282163712) (.float .f64 13830554455654793216) (.float .f64 4616189618054758400) (.float .f64 4617315517961601024); have mB := True.intro) | (go_at_call 14; refine (circle_b _).mono ?_; rintro e w1 ⟨b1, rfl, hA1, hb⟩; replace Bc := bl_trans Bc hb))
  have hbg := World.block_lt_of_cell? _ _ T0
  haveI := belBy_some (wd.alloc (.cells #[.int .u8 2, .float .f64 4607182418800017408, .slice (some ⟨g, 0, none⟩) 2 2] 33))
  have y0 := belBy_cell A0
  have y1 := belBy_cell A1
  have y2 := belBy_cell A2
  have y3 := belBy_cell A3
  have y4 := belBy_cell C0
  have y5 := belBy_cell C1
  have y6 := belBy_cell C2
  have y7 := belBy_cell C3
  have y8 := belBy_cell F0
  have y9 := belBy_cell F1
  have y10 := belBy_cell I0
  have y11 := belBy_cell I1
  have y12 := belBy_cell I2
  have y13 := belBy_cell T0
  have y14 := belBy_cell T1
  have y15 := belBy_cell T2
  have y16 := belBy_cell T3
  refine wp_region_quiet_bel (by kernel_rfl) (by kernel_rfl) ?_
  repeat (go_big_quiet_step (first | (go_at_call 15; exact calls_bel (v_any _ _ _))))
  refine wpQuiet_nil ?_
  rintro _ ⟨nq, rfl⟩
  go_wp2
  go_ret
  exact ⟨rfl, bl_trans Bc nq.h⟩

end Go.Proofs.Ytnbkjkbgfcpcfaa
