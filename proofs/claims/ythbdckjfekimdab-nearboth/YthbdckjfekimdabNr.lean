/-
  What each function of package poly answers, and what the reference of its chapter answers: one contract a function, for every float: the answer stands in the relation of its formula to what was given; of the memory that was there nothing has turned.
-/
import Derived.Test.YthbdckjfekimdabVec
import Derived.Test.YthbdckjfekimdabNq
import Derived.Test.YthbdckjfekimdabBel
import Derived.Below
import Derived.WalkKit
import Derived.WalkLawsBesides
import Derived.WalkSpells
import Derived.ProofKit
import Derived.OpenShut
import Derived.Deep.RegionHeld3
namespace Go.Proofs.Ythbdckjfekimdab
open Go.ChangeShapes Go.WideShapes Go.ChangeAt Go.RowKit
set_option linter.unusedVariables false
set_option linter.unusedSimpArgs false


set_option maxRecDepth 100000 in
set_option maxHeartbeats 8000000 in
theorem alive10 (w : World) : Calls Try.prog 5 #[] w fun e w' => e = .returned (.bool true) ∧ Bel w w' := by
  have q0 := cmp_eq .f64
  have q1 := fun (x y : Nat) (w : World) => run_equalIn_float Try.prog w 22 .f64 x y Try.underlying22
  have q3 := fun (d x y : Nat) (w : World) => run_equalIn_fl Try.prog w d 22 .f64 x y Try.underlying22
  have q4 := fun (x y : Nat) (w : World) => run_equalIn_fl Try.prog w 9997 22 .f64 x y Try.underlying22
  have q5 := fun (x y : Nat) (w : World) => run_equalIn_fl Try.prog w 9996 22 .f64 x y Try.underlying22
  have q6 := fun (x y : Nat) (w : World) => run_equalIn_fl Try.prog w 9998 22 .f64 x y Try.underlying22
  have e0 : eqK .f64 0 0 = true := by decide +kernel
  have e1 : eqK .f64 4607182418800017408 4607182418800017408 = true := by decide +kernel
  have e2 : eqK .f64 4611686018427387904 4611686018427387904 = true := by decide +kernel
  have e3 : eqK .f64 4613937818241073152 4613937818241073152 = true := by decide +kernel
  have e4 : eqK .f64 4616189618054758400 4616189618054758400 = true := by decide +kernel
  have e5 : eqK .f64 4617315517961601024 4617315517961601024 = true := by decide +kernel
  have e6 : eqK .f64 13830554455654793216 13830554455654793216 = true := by decide +kernel
  have e7 : eqK .f64 4598175219545276416 4598175219545276416 = true := by decide +kernel
  have Bc := bl_refl w
  go_enter Try.func5, Try.ntmps5
  go_wp2_with (first | (have zn := am8; clear zn; go_at_call 6; refine (x_cq _ _ _ hd hq).mono ?_; rintro e aw9 ⟨rfl, hb⟩; replace p0 := keep hb p0; replace p1 := keep hb p1; replace n0 := keep hb n0; replace n1 := keep hb n1; replace n2 := keep hb n2; replace n3 := keep hb n3; replace n4 := keep hb n4; replace hc := hc.bel hb; replace hs := hs.bel hb; replace hd := hd.bel hb; replace hq := hq.bel hb; replace Bc := bl_trans Bc hb; replace p0 := up_alloc (o := .cells #[.float .f64 4611686018427387904, .float .f64 4607182418800017408, .float .f64 0, .float .f64 4613937818241073152, .float .f64 0] 30) p0; replace p1 := up_alloc (o := .cells #[.float .f64 4611686018427387904, .float .f64 4607182418800017408, .float .f64 0, .float .f64 4613937818241073152, .float .f64 0] 30) p1; replace n0 := up_alloc (o := .cells #[.float .f64 4611686018427387904, .float .f64 4607182418800017408, .float .f64 0, .float .f64 4613937818241073152, .float .f64 0] 30) n0; replace n1 := up_alloc (o := .cells #[.float .f64 4611686018427387904, .float .f64 4607182418800017408, .float .f64 0, .float .f64 4613937818241073152, .float .f64 0] 30) n1; replace n2 := up_alloc (o := .cells #[.float .f64 4611686018427387904, .float .f64 4607182418800017408, .float .f64 0, .float .f64 4613937818241073152, .float .f64 0] 30) n2; replace n3 := up_alloc (o := .cells #[.float .f64 4611686018427387904, .float .f64 4607182418800017408, .float .f64 0, .float .f64 4613937818241073152, .float .f64 0] 30) n3; replace n4 := up_alloc (o := .cells #[.float .f64 4611686018427387904, .float .f64 4607182418800017408, .float .f64 0, .float .f64 4613937818241073152, .float .f64 0] 30) n4; replace Bc := bl_alloc Bc #[.float .f64 4611686018427387904, .float .f64 4607182418800017408, .float .f64 0, .float .f64 4613937818241073152, .float .f64 0] 30; replace hc := hc.bel (bl_alloc (bl_refl _) #[.float .f64 4611686018427387904, .float .f64 4607182418800017408, .float .f64 0, .float .f64 4613937818241073152, .float .f64 0] 30); replace hs := hs.bel (bl_alloc (bl_refl _) #[.float .f64 4611686018427387904, .float .f64 4607182418800017408, .float .f64 0, .float .f64 4613937818241073152, .float .f64 0] 30); replace hd := hd.bel (bl_alloc (bl_refl _) #[.float .f64 4611686018427387904, .float .f64 4607182418800017408, .float .f64 0, .float .f64 4613937818241073152, .float .f64 0] 30); replace hq := hq.bel (bl_alloc (bl_refl _) #[.float .f64 4611686018427387904, .float .f64 4607182418800017408, .float .f64 0, .float .f64 4613937818241073152, .float .f64 0] 30); obtain ⟨o0, o1, o2, o3, o4⟩ := new5' aw9 30 (.float .f64 4611686018427387904) (.float .f64 4607182418800017408) (.float .f64 0) (.float .f64 4613937818241073152) (.float .f64 0); have am9 := True.intro) | (have zn := am7; clear zn; go_at_call 23; refine (q_b10 _).mono ?_; rintro e aw8 ⟨bhq, rfl, hq, hb⟩; replace p0 := keep hb p0; replace p1 := keep hb p1; replace n0 := keep hb n0; replace n1 := keep hb n1; replace n2 := keep hb n2; replace n3 := keep hb n3; replace n4 := keep hb n4; replace hc := hc.bel hb; replace hs := hs.bel hb; replace hd := hd.bel hb; replace Bc := bl_trans Bc hb; have am8 := True.intro) | (have zn := am6; clear zn; go_at_call 21; refine (c_b10 _).mono ?_; rintro e aw7 ⟨bhd, rfl, hd, hb⟩; replace p0 := keep hb p0; replace p1 := keep hb p1; replace n0 := keep hb n0; replace n1 := keep hb n1; replace n2 := keep hb n2; replace n3 := keep hb n3; replace n4 := keep hb n4; replace hc := hc.bel hb; replace hs := hs.bel hb; replace Bc := bl_trans Bc hb; have am7 := True.intro) | (have zn := am5; clear zn; go_at_call 6; refine (x_cs _ _ _ hc hs).mono ?_; rintro e aw6 ⟨rfl, hb⟩; replace p0 := keep hb p0; replace p1 := keep hb p1; replace hc := hc.bel hb; replace hs := hs.bel hb; replace Bc := bl_trans Bc hb; replace p0 := up_alloc (o := .cells #[.float .f64 4611686018427387904, .float .f64 0, .float .f64 4607182418800017408, .float .f64 0, .float .f64 4613937818241073152] 30) p0; replace p1 := up_alloc (o := .cells #[.float .f64 4611686018427387904, .float .f64 0, .float .f64 4607182418800017408, .float .f64 0, .float .f64 4613937818241073152] 30) p1; replace Bc := bl_alloc Bc #[.float .f64 4611686018427387904, .float .f64 0, .float .f64 4607182418800017408, .float .f64 0, .float .f64 4613937818241073152] 30; replace hc := hc.bel (bl_alloc (bl_refl _) #[.float .f64 4611686018427387904, .float .f64 0, .float .f64 4607182418800017408, .float .f64 0, .float .f64 4613937818241073152] 30); replace hs := hs.bel (bl_alloc (bl_refl _) #[.float .f64 4611686018427387904, .float .f64 0, .float .f64 4607182418800017408, .float .f64 0, .float .f64 4613937818241073152] 30); obtain ⟨n0, n1, n2, n3, n4⟩ := new5' aw6 30 (.float .f64 4611686018427387904) (.float .f64 0) (.float .f64 4607182418800017408) (.float .f64 0) (.float .f64 4613937818241073152); have am6 := True.intro) | (have zn := am4; clear zn; go_at_call 22; refine (s_b10 _).mono ?_; rintro e aw5 ⟨bhs, rfl, hs, hb⟩; replace p0 := keep hb p0; replace p1 := keep hb p1; replace hc := hc.bel hb; replace Bc := bl_trans Bc hb; have am5 := True.intro) | (have zn := am3; clear zn; go_at_call 21; refine (c_b10 _).mono ?_; rintro e aw4 ⟨bhc, rfl, hc, hb⟩; replace p0 := keep hb p0; replace p1 := keep hb p1; replace Bc := bl_trans Bc hb; have am4 := True.intro) | (have zn := am2; clear zn; go_at_call 19; refine (x_pt1 _).mono ?_; rintro e aw3 ⟨rfl, hb⟩; replace Bc := bl_trans Bc hb; replace Bc := bl_alloc Bc #[.float .f64 4607182418800017408, .float .f64 0] 28; obtain ⟨p0, p1⟩ := new2' aw3 28 (.float .f64 4607182418800017408) (.float .f64 0); have am3 := True.intro) | (have zn := am1; clear zn; go_at_call 20; refine (v10 _ _ _).mono ?_; rintro e aw2 ⟨rfl, hb⟩; replace Bc := bl_trans Bc hb; have am2 := True.intro) | (have zn := am0; clear zn; go_at_call 20; refine (v10 _ _ _).mono ?_; rintro e aw1 ⟨rfl, hb⟩; replace Bc := bl_trans Bc hb; have am1 := True.intro) | (go_at_call 20; refine (v10 _ _ _).mono ?_; rintro e aw0 ⟨rfl, hb⟩; replace Bc := bl_trans Bc hb; have am0 := True.intro))
  clear hc hs hd hq
  haveI := belBy_some (aw9.alloc (.cells #[.float .f64 4611686018427387904, .float .f64 4607182418800017408, .float .f64 0, .float .f64 4613937818241073152, .float .f64 0] 30))
  have yp0 := belBy_cell p0
  have yp1 := belBy_cell p1
  have yn0 := belBy_cell n0
  have yn1 := belBy_cell n1
  have yn2 := belBy_cell n2
  have yn3 := belBy_cell n3
  have yn4 := belBy_cell n4
  have yo0 := belBy_cell o0
  have yo1 := belBy_cell o1
  have yo2 := belBy_cell o2
  have yo3 := belBy_cell o3
  have yo4 := belBy_cell o4
  refine wp_region_quiet_bel (by kernel_rfl) (by kernel_rfl) ?_
  repeat (go_big_quiet_step (first | (go_at_call 20; exact calls_bel (v10 _ _ _)) | (go_at_call 24; with_reducible exact calls_bel (x_sg1 _))))
  refine wpQuiet_nil ?_
  rintro _ ⟨nq, rfl⟩
  go_wp2
  go_ret
  exact ⟨rfl, bl_trans Bc nq.h⟩

end Go.Proofs.Ythbdckjfekimdab
