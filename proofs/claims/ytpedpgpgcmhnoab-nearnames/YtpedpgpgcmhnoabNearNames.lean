/-
  NearNames: the errors of layer 10 have their numbers, and the chapter's examples come out as it says; it takes no input.
-/
import Derived.Test.YtpedpgpgcmhnoabRows
import Derived.Test.YtpedpgpgcmhnoabNr
import Derived.WalkKit
import Derived.ProofKit
import Derived.OpenShut
import Derived.WalkLawsBesides
import Derived.WalkSpells
import Derived.Lib.SmallJoins
import Derived.Laws.Cover2
import Derived.Deep.RegionHeld3
import Derived.Deep.Strs
namespace Go.Proofs.Ytpedpgpgcmhnoab.nearNames
open Go.ChangeShapes Go.WideShapes Go.ChangeAt Go.RowKit Go.Joins
set_option linter.unusedVariables false
set_option linter.unusedSimpArgs false

theorem own : ownKnob Try.prog.godebug = none := by kernel_rfl
theorem wf_f64 {x : Nat} (h : (Lit.float .f64 x).wf = true) : okK .f64 x := by
  rw [okK64]; simpa [Lit.wf] using h
theorem trod_fl {H : Type} {enc : TypeId × Value → H} {P : Program} {w : World} {base fuel : Nat} {spare : Nat → Bool} {held : Bool} {t : TypeId} {cs : List Value} {x : DataW H × List MemPlace} {k : FloatKind} (ht : P.underlying t = some (.float k)) (h : DataW.trod enc P w base spare held fuel t cs = some x) : ∃ n, cs = [.float k n] ∧ x = (.lit (.float k n), []) ∧ (Lit.float k n).wf = true := by
  cases fuel with
  | zero => simp [DataW.trod] at h
  | succ n =>
    unfold DataW.trod at h
    rw [ht] at h
    split at h <;> simp_all

set_option maxRecDepth 100000 in
set_option maxHeartbeats 16000000 in
theorem walk   (w : World) :
    Calls Try.prog 3 #[] w fun e w' => e = .returned (.bool true) ∧ Bel w w' := by
  have q0 := cmp_eq .f64
  have q1 := fun (x y : Nat) (w : World) => run_equalIn_float Try.prog w 22 .f64 x y Try.underlying22
  have q3 := fun (d x y : Nat) (w : World) => run_equalIn_fl Try.prog w d 22 .f64 x y Try.underlying22
  have q4 := fun (x y : Nat) (w : World) => run_equalIn_fl Try.prog w 9997 22 .f64 x y Try.underlying22
  have q5 := fun (x y : Nat) (w : World) => run_equalIn_fl Try.prog w 9996 22 .f64 x y Try.underlying22
  have q6 := fun (x y : Nat) (w : World) => run_equalIn_fl Try.prog w 9998 22 .f64 x y Try.underlying22
  have e0 : eqK .f64 0 0 = true := by decide +kernel
  have e1 : eqK .f64 4607182418800017408 4607182418800017408 = true := by decide +kernel
  have e2 : eqK .f64 4611686018427387904 4611686018427387904 = true := by decide +kernel
  have e3 : eqK .f64 4613937818241073152 4613937818241073152 = true := by decide +kernel
  have e4 : eqK .f64 4616189618054758400 4616189618054758400 = true := by decide +kernel
  have e5 : eqK .f64 4617315517961601024 4617315517961601024 = true := by decide +kernel
  have e6 : eqK .f64 13830554455654793216 13830554455654793216 = true := by decide +kernel
  have e7 : eqK .f64 4598175219545276416 4598175219545276416 = true := by decide +kernel
  have qf : ∀ (b : Nat) (W : World), (Instr.field 36 (.agg #[.int .u8 3, .float .f64 0, .slice (some ⟨b, 0, none⟩) 4 4]) 2).run Try.prog W = .ok (.slice (some ⟨b, 0, none⟩) 4 4) W := fun b W => by kernel_rfl
  have Bc := bl_refl w
  go_enter Try.func3, Try.ntmps3
  go_wp2_with (first | (have zn := am2; clear zn; go_at_call 7; refine (x_pt2 _).mono ?_; rintro e aw3 ⟨rfl, hb⟩; replace Bc := bl_trans Bc hb; replace Bc := bl_alloc Bc #[.float .f64 4611686018427387904, .float .f64 4611686018427387904] 24; obtain ⟨p0, p1⟩ := new2' aw3 24 (.float .f64 4611686018427387904) (.float .f64 4611686018427387904); have am3 := True.intro) | (have zn := am1; clear zn; go_at_call 8; refine (v10 _ _ _).mono ?_; rintro e aw2 ⟨rfl, hb⟩; replace Bc := bl_trans Bc hb; have am2 := True.intro) | (have zn := am0; clear zn; go_at_call 8; refine (v10 _ _ _).mono ?_; rintro e aw1 ⟨rfl, hb⟩; replace Bc := bl_trans Bc hb; have am1 := True.intro) | (go_at_call 8; refine (v10 _ _ _).mono ?_; rintro e aw0 ⟨rfl, hb⟩; replace Bc := bl_trans Bc hb; have am0 := True.intro))
  haveI := belBy_some (aw3.alloc (.cells #[.float .f64 4611686018427387904, .float .f64 4611686018427387904] 24))
  have yp0 := belBy_cell p0
  have yp1 := belBy_cell p1
  refine wp_region_quiet_bel (by kernel_rfl) (by kernel_rfl) ?_
  repeat (go_big_quiet_step (first | (go_at_call 8; exact calls_bel (v10 _ _ _)) | (go_at_call 9; with_reducible exact calls_bel (x_sg2 _)) | (go_at_call 9; with_reducible exact calls_bel (x_sg3 _))))
  refine wpQuiet_nil ?_
  rintro _ ⟨nq1, rfl⟩
  replace Bc := bl_trans Bc nq1.h
  go_wp2_with (first | (have zn := bm8; clear zn; go_at_call 10; refine (x_po3 _ _ h3).mono ?_; rintro e bw9 ⟨rfl, hb⟩; replace f0 := keep hb f0; replace f1 := keep hb f1; replace g0 := keep hb g0; replace g1 := keep hb g1; replace h1 := h1.bel hb; replace h2 := h2.bel hb; replace h3 := h3.bel hb; replace Bc := bl_trans Bc hb; replace f0 := up_alloc (o := .cells #[.float .f64 0, .float .f64 0] 24) f0; replace f1 := up_alloc (o := .cells #[.float .f64 0, .float .f64 0] 24) f1; replace g0 := up_alloc (o := .cells #[.float .f64 0, .float .f64 0] 24) g0; replace g1 := up_alloc (o := .cells #[.float .f64 0, .float .f64 0] 24) g1; replace Bc := bl_alloc Bc #[.float .f64 0, .float .f64 0] 24; replace h1 := h1.bel (bl_alloc (bl_refl _) #[.float .f64 0, .float .f64 0] 24); replace h2 := h2.bel (bl_alloc (bl_refl _) #[.float .f64 0, .float .f64 0] 24); replace h3 := h3.bel (bl_alloc (bl_refl _) #[.float .f64 0, .float .f64 0] 24); obtain ⟨i0, i1⟩ := new2' bw9 24 (.float .f64 0) (.float .f64 0); have bm9 := True.intro) | (have zn := bm7; clear zn; go_at_call 8; refine (v10 _ _ _).mono ?_; rintro e bw8 ⟨rfl, hb⟩; replace f0 := keep hb f0; replace f1 := keep hb f1; replace g0 := keep hb g0; replace g1 := keep hb g1; replace h1 := h1.bel hb; replace h2 := h2.bel hb; replace h3 := h3.bel hb; replace Bc := bl_trans Bc hb; have bm8 := True.intro) | (have zn := bm6; clear zn; go_at_call 12; refine (nan10 _).mono ?_; rintro e bw7 ⟨rfl, rfl⟩; skip; have bm7 := True.intro) | (have zn := bm5; clear zn; go_at_call 11; refine (q_b10 _).mono ?_; rintro e bw6 ⟨bh3, rfl, h3, hb⟩; replace f0 := keep hb f0; replace f1 := keep hb f1; replace g0 := keep hb g0; replace g1 := keep hb g1; replace h1 := h1.bel hb; replace h2 := h2.bel hb; replace Bc := bl_trans Bc hb; have bm6 := True.intro) | (have zn := bm4; clear zn; go_at_call 10; refine (x_po2 _ _ h2).mono ?_; rintro e bw5 ⟨rfl, hb⟩; replace f0 := keep hb f0; replace f1 := keep hb f1; replace h1 := h1.bel hb; replace h2 := h2.bel hb; replace Bc := bl_trans Bc hb; replace f0 := up_alloc (o := .cells #[.float .f64 4616189618054758400, .float .f64 13830554455654793216] 24) f0; replace f1 := up_alloc (o := .cells #[.float .f64 4616189618054758400, .float .f64 13830554455654793216] 24) f1; replace Bc := bl_alloc Bc #[.float .f64 4616189618054758400, .float .f64 13830554455654793216] 24; replace h1 := h1.bel (bl_alloc (bl_refl _) #[.float .f64 4616189618054758400, .float .f64 13830554455654793216] 24); replace h2 := h2.bel (bl_alloc (bl_refl _) #[.float .f64 4616189618054758400, .float .f64 13830554455654793216] 24); obtain ⟨g0, g1⟩ := new2' bw5 24 (.float .f64 4616189618054758400) (.float .f64 13830554455654793216); have bm5 := True.intro) | (have zn := bm3; clear zn; go_at_call 8; refine (v10 _ _ _).mono ?_; rintro e bw4 ⟨rfl, hb⟩; replace f0 := keep hb f0; replace f1 := keep hb f1; replace h1 := h1.bel hb; replace h2 := h2.bel hb; replace Bc := bl_trans Bc hb; have bm4 := True.intro) | (have zn := bm2; clear zn; go_at_call 11; refine (q_b10 _).mono ?_; rintro e bw3 ⟨bh2, rfl, h2, hb⟩; replace f0 := keep hb f0; replace f1 := keep hb f1; replace h1 := h1.bel hb; replace Bc := bl_trans Bc hb; have bm3 := True.intro) | (have zn := bm1; clear zn; go_at_call 10; refine (x_po1 _ _ h1).mono ?_; rintro e bw2 ⟨rfl, hb⟩; replace h1 := h1.bel hb; replace Bc := bl_trans Bc hb; replace Bc := bl_alloc Bc #[.float .f64 4617315517961601024, .float .f64 0] 24; replace h1 := h1.bel (bl_alloc (bl_refl _) #[.float .f64 4617315517961601024, .float .f64 0] 24); obtain ⟨f0, f1⟩ := new2' bw2 24 (.float .f64 4617315517961601024) (.float .f64 0); have bm2 := True.intro) | (have zn := bm0; clear zn; go_at_call 8; refine (v10 _ _ _).mono ?_; rintro e bw1 ⟨rfl, hb⟩; replace h1 := h1.bel hb; replace Bc := bl_trans Bc hb; have bm1 := True.intro) | (go_at_call 11; refine (q_b10 _).mono ?_; rintro e bw0 ⟨bh1, rfl, h1, hb⟩; replace Bc := bl_trans Bc hb; have bm0 := True.intro))
  clear h1 h2 h3
  haveI := belBy_some (bw9.alloc (.cells #[.float .f64 0, .float .f64 0] 24))
  have yf0 := belBy_cell f0
  have yf1 := belBy_cell f1
  have yg0 := belBy_cell g0
  have yg1 := belBy_cell g1
  have yi0 := belBy_cell i0
  have yi1 := belBy_cell i1
  refine wp_region_quiet_bel (by kernel_rfl) (by kernel_rfl) ?_
  repeat (go_big_quiet_step (first | (go_at_call 8; exact calls_bel (v10 _ _ _))))
  refine wpQuiet_nil ?_
  rintro _ ⟨nq2, rfl⟩
  replace Bc := bl_trans Bc nq2.h
  go_wp2_with (first | (have zn := cm7; clear zn; go_at_call 13; refine (x_ce _ _ h5).mono ?_; rintro e cw8 ⟨rfl, hb⟩; replace j0 := keep hb j0; replace j1 := keep hb j1; replace j2 := keep hb j2; replace j3 := keep hb j3; replace j4 := keep hb j4; replace k0 := keep hb k0; replace k1 := keep hb k1; replace k2 := keep hb k2; replace k3 := keep hb k3; replace k4 := keep hb k4; replace h1 := h1.bel hb; replace h2 := h2.bel hb; replace h3 := h3.bel hb; replace h4 := h4.bel hb; replace h5 := h5.bel hb; replace Bc := bl_trans Bc hb; replace j0 := up_alloc (o := .cells #[.float .f64 0, .float .f64 0, .float .f64 0, .float .f64 0, .float .f64 0] 29) j0; replace j1 := up_alloc (o := .cells #[.float .f64 0, .float .f64 0, .float .f64 0, .float .f64 0, .float .f64 0] 29) j1; replace j2 := up_alloc (o := .cells #[.float .f64 0, .float .f64 0, .float .f64 0, .float .f64 0, .float .f64 0] 29) j2; replace j3 := up_alloc (o := .cells #[.float .f64 0, .float .f64 0, .float .f64 0, .float .f64 0, .float .f64 0] 29) j3; replace j4 := up_alloc (o := .cells #[.float .f64 0, .float .f64 0, .float .f64 0, .float .f64 0, .float .f64 0] 29) j4; replace k0 := up_alloc (o := .cells #[.float .f64 0, .float .f64 0, .float .f64 0, .float .f64 0, .float .f64 0] 29) k0; replace k1 := up_alloc (o := .cells #[.float .f64 0, .float .f64 0, .float .f64 0, .float .f64 0, .float .f64 0] 29) k1; replace k2 := up_alloc (o := .cells #[.float .f64 0, .float .f64 0, .float .f64 0, .float .f64 0, .float .f64 0] 29) k2; replace k3 := up_alloc (o := .cells #[.float .f64 0, .float .f64 0, .float .f64 0, .float .f64 0, .float .f64 0] 29) k3; replace k4 := up_alloc (o := .cells #[.float .f64 0, .float .f64 0, .float .f64 0, .float .f64 0, .float .f64 0] 29) k4; replace Bc := bl_alloc Bc #[.float .f64 0, .float .f64 0, .float .f64 0, .float .f64 0, .float .f64 0] 29; replace h1 := h1.bel (bl_alloc (bl_refl _) #[.float .f64 0, .float .f64 0, .float .f64 0, .float .f64 0, .float .f64 0] 29); replace h2 := h2.bel (bl_alloc (bl_refl _) #[.float .f64 0, .float .f64 0, .float .f64 0, .float .f64 0, .float .f64 0] 29); replace h3 := h3.bel (bl_alloc (bl_refl _) #[.float .f64 0, .float .f64 0, .float .f64 0, .float .f64 0, .float .f64 0] 29); replace h4 := h4.bel (bl_alloc (bl_refl _) #[.float .f64 0, .float .f64 0, .float .f64 0, .float .f64 0, .float .f64 0] 29); replace h5 := h5.bel (bl_alloc (bl_refl _) #[.float .f64 0, .float .f64 0, .float .f64 0, .float .f64 0, .float .f64 0] 29); obtain ⟨l0, l1, l2, l3, l4⟩ := new5' cw8 29 (.float .f64 0) (.float .f64 0) (.float .f64 0) (.float .f64 0) (.float .f64 0); have cm8 := True.intro) | (have zn := cm6; clear zn; go_at_call 15; refine (c_b10 _).mono ?_; rintro e cw7 ⟨bh5, rfl, h5, hb⟩; replace j0 := keep hb j0; replace j1 := keep hb j1; replace j2 := keep hb j2; replace j3 := keep hb j3; replace j4 := keep hb j4; replace k0 := keep hb k0; replace k1 := keep hb k1; replace k2 := keep hb k2; replace k3 := keep hb k3; replace k4 := keep hb k4; replace h1 := h1.bel hb; replace h2 := h2.bel hb; replace h3 := h3.bel hb; replace h4 := h4.bel hb; replace Bc := bl_trans Bc hb; have cm7 := True.intro) | (have zn := cm5; clear zn; go_at_call 13; refine (x_cd _ _ _ h3 h4).mono ?_; rintro e cw6 ⟨rfl, hb⟩; replace j0 := keep hb j0; replace j1 := keep hb j1; replace j2 := keep hb j2; replace j3 := keep hb j3; replace j4 := keep hb j4; replace h1 := h1.bel hb; replace h2 := h2.bel hb; replace h3 := h3.bel hb; replace h4 := h4.bel hb; replace Bc := bl_trans Bc hb; replace j0 := up_alloc (o := .cells #[.float .f64 0, .float .f64 4607182418800017408, .float .f64 0, .float .f64 0, .float .f64 0] 29) j0; replace j1 := up_alloc (o := .cells #[.float .f64 0, .float .f64 4607182418800017408, .float .f64 0, .float .f64 0, .float .f64 0] 29) j1; replace j2 := up_alloc (o := .cells #[.float .f64 0, .float .f64 4607182418800017408, .float .f64 0, .float .f64 0, .float .f64 0] 29) j2; replace j3 := up_alloc (o := .cells #[.float .f64 0, .float .f64 4607182418800017408, .float .f64 0, .float .f64 0, .float .f64 0] 29) j3; replace j4 := up_alloc (o := .cells #[.float .f64 0, .float .f64 4607182418800017408, .float .f64 0, .float .f64 0, .float .f64 0] 29) j4; replace Bc := bl_alloc Bc #[.float .f64 0, .float .f64 4607182418800017408, .float .f64 0, .float .f64 0, .float .f64 0] 29; replace h1 := h1.bel (bl_alloc (bl_refl _) #[.float .f64 0, .float .f64 4607182418800017408, .float .f64 0, .float .f64 0, .float .f64 0] 29); replace h2 := h2.bel (bl_alloc (bl_refl _) #[.float .f64 0, .float .f64 4607182418800017408, .float .f64 0, .float .f64 0, .float .f64 0] 29); replace h3 := h3.bel (bl_alloc (bl_refl _) #[.float .f64 0, .float .f64 4607182418800017408, .float .f64 0, .float .f64 0, .float .f64 0] 29); replace h4 := h4.bel (bl_alloc (bl_refl _) #[.float .f64 0, .float .f64 4607182418800017408, .float .f64 0, .float .f64 0, .float .f64 0] 29); obtain ⟨k0, k1, k2, k3, k4⟩ := new5' cw6 29 (.float .f64 0) (.float .f64 4607182418800017408) (.float .f64 0) (.float .f64 0) (.float .f64 0); have cm6 := True.intro) | (have zn := cm4; clear zn; go_at_call 16; refine (of10 _ _ _ _ _ _).mono ?_; rintro e cw5 ⟨rfl, hb⟩; replace j0 := keep hb j0; replace j1 := keep hb j1; replace j2 := keep hb j2; replace j3 := keep hb j3; replace j4 := keep hb j4; replace h1 := h1.bel hb; replace h2 := h2.bel hb; replace h3 := h3.bel hb; replace Bc := bl_trans Bc hb; have h4 := any_row10 (by decide) (by decide) d_oks10 (LL.bel hb); have cm5 := True.intro) | (have zn := cm3; clear zn; go_at_call 8; refine (v10 _ _ _).mono ?_; rintro e cw4 ⟨rfl, hb⟩; replace j0 := keep hb j0; replace j1 := keep hb j1; replace j2 := keep hb j2; replace j3 := keep hb j3; replace j4 := keep hb j4; replace h1 := h1.bel hb; replace h2 := h2.bel hb; replace h3 := h3.bel hb; replace Bc := bl_trans Bc hb; have LL := d_laid10 cw4; replace j0 := up_alloc (o := .cells #[.float .f64 4607182418800017408, .float .f64 0] 24) j0; replace j1 := up_alloc (o := .cells #[.float .f64 4607182418800017408, .float .f64 0] 24) j1; replace j2 := up_alloc (o := .cells #[.float .f64 4607182418800017408, .float .f64 0] 24) j2; replace j3 := up_alloc (o := .cells #[.float .f64 4607182418800017408, .float .f64 0] 24) j3; replace j4 := up_alloc (o := .cells #[.float .f64 4607182418800017408, .float .f64 0] 24) j4; replace h1 := h1.bel (bl_alloc (bl_refl _) #[.float .f64 4607182418800017408, .float .f64 0] 24); replace h2 := h2.bel (bl_alloc (bl_refl _) #[.float .f64 4607182418800017408, .float .f64 0] 24); replace h3 := h3.bel (bl_alloc (bl_refl _) #[.float .f64 4607182418800017408, .float .f64 0] 24); replace Bc := bl_alloc Bc #[.float .f64 4607182418800017408, .float .f64 0] 24; have cm4 := True.intro) | (have zn := cm2; clear zn; go_at_call 15; refine (c_b10 _).mono ?_; rintro e cw3 ⟨bh3, rfl, h3, hb⟩; replace j0 := keep hb j0; replace j1 := keep hb j1; replace j2 := keep hb j2; replace j3 := keep hb j3; replace j4 := keep hb j4; replace h1 := h1.bel hb; replace h2 := h2.bel hb; replace Bc := bl_trans Bc hb; have cm3 := True.intro) | (have zn := cm1; clear zn; go_at_call 13; refine (x_ss _ _ _ h1 h2).mono ?_; rintro e cw2 ⟨rfl, hb⟩; replace h1 := h1.bel hb; replace h2 := h2.bel hb; replace Bc := bl_trans Bc hb; replace Bc := bl_alloc Bc #[.float .f64 0, .float .f64 0, .float .f64 4616189618054758400, .float .f64 0, .float .f64 4616189618054758400] 29; replace h1 := h1.bel (bl_alloc (bl_refl _) #[.float .f64 0, .float .f64 0, .float .f64 4616189618054758400, .float .f64 0, .float .f64 4616189618054758400] 29); replace h2 := h2.bel (bl_alloc (bl_refl _) #[.float .f64 0, .float .f64 0, .float .f64 4616189618054758400, .float .f64 0, .float .f64 4616189618054758400] 29); obtain ⟨j0, j1, j2, j3, j4⟩ := new5' cw2 29 (.float .f64 0) (.float .f64 0) (.float .f64 4616189618054758400) (.float .f64 0) (.float .f64 4616189618054758400); have cm2 := True.intro) | (have zn := cm0; clear zn; go_at_call 14; refine (s_b10 _).mono ?_; rintro e cw1 ⟨bh2, rfl, h2, hb⟩; replace h1 := h1.bel hb; replace Bc := bl_trans Bc hb; have cm1 := True.intro) | (go_at_call 14; refine (s_b10 _).mono ?_; rintro e cw0 ⟨bh1, rfl, h1, hb⟩; replace Bc := bl_trans Bc hb; have cm0 := True.intro))
  clear h1 h2 h3 h4 h5
  haveI := belBy_some (cw8.alloc (.cells #[.float .f64 0, .float .f64 0, .float .f64 0, .float .f64 0, .float .f64 0] 29))
  have yj0 := belBy_cell j0
  have yj1 := belBy_cell j1
  have yj2 := belBy_cell j2
  have yj3 := belBy_cell j3
  have yj4 := belBy_cell j4
  have yk0 := belBy_cell k0
  have yk1 := belBy_cell k1
  have yk2 := belBy_cell k2
  have yk3 := belBy_cell k3
  have yk4 := belBy_cell k4
  have yl0 := belBy_cell l0
  have yl1 := belBy_cell l1
  have yl2 := belBy_cell l2
  have yl3 := belBy_cell l3
  have yl4 := belBy_cell l4
  refine wp_region_quiet_bel (by kernel_rfl) (by kernel_rfl) ?_
  repeat (go_big_quiet_step (first | (go_at_call 8; exact calls_bel (v10 _ _ _)) | (go_at_call 17; exact calls_bel (alive10 _))))
  refine wpQuiet_nil ?_
  rintro _ ⟨nq3, rfl⟩
  go_wp2
  go_ret
  exact ⟨rfl, bl_trans Bc nq3.h⟩

set_option maxRecDepth 100000 in
theorem lifted (os : Os) (started : os.Started) (H : Type) (enc : TypeId × Value → H) :
    ReturnsInHanded {} Try.checked os 3 .any (Rows.nearNamesSpec.pre6 enc Try.prog Try.f3 Rows.nearNamesRow.domain false) (Rows.nearNamesSpec.post enc Try.prog Try.f3 false true false false) := by
  refine returnsInHanded_of_change (C := Try.checked) own started (by kernel_rfl) Try.func3
    (ChangeSpec.witness6 (enc := enc) (C := Try.checked) false ⟨#[], #[], []⟩ 8 (by kernel_rfl) (by kernel_rfl) (by kernel_rfl) (by kernel_rfl)) ?_
  intro W base args ds gs before hval0 hW hcnd _
  have hval : ∀ (j : Nat) t v, Try.f3.params[j]? = some t → args[j]? = some v → Value.okWide Try.prog W .any base t v := hval0
  have hW' := hW
  obtain ⟨p, q, hA0, hV, rfl, hfz, hnd⟩ := hW
  have hA : DataW.TrodAll enc Try.prog W 0 (fun _ => true) true Try.f3.params.toList args.toList ds p := hA0
  rw [Try.params3] at hA hval
  obtain ⟨rfl, rfl, rfl⟩ := trodAll_none hA
  obtain ⟨rfl, rfl⟩ := trodVars_none hV
  clear hA0 hval0
  simp only [List.append_nil] at hW'
  refine (walk   W).mono fun e W' ⟨he, hg0⟩ => ?_
  have hg := hg0.grown
  subst he
  exact ⟨_, rfl, post_of_same (pa := []) (pv := []) hW' (fun _ _ _ => (trodAll_cons_mk (shut_bool Try.underlying4 _) trodAll_mk0)) (fun sp _ => rfl) (fun _ _ => rfl) rfl
    (hg.frame _) hg.2.1 (ok_one (by kernel_rfl) rfl (okWide_bool_mk Try.underlying4 _))⟩

theorem over : Rows.nearNamesRow.holds Try.pinned (OpenSpec.ofChange Rows.nearNamesSpec) :=
  OpenClaim.holds_of_wide 3 Try.f3 rfl rfl rfl rfl rfl rfl rfl ⟨rfl, rfl, rfl, rfl, rfl⟩ rfl rfl rfl rfl rfl (by kernel_rfl) Try.func3 (by kernel_rfl)
    (of_decide_eq_true (by kernel_rfl)) (by unfold Func.isWrapper; first | (rw [if_pos (by decide +kernel)]; kernel_rfl) | (rw [if_neg (by decide +kernel)]; exact ⟨rfl, rfl⟩))
    (fun os started H enc _ => lifted os started H enc)

theorem proved : Rows.NearNamesSaid :=
  over
#print axioms proved
end Go.Proofs.Ytpedpgpgcmhnoab.nearNames
