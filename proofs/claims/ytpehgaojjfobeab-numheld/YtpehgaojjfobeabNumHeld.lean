/-
  NumHeld: what num.Clamp answers lies within the bounds, num.From of num.Bits is the same float, num.Between at 0 of finite ends is as great as the first, num.Within of infinity tells numbers, num.Sign turns with the sign; for every three floats, no condition.
-/
import Derived.Test.YtpehgaojjfobeabRows
import Derived.Test.YtpehgaojjfobeabAlive
import Derived.WalkKit
import Derived.ProofKit
import Derived.OpenShut
import Derived.WalkLawsBesides
import Derived.WalkSpells
import Derived.Deep.RegionWith
namespace Go.Proofs.Ytpehgaojjfobeab.numHeld
open Go.ChangeShapes Go.WideShapes Go.ChangeAt Go.RowKit
set_option linter.unusedVariables false

theorem own : ownKnob Try.prog.godebug = none := by kernel_rfl

theorem between_nought (a b : Nat) (w w1 : World) (ha : finK .f64 a = true) (hd : finK .f64 (fv .sub .f64 b a w1) = true) : Calls Try.prog 16 #[.float .f64 a, .float .f64 b, .float .f64 0] w fun e w' => ∃ z n, eqK .f64 z a = true ∧ e = .returned (.float .f64 z) ∧ w' = w.drewN n := by
  refine (between_any _ _ _ _).mono ?_
  rintro e w' ⟨x, y, z, n, h1, h2, h3, rfl, rfl⟩
  have hx : finK .f64 x = true := by
    rw [← hd]
    exact fin_sm (res_congr (smK_self _ _) (smK_self _ _) h1 (fv_res _ _ _ _ _))
  exact ⟨z, n, add_nought .f64 a y z ha (nought_mul .f64 x y hx h2) h3, rfl, rfl⟩

set_option maxHeartbeats 2000000 in
theorem walk (a0 : Int) (a1 : Int) (a2 : Int) (w0 : (Lit.int .u64 a0).wf = true) (w1 : (Lit.int .u64 a1).wf = true) (w2 : (Lit.int .u64 a2).wf = true) (w : World) :
    Calls Try.prog 5 #[.int .u64 a0, .int .u64 a1, .int .u64 a2] w fun e w' => e = .returned (.bool true) ∧ Grown w w' := by
  obtain ⟨x, rfl, ox⟩ := wf_u64 w0
  obtain ⟨y, rfl, oy⟩ := wf_u64 w1
  obtain ⟨z, rfl, oz⟩ := wf_u64 w2
  clear w0 w1 w2
  have c1 := cmp_eq .f64
  have c2 := cmp_ne .f64
  have c3 := cmp_le1 .f64
  have c4 := run_sub Try.prog
  have c5 := run_neg Try.prog
  have s0 := eqK_self .f64
  have b1 := bits_sm x
  have obx : okK .f64 (bitsK x) := by
    unfold bitsK
    split
    · rw [okK64]; omega
    · exact ox
  have g1 := sg_neg x ox
  have i1 := within_inf x
  have g2 : -1 ≤ sgK .f64 x ∧ sgK .f64 x ≤ 1 := by unfold sgK; split; omega; split <;> omega
  obtain ⟨g3, g4⟩ := g2
  cases h1 : leK .f64 y z
  · cases h2 : finK .f64 x <;> cases h3 : finK .f64 z
    all_goals
      go_enter Try.func5, Try.ntmps5
      go_wp2_with (first | (go_at_call 8; refine (alive_any _).mono ?_; rintro e w' ⟨n, rfl, rfl⟩) | (go_at_call 18; refine (inf_pos _).mono ?_; rintro e w' ⟨rfl, rfl⟩) | (go_at_call 16; refine (between_nought _ _ _ _ (by assumption) (by assumption)).mono ?_; rintro e w' ⟨z, n, hz, rfl, rfl⟩) | (go_at_call 6; refine (f_any _ _).mono ?_; rintro e w' ⟨rfl, rfl⟩) | (go_at_call 9; refine (same_6 _ _ _ (by assumption) (by assumption)).mono ?_; rintro e w' ⟨rfl, rfl⟩) | (go_at_call 15; refine (finite_6 _ _).mono ?_; rintro e w' ⟨n, rfl, rfl⟩) | (go_at_call 17; refine (within_6 _ _ _).mono ?_; rintro e w' ⟨rfl, rfl⟩) | (go_at_call 14; refine (clamp_6 _ _ _ _).mono ?_; rintro e w' ⟨rfl, rfl⟩) | (go_at_call 10; refine (least_6 _ _ _).mono ?_; rintro e w' ⟨rfl, rfl⟩) | (go_at_call 11; refine (most_6 _ _ _).mono ?_; rintro e w' ⟨rfl, rfl⟩) | (go_at_call 19; refine (sign_6 _ _).mono ?_; rintro e w' ⟨rfl, rfl⟩) | (go_at_call 7; refine (order_any _ _ _ (by assumption) (by assumption)).mono ?_; rintro e w' ⟨rfl, rfl⟩) | (go_at_call 13; refine (bits_any _ _).mono ?_; rintro e w' ⟨rfl, rfl⟩) | (go_at_call 12; refine (from_any _ _).mono ?_; rintro e w' ⟨rfl, rfl⟩) | (go_at_call 16; refine (between_any _ _ _ _).mono ?_; rintro e w' ⟨x1, x2, x3, n, hx1, hx2, hx3, rfl, rfl⟩; have ox3 := hx3.1))
      all_goals
        go_ret
        exact ⟨rfl, by repeat (first | exact Grown.refl _ | apply Grown.drew | apply Grown.alloc)⟩
  · obtain ⟨k1, k2, k3⟩ := clK_held x y z h1
    cases h4 : leK .f64 y x
    · clear k3
      cases h2 : finK .f64 x <;> cases h3 : finK .f64 z
      all_goals
        go_enter Try.func5, Try.ntmps5
        go_wp2_with (first | (go_at_call 8; refine (alive_any _).mono ?_; rintro e w' ⟨n, rfl, rfl⟩) | (go_at_call 18; refine (inf_pos _).mono ?_; rintro e w' ⟨rfl, rfl⟩) | (go_at_call 16; refine (between_nought _ _ _ _ (by assumption) (by assumption)).mono ?_; rintro e w' ⟨z, n, hz, rfl, rfl⟩) | (go_at_call 6; refine (f_any _ _).mono ?_; rintro e w' ⟨rfl, rfl⟩) | (go_at_call 9; refine (same_6 _ _ _ (by assumption) (by assumption)).mono ?_; rintro e w' ⟨rfl, rfl⟩) | (go_at_call 15; refine (finite_6 _ _).mono ?_; rintro e w' ⟨n, rfl, rfl⟩) | (go_at_call 17; refine (within_6 _ _ _).mono ?_; rintro e w' ⟨rfl, rfl⟩) | (go_at_call 14; refine (clamp_6 _ _ _ _).mono ?_; rintro e w' ⟨rfl, rfl⟩) | (go_at_call 10; refine (least_6 _ _ _).mono ?_; rintro e w' ⟨rfl, rfl⟩) | (go_at_call 11; refine (most_6 _ _ _).mono ?_; rintro e w' ⟨rfl, rfl⟩) | (go_at_call 19; refine (sign_6 _ _).mono ?_; rintro e w' ⟨rfl, rfl⟩) | (go_at_call 7; refine (order_any _ _ _ (by assumption) (by assumption)).mono ?_; rintro e w' ⟨rfl, rfl⟩) | (go_at_call 13; refine (bits_any _ _).mono ?_; rintro e w' ⟨rfl, rfl⟩) | (go_at_call 12; refine (from_any _ _).mono ?_; rintro e w' ⟨rfl, rfl⟩) | (go_at_call 16; refine (between_any _ _ _ _).mono ?_; rintro e w' ⟨x1, x2, x3, n, hx1, hx2, hx3, rfl, rfl⟩; have ox3 := hx3.1))
        all_goals
          go_ret
          exact ⟨rfl, by repeat (first | exact Grown.refl _ | apply Grown.drew | apply Grown.alloc)⟩
    · cases h5 : leK .f64 x z
      · clear k3
        cases h2 : finK .f64 x <;> cases h3 : finK .f64 z
        all_goals
          go_enter Try.func5, Try.ntmps5
          go_wp2_with (first | (go_at_call 8; refine (alive_any _).mono ?_; rintro e w' ⟨n, rfl, rfl⟩) | (go_at_call 18; refine (inf_pos _).mono ?_; rintro e w' ⟨rfl, rfl⟩) | (go_at_call 16; refine (between_nought _ _ _ _ (by assumption) (by assumption)).mono ?_; rintro e w' ⟨z, n, hz, rfl, rfl⟩) | (go_at_call 6; refine (f_any _ _).mono ?_; rintro e w' ⟨rfl, rfl⟩) | (go_at_call 9; refine (same_6 _ _ _ (by assumption) (by assumption)).mono ?_; rintro e w' ⟨rfl, rfl⟩) | (go_at_call 15; refine (finite_6 _ _).mono ?_; rintro e w' ⟨n, rfl, rfl⟩) | (go_at_call 17; refine (within_6 _ _ _).mono ?_; rintro e w' ⟨rfl, rfl⟩) | (go_at_call 14; refine (clamp_6 _ _ _ _).mono ?_; rintro e w' ⟨rfl, rfl⟩) | (go_at_call 10; refine (least_6 _ _ _).mono ?_; rintro e w' ⟨rfl, rfl⟩) | (go_at_call 11; refine (most_6 _ _ _).mono ?_; rintro e w' ⟨rfl, rfl⟩) | (go_at_call 19; refine (sign_6 _ _).mono ?_; rintro e w' ⟨rfl, rfl⟩) | (go_at_call 7; refine (order_any _ _ _ (by assumption) (by assumption)).mono ?_; rintro e w' ⟨rfl, rfl⟩) | (go_at_call 13; refine (bits_any _ _).mono ?_; rintro e w' ⟨rfl, rfl⟩) | (go_at_call 12; refine (from_any _ _).mono ?_; rintro e w' ⟨rfl, rfl⟩) | (go_at_call 16; refine (between_any _ _ _ _).mono ?_; rintro e w' ⟨x1, x2, x3, n, hx1, hx2, hx3, rfl, rfl⟩; have ox3 := hx3.1))
          all_goals
            go_ret
            exact ⟨rfl, by repeat (first | exact Grown.refl _ | apply Grown.drew | apply Grown.alloc)⟩
      · have k4 := k3 h4 h5
        clear k3
        cases h2 : finK .f64 x <;> cases h3 : finK .f64 z
        all_goals
          go_enter Try.func5, Try.ntmps5
          go_wp2_with (first | (go_at_call 8; refine (alive_any _).mono ?_; rintro e w' ⟨n, rfl, rfl⟩) | (go_at_call 18; refine (inf_pos _).mono ?_; rintro e w' ⟨rfl, rfl⟩) | (go_at_call 16; refine (between_nought _ _ _ _ (by assumption) (by assumption)).mono ?_; rintro e w' ⟨z, n, hz, rfl, rfl⟩) | (go_at_call 6; refine (f_any _ _).mono ?_; rintro e w' ⟨rfl, rfl⟩) | (go_at_call 9; refine (same_6 _ _ _ (by assumption) (by assumption)).mono ?_; rintro e w' ⟨rfl, rfl⟩) | (go_at_call 15; refine (finite_6 _ _).mono ?_; rintro e w' ⟨n, rfl, rfl⟩) | (go_at_call 17; refine (within_6 _ _ _).mono ?_; rintro e w' ⟨rfl, rfl⟩) | (go_at_call 14; refine (clamp_6 _ _ _ _).mono ?_; rintro e w' ⟨rfl, rfl⟩) | (go_at_call 10; refine (least_6 _ _ _).mono ?_; rintro e w' ⟨rfl, rfl⟩) | (go_at_call 11; refine (most_6 _ _ _).mono ?_; rintro e w' ⟨rfl, rfl⟩) | (go_at_call 19; refine (sign_6 _ _).mono ?_; rintro e w' ⟨rfl, rfl⟩) | (go_at_call 7; refine (order_any _ _ _ (by assumption) (by assumption)).mono ?_; rintro e w' ⟨rfl, rfl⟩) | (go_at_call 13; refine (bits_any _ _).mono ?_; rintro e w' ⟨rfl, rfl⟩) | (go_at_call 12; refine (from_any _ _).mono ?_; rintro e w' ⟨rfl, rfl⟩) | (go_at_call 16; refine (between_any _ _ _ _).mono ?_; rintro e w' ⟨x1, x2, x3, n, hx1, hx2, hx3, rfl, rfl⟩; have ox3 := hx3.1))
          all_goals
            go_ret
            exact ⟨rfl, by repeat (first | exact Grown.refl _ | apply Grown.drew | apply Grown.alloc)⟩

set_option maxRecDepth 100000 in
theorem lifted (os : Os) (started : os.Started) (H : Type) (enc : TypeId × Value → H) :
    ReturnsInHanded {} Try.checked os 5 .any (Rows.numHeldSpec.pre6 enc Try.prog Try.f5 Rows.numHeldRow.domain false) (Rows.numHeldSpec.post enc Try.prog Try.f5 false true false false) := by
  refine returnsInHanded_of_change (C := Try.checked) own started (by kernel_rfl) Try.func5
    (ChangeSpec.witness6 (enc := enc) (C := Try.checked) false ⟨#[], #[.int .u64 0, .int .u64 0, .int .u64 0], []⟩ 8 (by kernel_rfl) (by kernel_rfl) (by kernel_rfl) (by kernel_rfl)) ?_
  intro W base args ds gs before hval0 hW hcnd _
  have hval : ∀ (j : Nat) t v, Try.f5.params[j]? = some t → args[j]? = some v → Value.okWide Try.prog W .any base t v := hval0
  have hW' := hW
  obtain ⟨p, q, hA0, hV, rfl, hfz, hnd⟩ := hW
  have hA : DataW.TrodAll enc Try.prog W 0 (fun _ => true) true Try.f5.params.toList args.toList ds p := hA0
  rw [Try.params5] at hA hval
  obtain ⟨v0, vs0, d0, ds0, p0, q0, hargs, rfl, rfl, h0, r0⟩ := trodAll_cons hA
  obtain ⟨v1, vs1, d1, ds1, p1, q1, rfl, rfl, rfl, h1, r1⟩ := trodAll_cons r0
  obtain ⟨v2, vs2, d2, ds2, p2, q2, rfl, rfl, rfl, h2, r2⟩ := trodAll_cons r1
  obtain ⟨rfl, rfl, rfl⟩ := trodAll_nil r2
  obtain rfl : args = #[v0, v1, v2] := by cases args; simp_all
  obtain ⟨rfl, rfl⟩ := trodVars_none hV
  obtain ⟨a0, rfl, rfl, rfl, w0⟩ := open_int Try.underlying22 (hval 0 22 v0 rfl rfl) h0
  obtain ⟨a1, rfl, rfl, rfl, w1⟩ := open_int Try.underlying22 (hval 1 22 v1 rfl rfl) h1
  obtain ⟨a2, rfl, rfl, rfl, w2⟩ := open_int Try.underlying22 (hval 2 22 v2 rfl rfl) h2
  clear hA0 hval0
  simp only [List.append_nil] at hW'
  refine (walk a0 a1 a2 w0 w1 w2 W).mono fun e W' ⟨he, hg⟩ => ?_
  subst he
  exact ⟨_, rfl, post_of_same (pa := []) (pv := []) hW' (fun _ _ _ => (trodAll_cons_mk (shut_bool Try.underlying4 _) trodAll_mk0)) (fun sp _ => (trodAll_cons_mk (shut_int Try.underlying22 w0) (trodAll_cons_mk (shut_int Try.underlying22 w1) (trodAll_cons_mk (shut_int Try.underlying22 w2) trodAll_mk0)))) (fun _ _ => rfl) rfl
    (hg.frame _) hg.2.1 (ok_one (by kernel_rfl) rfl (okWide_bool_mk Try.underlying4 _))⟩

theorem over : Rows.numHeldRow.holds Try.pinned (OpenSpec.ofChange Rows.numHeldSpec) :=
  OpenClaim.holds_of_wide 5 Try.f5 rfl rfl rfl rfl rfl rfl rfl ⟨rfl, rfl, rfl, rfl, rfl⟩ rfl rfl rfl rfl rfl (by kernel_rfl) Try.func5 (by kernel_rfl)
    (of_decide_eq_true (by kernel_rfl)) (by unfold Func.isWrapper; first | (rw [if_pos (by decide +kernel)]; kernel_rfl) | (rw [if_neg (by decide +kernel)]; exact ⟨rfl, rfl⟩))
    (fun os started H enc _ => lifted os started H enc)

theorem proved : Rows.NumHeldSaid :=
  over
#print axioms proved
end Go.Proofs.Ytpehgaojjfobeab.numHeld
