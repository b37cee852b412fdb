/-
  NumRow: num.Order puts all floats in a row, in which just the same floats stand at one place, and which is Go's own order of numbers; for every three floats, no condition.
-/
import Derived.Test.YtpehgaojjfobeabRows
import Derived.Test.YtpehgaojjfobeabAlive
import Derived.WalkKit
import Derived.ProofKit
import Derived.OpenShut
import Derived.WalkLawsBesides
import Derived.WalkSpells
import Derived.Deep.RegionWith
namespace Go.Proofs.Ytpehgaojjfobeab.numRow
open Go.ChangeShapes Go.WideShapes Go.ChangeAt Go.RowKit
set_option linter.unusedVariables false

theorem own : ownKnob Try.prog.godebug = none := by kernel_rfl

set_option maxHeartbeats 4000000 in
theorem walk (a0 : Int) (a1 : Int) (a2 : Int) (w0 : (Lit.int .u64 a0).wf = true) (w1 : (Lit.int .u64 a1).wf = true) (w2 : (Lit.int .u64 a2).wf = true) (w : World) :
    Calls Try.prog 3 #[.int .u64 a0, .int .u64 a1, .int .u64 a2] w fun e w' => e = .returned (.bool true) ∧ Grown w w' := by
  obtain ⟨x, rfl, ox⟩ := wf_u64 w0
  obtain ⟨y, rfl, oy⟩ := wf_u64 w1
  obtain ⟨z, rfl, oz⟩ := wf_u64 w2
  clear w0 w1 w2
  have c1 := cmp_lt .f64
  have c2 := cmp_gt .f64
  have o1 := ord_rk x y ox oy
  have o2 := ord_rk y x oy ox
  have o3 := ord_rk y z oy oz
  have o4 := ord_rk x z ox oz
  have o5 := ord_rk x x ox ox
  have s1 := sm_rk x y ox oy
  have l1 := lt_rk x y
  have l2 := lt_rk y x
  generalize rkK x = X at *
  generalize rkK y = Y at *
  generalize rkK z = Z at *
  have t1 : X < Y ∨ X = Y ∨ Y < X := by omega
  have t2 : Y < Z ∨ Y = Z ∨ Z < Y := by omega
  have t3 : X < Z ∨ X = Z ∨ Z < X := by omega
  cases h1 : ltK .f64 x y <;> cases h2 : ltK .f64 y x <;> rcases t1 with t1 | t1 | t1 <;> rcases t2 with t2 | t2 | t2 <;> rcases t3 with t3 | t3 | t3
  all_goals first
    | (exfalso; have a1 := l1 h1; omega)
    | (exfalso; have a2 := l2 h2; omega)
    | (exfalso; omega)
    | skip
  all_goals
    first | rw [if_pos (by omega)] at o1 | rw [if_neg (by omega), if_pos (by omega)] at o1 | rw [if_neg (by omega), if_neg (by omega)] at o1
    first | rw [if_pos (by omega)] at o2 | rw [if_neg (by omega), if_pos (by omega)] at o2 | rw [if_neg (by omega), if_neg (by omega)] at o2
    first | rw [if_pos (by omega)] at o3 | rw [if_neg (by omega), if_pos (by omega)] at o3 | rw [if_neg (by omega), if_neg (by omega)] at o3
    first | rw [if_pos (by omega)] at o4 | rw [if_neg (by omega), if_pos (by omega)] at o4 | rw [if_neg (by omega), if_neg (by omega)] at o4
    rw [if_neg (by omega), if_neg (by omega)] at o5
    first | rw [decide_eq_true (by omega)] at s1 | rw [decide_eq_false (by omega)] at s1
    clear l1 l2 t1 t2 t3
    go_enter Try.func3, Try.ntmps3
    go_wp2_with (first | (go_at_call 8; refine (alive_any _).mono ?_; rintro e w' ⟨n, rfl, rfl⟩) | (go_at_call 6; refine (f_any _ _).mono ?_; rintro e w' ⟨rfl, rfl⟩) | (go_at_call 9; refine (same_6 _ _ _ (by assumption) (by assumption)).mono ?_; rintro e w' ⟨rfl, rfl⟩) | (go_at_call 15; refine (finite_6 _ _).mono ?_; rintro e w' ⟨n, rfl, rfl⟩) | (go_at_call 17; refine (within_6 _ _ _).mono ?_; rintro e w' ⟨rfl, rfl⟩) | (go_at_call 14; refine (clamp_6 _ _ _ _).mono ?_; rintro e w' ⟨rfl, rfl⟩) | (go_at_call 10; refine (least_6 _ _ _).mono ?_; rintro e w' ⟨rfl, rfl⟩) | (go_at_call 11; refine (most_6 _ _ _).mono ?_; rintro e w' ⟨rfl, rfl⟩) | (go_at_call 19; refine (sign_6 _ _).mono ?_; rintro e w' ⟨rfl, rfl⟩) | (go_at_call 7; refine (order_any _ _ _ (by assumption) (by assumption)).mono ?_; rintro e w' ⟨rfl, rfl⟩) | (go_at_call 13; refine (bits_any _ _).mono ?_; rintro e w' ⟨rfl, rfl⟩) | (go_at_call 12; refine (from_any _ _).mono ?_; rintro e w' ⟨rfl, rfl⟩) | (go_at_call 16; refine (between_any _ _ _ _).mono ?_; rintro e w' ⟨x1, x2, x3, n, hx1, hx2, hx3, rfl, rfl⟩; have ox3 := hx3.1))
    go_ret
    exact ⟨rfl, by repeat (first | exact Grown.refl _ | apply Grown.drew | apply Grown.alloc)⟩

set_option maxRecDepth 100000 in
theorem lifted (os : Os) (started : os.Started) (H : Type) (enc : TypeId × Value → H) :
    ReturnsInHanded {} Try.checked os 3 .any (Rows.numRowSpec.pre6 enc Try.prog Try.f3 Rows.numRowRow.domain false) (Rows.numRowSpec.post enc Try.prog Try.f3 false true false false) := by
  refine returnsInHanded_of_change (C := Try.checked) own started (by kernel_rfl) Try.func3
    (ChangeSpec.witness6 (enc := enc) (C := Try.checked) false ⟨#[], #[.int .u64 0, .int .u64 0, .int .u64 0], []⟩ 8 (by kernel_rfl) (by kernel_rfl) (by kernel_rfl) (by kernel_rfl)) ?_
  intro W base args ds gs before hval0 hW hcnd _
  have hval : ∀ (j : Nat) t v, Try.f3.params[j]? = some t → args[j]? = some v → Value.okWide Try.prog W .any base t v := hval0
  have hW' := hW
  obtain ⟨p, q, hA0, hV, rfl, hfz, hnd⟩ := hW
  have hA : DataW.TrodAll enc Try.prog W 0 (fun _ => true) true Try.f3.params.toList args.toList ds p := hA0
  rw [Try.params3] at hA hval
  obtain ⟨v0, vs0, d0, ds0, p0, q0, hargs, rfl, rfl, h0, r0⟩ := trodAll_cons hA
  obtain ⟨v1, vs1, d1, ds1, p1, q1, rfl, rfl, rfl, h1, r1⟩ := trodAll_cons r0
  obtain ⟨v2, vs2, d2, ds2, p2, q2, rfl, rfl, rfl, h2, r2⟩ := trodAll_cons r1
  obtain ⟨rfl, rfl, rfl⟩ := trodAll_nil r2
  obtain rfl : args = #[v0, v1, v2] := by cases args; simp_all
  obtain ⟨rfl, rfl⟩ := trodVars_none hV
  obtain ⟨a0, rfl, rfl, rfl, w0⟩ := open_int Try.underlying22 (hval 0 22 v0 rfl rfl) h0
  obtain ⟨a1, rfl, rfl, rfl, w1⟩ := open_int Try.underlying22 (hval 1 22 v1 rfl rfl) h1
  obtain ⟨a2, rfl, rfl, rfl, w2⟩ := open_int Try.underlying22 (hval 2 22 v2 rfl rfl) h2
  clear hA0 hval0
  simp only [List.append_nil] at hW'
  refine (walk a0 a1 a2 w0 w1 w2 W).mono fun e W' ⟨he, hg⟩ => ?_
  subst he
  exact ⟨_, rfl, post_of_same (pa := []) (pv := []) hW' (fun _ _ _ => (trodAll_cons_mk (shut_bool Try.underlying4 _) trodAll_mk0)) (fun sp _ => (trodAll_cons_mk (shut_int Try.underlying22 w0) (trodAll_cons_mk (shut_int Try.underlying22 w1) (trodAll_cons_mk (shut_int Try.underlying22 w2) trodAll_mk0)))) (fun _ _ => rfl) rfl
    (hg.frame _) hg.2.1 (ok_one (by kernel_rfl) rfl (okWide_bool_mk Try.underlying4 _))⟩

theorem over : Rows.numRowRow.holds Try.pinned (OpenSpec.ofChange Rows.numRowSpec) :=
  OpenClaim.holds_of_wide 3 Try.f3 rfl rfl rfl rfl rfl rfl rfl ⟨rfl, rfl, rfl, rfl, rfl⟩ rfl rfl rfl rfl rfl (by kernel_rfl) Try.func3 (by kernel_rfl)
    (of_decide_eq_true (by kernel_rfl)) (by unfold Func.isWrapper; first | (rw [if_pos (by decide +kernel)]; kernel_rfl) | (rw [if_neg (by decide +kernel)]; exact ⟨rfl, rfl⟩))
    (fun os started H enc _ => lifted os started H enc)

theorem proved : Rows.NumRowSaid :=
  over
#print axioms proved
end Go.Proofs.Ytpehgaojjfobeab.numRow
