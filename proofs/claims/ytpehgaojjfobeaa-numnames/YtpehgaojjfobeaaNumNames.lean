/-
  NumNames: the chapter's examples hold of package num, as they stand; no input, no condition.
-/
import Derived.Test.YtpehgaojjfobeaaRows
import Derived.Test.YtpehgaojjfobeaaAlive
import Derived.WalkKit
import Derived.ProofKit
import Derived.OpenShut
import Derived.WalkLawsBesides
import Derived.WalkSpells
import Derived.Deep.RegionWith
namespace Go.Proofs.Ytpehgaojjfobeaa.numNames
open Go.ChangeShapes Go.WideShapes Go.ChangeAt Go.RowKit
set_option linter.unusedVariables false

theorem own : ownKnob Try.prog.godebug = none := by kernel_rfl

theorem names_between (w : World) : Calls Try.prog 21 #[.float .f64 4607182418800017408, .float .f64 9218868437227405312, .float .f64 0] w fun e w' => ∃ z n, nanK .f64 z = true ∧ e = .returned (.float .f64 z) ∧ w' = w.drewN n := by
  refine (between_any _ _ _ _).mono ?_
  rintro e w' ⟨x, y, z, n, h1, h2, h3, rfl, rfl⟩
  have e1 := res_some h1 (show floatBits .sub .f64 9218868437227405312 4607182418800017408 = some 9218868437227405312 by decide +kernel)
  subst e1
  have e2 : floatBits .mul .f64 0 9218868437227405312 = none := by decide +kernel
  have hy : nanK .f64 y = true := by
    rcases h2.2 with h | h
    · rw [e2] at h; cases h
    · exact h.2
  have hz : nanK .f64 z = true := by
    rcases h3.2 with h | h
    · rw [floatBits_nan_r _ _ _ _ hy] at h; cases h
    · exact h.2
  exact ⟨z, n, hz, rfl, rfl⟩

theorem names_sum (w : World) : Calls Try.prog 19 #[.slice (some ⟨w.heap.size, 0, none⟩) 1 1] (w.alloc (.cells #[.float .f64 9223372036854775808] 22)) fun e w' => ∃ n, e = .returned (.float .f64 9223372036854775808) ∧ w' = (w.alloc (.cells #[.float .f64 9223372036854775808] 22)).drewN n := by
  refine (sum_some w.heap.size 0 0 1 (fun _ => 9223372036854775808) _ (by decide) (by omega) ?_).mono ?_
  · intro i hi
    match i, hi with
    | 0, _ => simp
  · rintro e w' ⟨s, m, ⟨f, f0, f2, hf⟩, rfl, rfl⟩
    rw [← f2, f0]
    exact ⟨m, rfl, rfl⟩

theorem walk  (w : World) :
    Calls Try.prog 3 #[] w fun e w' => e = .returned (.bool true) ∧ Grown w w' := by
  have c1 := cmp_eq .f64
  have c2 := cmp_ne .f64
  have c3 := run_neg Try.prog
  have o2 : okK .f64 9221120237041090561 := by rw [okK64]; omega
  have s0 := eqK_self .f64
  have t1 : finK .f64 9218868437227405312 = false := by decide +kernel
  have t2 : finK .f64 9221120237041090561 = false := by decide +kernel
  have t3 : finK .f64 9223372036854775808 = true := by decide +kernel
  have t4 : withinK .f64 13835058055282163712 4611686018427387904 = true := by decide +kernel
  have t5 : withinK .f64 9221120237041090561 4611686018427387904 = false := by decide +kernel
  have t6 : withinK .f64 0 13830554455654793216 = false := by decide +kernel
  have t7 : withinK .f64 9218868437227405312 9218868437227405312 = true := by decide +kernel
  have t8 : clK .f64 9223372036854775808 0 4613937818241073152 = 0 := by decide +kernel
  have t9 : clK .f64 4607182418800017408 9221120237041090561 4613937818241073152 = 9221120237041090561 := by decide +kernel
  have t10 : mostK .f64 9221120237041090561 9221120237041090561 = 9221120237041090561 := by decide +kernel
  have t11 : ngK .f64 0 = false := by decide +kernel
  have t12 : clK .f64 4617315517961601024 0 9221120237041090561 = 4617315517961601024 := by decide +kernel
  have t13 : nanK .f64 4617315517961601024 = false := by decide +kernel
  have t14 : mostK .f64 9223372036854775808 0 = 0 := by decide +kernel
  have t15 : sgK .f64 9223372036854775808 = 0 := by decide +kernel
  have t16 : sgK .f64 9221120237041090561 = 0 := by decide +kernel
  have t17 : sgK .f64 (Op.negFloat .f64 9218868437227405312) = -1 := by decide +kernel
  have t18 : ordK 9221120237041090561 9221120237041090561 = 0 := by decide +kernel
  have t19 : nanK .f64 0 = false := by decide +kernel
  have t20 : ngK .f64 9223372036854775808 = true := by decide +kernel
  have t21 : bitsK 4607182418800017408 = 4607182418800017408 := by decide +kernel
  have t22 : nanK .f64 9221120237041090561 = true := by decide +kernel
  go_enter Try.func3, Try.ntmps3
  go_wp2_with (first | (go_at_call 9; refine (copysign_mz _).mono ?_; rintro e w' ⟨rfl, rfl⟩) | (go_at_call 10; refine (nan_any _).mono ?_; rintro e w' ⟨rfl, rfl⟩) | (go_at_call 11; refine (inf_pos _).mono ?_; rintro e w' ⟨rfl, rfl⟩) | (go_at_call 16; refine (signbit_any _ _).mono ?_; rintro e w' ⟨rfl, rfl⟩) | (go_at_call 21; refine (names_between _).mono ?_; rintro e w' ⟨z, n, hz, rfl, rfl⟩) | (go_at_call_of 19 (Value.slice none 0 0); refine (sum_none _ _ _).mono ?_; rintro e w' ⟨rfl, rfl⟩) | (go_at_call 19; refine (names_sum _).mono ?_; rintro e w' ⟨n, rfl, rfl⟩) | (go_at_call 22; refine (alive_any _).mono ?_; rintro e w' ⟨n, rfl, rfl⟩) | (go_at_call 23; refine (f_any _ _).mono ?_; rintro e w' ⟨rfl, rfl⟩) | (go_at_call 24; refine (g_any _ _).mono ?_; rintro e w' ⟨rfl, rfl⟩) | (go_at_call 29; refine (wide_any _ _).mono ?_; rintro e w' ⟨X, n, hX, rfl, rfl⟩; have oX := wid_ok hX) | (go_at_call 25; refine (same_6 _ _ _ (by assumption) (by assumption)).mono ?_; rintro e w' ⟨rfl, rfl⟩) | (go_at_call 12; refine (finite_6 _ _).mono ?_; rintro e w' ⟨n, rfl, rfl⟩) | (go_at_call 13; refine (within_6 _ _ _).mono ?_; rintro e w' ⟨rfl, rfl⟩) | (go_at_call 14; refine (clamp_6 _ _ _ _).mono ?_; rintro e w' ⟨rfl, rfl⟩) | (go_at_call 43; refine (least_6 _ _ _).mono ?_; rintro e w' ⟨rfl, rfl⟩) | (go_at_call 15; refine (most_6 _ _ _).mono ?_; rintro e w' ⟨rfl, rfl⟩) | (go_at_call 17; refine (sign_6 _ _).mono ?_; rintro e w' ⟨rfl, rfl⟩) | (go_at_call 27; refine (same_h _ _ _ (by assumption) (by assumption)).mono ?_; rintro e w' ⟨rfl, rfl⟩) | (go_at_call 32; refine (finite_h _ _).mono ?_; rintro e w' ⟨n, rfl, rfl⟩) | (go_at_call 36; refine (within_h _ _ _).mono ?_; rintro e w' ⟨rfl, rfl⟩) | (go_at_call 40; refine (clamp_h _ _ _ _).mono ?_; rintro e w' ⟨rfl, rfl⟩) | (go_at_call 46; refine (least_h _ _ _).mono ?_; rintro e w' ⟨rfl, rfl⟩) | (go_at_call 47; refine (most_h _ _ _).mono ?_; rintro e w' ⟨rfl, rfl⟩) | (go_at_call 52; refine (sign_h _ _).mono ?_; rintro e w' ⟨rfl, rfl⟩) | (go_at_call 28; refine (same_3 _ _ _ (by assumption) (by assumption)).mono ?_; rintro e w' ⟨rfl, rfl⟩) | (go_at_call 33; refine (finite_3 _ _).mono ?_; rintro e w' ⟨n, rfl, rfl⟩) | (go_at_call 37; refine (within_3 _ _ _).mono ?_; rintro e w' ⟨rfl, rfl⟩) | (go_at_call 41; refine (clamp_3 _ _ _ _).mono ?_; rintro e w' ⟨rfl, rfl⟩) | (go_at_call 48; refine (least_3 _ _ _).mono ?_; rintro e w' ⟨rfl, rfl⟩) | (go_at_call 49; refine (most_3 _ _ _).mono ?_; rintro e w' ⟨rfl, rfl⟩) | (go_at_call 53; refine (sign_3 _ _).mono ?_; rintro e w' ⟨rfl, rfl⟩) | (go_at_call 30; refine (same_l _ _ _ (by assumption) (by assumption)).mono ?_; rintro e w' ⟨rfl, rfl⟩) | (go_at_call 34; refine (finite_l _ _).mono ?_; rintro e w' ⟨n, rfl, rfl⟩) | (go_at_call 38; refine (within_l _ _ _).mono ?_; rintro e w' ⟨rfl, rfl⟩) | (go_at_call 42; refine (clamp_l _ _ _ _).mono ?_; rintro e w' ⟨rfl, rfl⟩) | (go_at_call 50; refine (most_l _ _ _).mono ?_; rintro e w' ⟨rfl, rfl⟩) | (go_at_call 54; refine (sign_l _ _).mono ?_; rintro e w' ⟨rfl, rfl⟩) | (go_at_call 18; refine (order_any _ _ _ (by assumption) (by assumption)).mono ?_; rintro e w' ⟨rfl, rfl⟩) | (go_at_call 20; refine (bits_any _ _).mono ?_; rintro e w' ⟨rfl, rfl⟩) | (go_at_call 57; refine (from_any _ _).mono ?_; rintro e w' ⟨rfl, rfl⟩) | (go_at_call 21; refine (between_any _ _ _ _).mono ?_; rintro e w' ⟨x1, x2, x3, n, hx1, hx2, hx3, rfl, rfl⟩; have ox3 := hx3.1) | (go_at_call 58; refine (rBetween_any _ _ _ _).mono ?_; rintro e w' ⟨y1, y2, y3, n, hy1, hy2, hy3, rfl, rfl⟩; have oy3 := hy3.1) | (go_at_call 26; refine (rSame_wid (by assumption) (by assumption) (by assumption) (by assumption) _).mono ?_; rintro e w' ⟨rfl, rfl⟩) | (go_at_call 31; refine (rFinite_wid (by assumption) _).mono ?_; rintro e w' ⟨rfl, rfl⟩) | (go_at_call 35; refine (rWithin_wid (by assumption) (by assumption) (by assumption) _).mono ?_; rintro e w' ⟨rfl, rfl⟩) | (go_at_call 51; refine (rSign_wid (by assumption) _).mono ?_; rintro e w' ⟨rfl, rfl⟩) | (go_at_call 39; refine (rClamp_wid (by assumption) (by assumption) (by assumption) _).mono ?_; rintro e w' ⟨X, hX, rfl, rfl⟩; have oX := wid_ok hX) | (go_at_call 44; refine (rLeast_wid (by assumption) (by assumption) _).mono ?_; rintro e w' ⟨X, hX, rfl, rfl⟩; have oX := wid_ok hX) | (go_at_call 45; refine (rMost_wid (by assumption) (by assumption) _).mono ?_; rintro e w' ⟨X, hX, rfl, rfl⟩; have oX := wid_ok hX) | (go_at_call 26; refine (rSame_any _ _ _ (by assumption) (by assumption)).mono ?_; rintro e w' ⟨rfl, rfl⟩) | (go_at_call 31; refine (rFinite_any _ _ (by assumption)).mono ?_; rintro e w' ⟨rfl, rfl⟩) | (go_at_call 35; refine (rWithin_any _ _ _ (by assumption) (by assumption)).mono ?_; rintro e w' ⟨rfl, rfl⟩) | (go_at_call 39; refine (rClamp_any _ _ _ _ (by assumption) (by assumption) (by assumption)).mono ?_; rintro e w' ⟨rfl, rfl⟩) | (go_at_call 44; refine (rLeast_any _ _ _ (by assumption) (by assumption)).mono ?_; rintro e w' ⟨rfl, rfl⟩) | (go_at_call 45; refine (rMost_any _ _ _ (by assumption) (by assumption)).mono ?_; rintro e w' ⟨rfl, rfl⟩) | (go_at_call 51; refine (rSign_any _ _ (by assumption)).mono ?_; rintro e w' ⟨rfl, rfl⟩) | (go_at_call 55; refine (rOrder_any _ _ _ (by assumption) (by assumption)).mono ?_; rintro e w' ⟨rfl, rfl⟩) | (go_at_call 56; refine (rBits_any _ _ (by assumption)).mono ?_; rintro e w' ⟨rfl, rfl⟩))
  go_ret
  exact ⟨rfl, by repeat (first | exact Grown.refl _ | apply Grown.drew | apply Grown.alloc)⟩

set_option maxRecDepth 100000 in
theorem lifted (os : Os) (started : os.Started) (H : Type) (enc : TypeId × Value → H) :
    ReturnsInHanded {} Try.checked os 3 .any (Rows.numNamesSpec.pre6 enc Try.prog Try.f3 Rows.numNamesRow.domain false) (Rows.numNamesSpec.post enc Try.prog Try.f3 false true false false) := by
  refine returnsInHanded_of_change (C := Try.checked) own started (by kernel_rfl) Try.func3
    (ChangeSpec.witness6 (enc := enc) (C := Try.checked) false ⟨#[], #[], []⟩ 8 (by kernel_rfl) (by kernel_rfl) (by kernel_rfl) (by kernel_rfl)) ?_
  intro W base args ds gs before hval0 hW hcnd _
  have hval : ∀ (j : Nat) t v, Try.f3.params[j]? = some t → args[j]? = some v → Value.okWide Try.prog W .any base t v := hval0
  have hW' := hW
  obtain ⟨p, q, hA0, hV, rfl, hfz, hnd⟩ := hW
  have hA : DataW.TrodAll enc Try.prog W 0 (fun _ => true) true Try.f3.params.toList args.toList ds p := hA0
  rw [Try.params3] at hA hval
  obtain ⟨rfl, rfl, rfl⟩ := trodAll_none hA
  obtain ⟨rfl, rfl⟩ := trodVars_none hV
  clear hA0 hval0
  simp only [List.append_nil] at hW'
  refine (walk  W).mono fun e W' ⟨he, hg⟩ => ?_
  subst he
  exact ⟨_, rfl, post_of_same (pa := []) (pv := []) hW' (fun _ _ _ => (trodAll_cons_mk (shut_bool Try.underlying4 _) trodAll_mk0)) (fun sp _ => rfl) (fun _ _ => rfl) rfl
    (hg.frame _) hg.2.1 (ok_one (by kernel_rfl) rfl (okWide_bool_mk Try.underlying4 _))⟩

theorem over : Rows.numNamesRow.holds Try.pinned (OpenSpec.ofChange Rows.numNamesSpec) :=
  OpenClaim.holds_of_wide 3 Try.f3 rfl rfl rfl rfl rfl rfl rfl ⟨rfl, rfl, rfl, rfl, rfl⟩ rfl rfl rfl rfl rfl (by kernel_rfl) Try.func3 (by kernel_rfl)
    (of_decide_eq_true (by kernel_rfl)) (by unfold Func.isWrapper; first | (rw [if_pos (by decide +kernel)]; kernel_rfl) | (rw [if_neg (by decide +kernel)]; exact ⟨rfl, rfl⟩))
    (fun os started H enc _ => lifted os started H enc)

theorem proved : Rows.NumNamesSaid :=
  over
#print axioms proved
end Go.Proofs.Ytpehgaojjfobeaa.numNames
