/-
  FrameNames: the limits and the errors have their numbers, the chapter's examples come out as it says; it takes no input.
-/
import Derived.Test.YtoljkokcgmigeaaRows
import Derived.Test.YtoljkokcgmigeaaFalive
import Derived.WalkKit
import Derived.ProofKit
import Derived.OpenShut
import Derived.WalkLawsBesides
import Derived.WalkSpells
import Derived.Lib.SmallJoins
import Derived.Laws.Cover2
import Derived.Laws.Cover3
import Derived.Deep.RegionHeld3
namespace Go.Proofs.Ytoljkokcgmigeaa.frameNames
open Go.ChangeShapes Go.WideShapes Go.ChangeAt Go.RowKit Go.Joins
set_option linter.unusedVariables false
set_option linter.unusedSimpArgs false

theorem own : ownKnob Try.prog.godebug = none := by kernel_rfl
theorem wf_f64 {x : Nat} (h : (Lit.float .f64 x).wf = true) : okK .f64 x := by
  rw [okK64]; simpa [Lit.wf] using h
theorem trod_fl {H : Type} {enc : TypeId × Value → H} {P : Program} {w : World} {base fuel : Nat} {spare : Nat → Bool} {held : Bool} {t : TypeId} {cs : List Value} {x : DataW H × List MemPlace} {k : FloatKind} (ht : P.underlying t = some (.float k)) (h : DataW.trod enc P w base spare held fuel t cs = some x) : ∃ n, cs = [.float k n] ∧ x = (.lit (.float k n), []) ∧ (Lit.float k n).wf = true := by
  cases fuel with
  | zero => simp [DataW.trod] at h
  | succ n =>
    unfold DataW.trod at h
    rw [ht] at h
    split at h <;> simp_all

set_option maxRecDepth 100000 in
set_option maxHeartbeats 20000000 in
theorem walk   (w : World) :
    Calls Try.prog 3 #[] w fun e w' => e = .returned (.bool true) ∧ Bel w w' := by
  have c1 := cmp_eq .f64
  have c1' := cmp_ne .f64
  have e8 := eqK_self .f64
  have m0 : nanK .f64 0 = false := by decide +kernel
  have r1 : ∀ s, frErr 4791830003522207744 0 s = 5 := fun s => by unfold frErr; rw [show (withinK .f64 4791830003522207744 4787326403894837248 && withinK .f64 0 4787326403894837248) = false by decide +kernel]; rfl
  have r2 : ∀ s, frErr 9221120237041090561 0 s = 5 := fun s => by unfold frErr; rw [show (withinK .f64 9221120237041090561 4787326403894837248 && withinK .f64 0 4787326403894837248) = false by decide +kernel]; rfl
  have r3 : ∀ s, DotR 4607182418800017408 0 4607182418800017408 0 s → frErr 0 0 s = 0 := fun s h => by unfold frErr; rw [show (withinK .f64 0 4787326403894837248 && withinK .f64 0 4787326403894837248) = true by decide +kernel, fchk_a h]; rfl
  have r4 : ∀ s, DotR 4611686018427387904 0 4611686018427387904 0 s → frErr 0 0 s = 30 := fun s h => by unfold frErr; rw [show (withinK .f64 0 4787326403894837248 && withinK .f64 0 4787326403894837248) = true by decide +kernel, fchk_b h]; rfl
  have r5 : ∀ s, DotR 0 13830554455654793216 0 13830554455654793216 s → frErr 14010698440749613056 4787326403894837248 s = 0 := fun s h => by unfold frErr; rw [show (withinK .f64 14010698440749613056 4787326403894837248 && withinK .f64 4787326403894837248 4787326403894837248) = true by decide +kernel, fchk_c h]; rfl
  have s1 : ((smK .f64 0 9223372036854775808 && smK .f64 0 0) && (smK .f64 4607182418800017408 4607182418800017408 && smK .f64 0 0)) = false := by decide +kernel
  have s2 : ((smK .f64 9221120237041090561 9221120237041090561 && smK .f64 0 0) && (smK .f64 4607182418800017408 4607182418800017408 && smK .f64 0 0)) = true := by decide +kernel
  have i1 : ltK .f64 9218868437227405311 9218868437227405312 = true := by decide +kernel
  have nn : nanK .f64 9221120237041090561 = true := by decide +kernel
  replace r1 := hide r1; replace r2 := hide r2; replace r3 := hide r3; replace r4 := hide r4; replace r5 := hide r5; replace s1 := hide s1; replace s2 := hide s2
  go_enter Try.func3, Try.ntmps3
  go_wp2_with (first | (go_at_call 17; refine (falive_any _).mono ?_; rintro e w1 ⟨rfl, hb⟩; have kA0 := keep hb (a := ⟨wM.heap.size, 0, none⟩) (v := .float .f64 9218868437227405312) (by first | assumption | go_keep); have kA1 := keep hb (a := ⟨wM.heap.size, 1, none⟩) (v := .float .f64 0) (by first | assumption | go_keep); have kA2 := keep hb (a := ⟨wM.heap.size, 2, none⟩) (v := .complex .f64 r i) (by first | assumption | go_keep); have B := hide (bl_trans (a := w) (by repeat (first | exact unhide B | exact bl_refl _ | apply bl_drew | apply bl_drewN | apply bl_alloc | refine bl_set ?_ (by simp <;> omega))) hb); clear hb) | (go_at_call 11; refine (lat_any _ _ _ _ _).mono ?_; rintro e w1 ⟨rfl, hb⟩; have B := hide (bl_trans (a := w) (by repeat (first | exact unhide B | exact bl_refl _ | apply bl_drew | apply bl_drewN | apply bl_alloc | refine bl_set ?_ (by simp <;> omega))) hb); clear hb) | (go_at_call 10; refine (gHome_any _).mono ?_; rintro e w1 ⟨rfl, hb⟩; have B := hide (bl_trans (a := w) (by repeat (first | exact unhide B | exact bl_refl _ | apply bl_drew | apply bl_drewN | apply bl_alloc | refine bl_set ?_ (by simp <;> omega))) hb); clear hb) | (go_at_call 9; refine (gCheck_any _ _ _ _ _).mono ?_; rintro e w1 ⟨s, hD, rfl, hb⟩; (first | rw [unhide r1] | rw [unhide r2] | rw [unhide r3 _ hD] | rw [unhide r4 _ hD] | rw [unhide r5 _ hD]); have B := hide (bl_trans (a := w) (by repeat (first | exact unhide B | exact bl_refl _ | apply bl_drew | apply bl_drewN | apply bl_alloc | refine bl_set ?_ (by simp <;> omega))) hb); clear hb; clear hD) | (go_at_call 14; refine (gSame_any _ _ _ _ _ _ _ _ _).mono ?_; rintro e w1 ⟨rfl, hb⟩; (first | rw [unhide s1] | rw [unhide s2]); have B := hide (bl_trans (a := w) (by repeat (first | exact unhide B | exact bl_refl _ | apply bl_drew | apply bl_drewN | apply bl_alloc | refine bl_set ?_ (by simp <;> omega))) hb); clear hb) | (go_at_call 12; refine (gNaN_any _).mono ?_; rintro e w1 ⟨rfl, rfl⟩) | (go_at_call 16; refine (inf_pos _).mono ?_; rintro e w1 ⟨rfl, rfl⟩) | (go_at_call 13; refine (copysign_mz _).mono ?_; rintro e w1 ⟨rfl, rfl⟩) | (go_at_call 18; refine (isInf_one _ _).mono ?_; rintro e w1 ⟨rfl, rfl⟩) | (go_at_call 15; refine (gMove_any _ _ _ _ _ _ _ _ _).mono ?_; rintro e wM ⟨tx, ty, r, i, hT, hR, rfl, hb⟩; obtain ⟨rfl, rfl⟩ := fmore_inf hT; have nR := turnm_nan nn hR; clear hT hR; have B := hide (bl_trans (a := w) (by repeat (first | exact unhide B | exact bl_refl _ | apply bl_drew | apply bl_drewN | apply bl_alloc | refine bl_set ?_ (by simp <;> omega))) hb); clear hb))
  all_goals (go_ret; exact ⟨rfl, (by repeat (first | exact unhide B | exact bl_refl _ | apply bl_drew | apply bl_drewN | apply bl_alloc | refine bl_set ?_ (by simp <;> omega)))⟩)

set_option maxRecDepth 100000 in
theorem lifted (os : Os) (started : os.Started) (H : Type) (enc : TypeId × Value → H) :
    ReturnsInHanded {} Try.checked os 3 .any (Rows.frameNamesSpec.pre6 enc Try.prog Try.f3 Rows.frameNamesRow.domain false) (Rows.frameNamesSpec.post enc Try.prog Try.f3 false true false false) := by
  refine returnsInHanded_of_change (C := Try.checked) own started (by kernel_rfl) Try.func3
    (ChangeSpec.witness6 (enc := enc) (C := Try.checked) false ⟨#[], #[], []⟩ 8 (by kernel_rfl) (by kernel_rfl) (by kernel_rfl) (by kernel_rfl)) ?_
  intro W base args ds gs before hval0 hW hcnd _
  have hval : ∀ (j : Nat) t v, Try.f3.params[j]? = some t → args[j]? = some v → Value.okWide Try.prog W .any base t v := hval0
  have hW' := hW
  obtain ⟨p, q, hA0, hV, rfl, hfz, hnd⟩ := hW
  have hA : DataW.TrodAll enc Try.prog W 0 (fun _ => true) true Try.f3.params.toList args.toList ds p := hA0
  rw [Try.params3] at hA hval
  obtain ⟨rfl, rfl, rfl⟩ := trodAll_none hA
  obtain ⟨rfl, rfl⟩ := trodVars_none hV
  clear hA0 hval0
  simp only [List.append_nil] at hW'
  refine (walk   W).mono fun e W' ⟨he, hg0⟩ => ?_
  have hg := hg0.grown
  subst he
  exact ⟨_, rfl, post_of_same (pa := []) (pv := []) hW' (fun _ _ _ => (trodAll_cons_mk (shut_bool Try.underlying4 _) trodAll_mk0)) (fun sp _ => rfl) (fun _ _ => rfl) rfl
    (hg.frame _) hg.2.1 (ok_one (by kernel_rfl) rfl (okWide_bool_mk Try.underlying4 _))⟩

theorem over : Rows.frameNamesRow.holds Try.pinned (OpenSpec.ofChange Rows.frameNamesSpec) :=
  OpenClaim.holds_of_wide 3 Try.f3 rfl rfl rfl rfl rfl rfl rfl ⟨rfl, rfl, rfl, rfl, rfl⟩ rfl rfl rfl rfl rfl (by kernel_rfl) Try.func3 (by kernel_rfl)
    (of_decide_eq_true (by kernel_rfl)) (by unfold Func.isWrapper; first | (rw [if_pos (by decide +kernel)]; kernel_rfl) | (rw [if_neg (by decide +kernel)]; exact ⟨rfl, rfl⟩))
    (fun os started H enc _ => lifted os started H enc)

theorem proved : Rows.FrameNamesSaid :=
  over
#print axioms proved
end Go.Proofs.Ytoljkokcgmigeaa.frameNames
