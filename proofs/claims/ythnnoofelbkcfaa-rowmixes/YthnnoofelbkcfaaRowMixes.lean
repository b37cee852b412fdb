/-
  'tumblelaw08.RowMixes' is true of every two frictions and bounces; no condition.
-/
import Derived.Test.YthnnoofelbkcfaaRows
import Derived.Test.YthnnoofelbkcfaaWh
import Derived.WalkKit
import Derived.ProofKit
import Derived.OpenShut
import Derived.WalkLawsBesides
import Derived.WalkSpells
import Derived.Lib.SmallJoins
import Derived.Laws.Cover2
import Derived.Laws.AppendOwn
import Derived.Laws.OwnMore
import Derived.Laws.AppendOwnNone
import Derived.Deep.RegionHeld3
import Derived.Deep.RegionWith
import Derived.Deep.SlicePairs
import Derived.Deep.Strs
import Derived.SizedLaws
import Derived.Below
import Derived.ChangeArms
import Derived.OpenShut
import Derived.Laws.IdiomArrays
import Derived.Laws.StructEq
namespace Go.Proofs.Ythnnoofelbkcfaa.rowMixes
open Go.ChangeShapes Go.WideShapes Go.ChangeAt Go.RowKit Go.Joins
set_option linter.unusedVariables false
set_option linter.unusedSimpArgs false

theorem own : ownKnob Try.prog.godebug = none := by kernel_rfl
theorem laidOut : laidOutB Try.prog = true := by kernel_rfl
theorem wf_f64 {x : Nat} (h : (Lit.float .f64 x).wf = true) : okK .f64 x := by
  rw [okK64]; simpa [Lit.wf] using h
section
variable {H : Type} {enc : TypeId × Value → H} {P : Program} {w : World} {base fuel : Nat} {spare : Nat → Bool} {held : Bool} {t : TypeId} {cs : List Value} {x : DataW H × List MemPlace}
theorem trod_fl {k : FloatKind} (ht : P.underlying t = some (.float k)) (h : DataW.trod enc P w base spare held fuel t cs = some x) : ∃ y, cs = [.float k y] ∧ (Lit.float k y).wf = true := by
  cases fuel with
  | zero => simp [DataW.trod] at h
  | succ n =>
    unfold DataW.trod at h
    rw [ht] at h
    split at h <;> simp_all
theorem trod_bo (ht : P.underlying t = some .bool) (h : DataW.trod enc P w base spare held fuel t cs = some x) : ∃ y, cs = [.bool y] := by
  cases fuel with
  | zero => simp [DataW.trod] at h
  | succ n =>
    unfold DataW.trod at h
    rw [ht] at h
    split at h <;> simp_all
theorem trod_in {k : IntKind} (ht : P.underlying t = some (.int k)) (h : DataW.trod enc P w base spare held fuel t cs = some x) : ∃ n, cs = [.int k n] ∧ (Lit.int k n).wf = true := by
  cases fuel with
  | zero => simp [DataW.trod] at h
  | succ n =>
    unfold DataW.trod at h
    rw [ht] at h
    split at h <;> simp_all
end
theorem cellsF : Try.prog.cellsOf 22 = 1 := by kernel_rfl
theorem cellsV : Try.prog.cellsOf 24 = 2 := by kernel_rfl
theorem cellsI : Try.prog.cellsOf 3 = 1 := by kernel_rfl

set_option maxRecDepth 100000 in
set_option maxHeartbeats 4000000 in
theorem walk_any (f_0 : Nat) (o0 : okK .f64 f_0) (f_1 : Nat) (o1 : okK .f64 f_1) (f_2 : Nat) (o2 : okK .f64 f_2) (f_3 : Nat) (o3 : okK .f64 f_3) (w : World) : Calls Try.prog 4 #[.float .f64 f_0, .float .f64 f_1, .float .f64 f_2, .float .f64 f_3] w fun e w' => e = .returned (.bool true) ∧ Below w.heap.size w w' := by
  go_enter Try.func4, Try.ntmps4
  repeat (first | (with_reducible show Oper.wp _ _ _ _ _ _; refine wp_load_mid (P := Try.prog) 47 _ rfl (w'.heap.size) 0 rfl [.int .u8 0, .float .f64 0, .slice none 0 0, .float .f64 0, .float .f64 f_0, .float .f64 f_2, .bool false, .int .u16 0, .int .u16 0] _ (by with_reducible assumption) Try.underlying47 rfl (by kernel_rfl) ?_; simp only [go_sem]) | (with_reducible show Oper.wp _ _ _ _ _ _; refine wp_load_mid (P := Try.prog) 47 _ rfl (w'.heap.size + 1) 0 rfl [.int .u8 0, .float .f64 0, .slice none 0 0, .float .f64 0, .float .f64 f_1, .float .f64 f_3, .bool false, .int .u16 0, .int .u16 0] _ (by with_reducible assumption) Try.underlying47 rfl (by kernel_rfl) ?_; simp only [go_sem]) | (go_at_call 9; refine (alive20 _).mono ?_; rintro e w' ⟨rfl, hb⟩) | (go_at_call 23; refine (mix_w _ _ _ _ _ o0 o1 o2 o3).mono ?_; rintro e w2 ⟨r, hr, rfl, hb2⟩; have hX := rng_bel (World.rangeAt_alloc (rng_new w' [.int .u8 0, .float .f64 0, .slice none 0 0, .float .f64 0, .float .f64 f_0, .float .f64 f_2, .bool false, .int .u16 0, .int .u16 0] 47) (.cells #[.int .u8 0, .float .f64 0, .slice none 0 0, .float .f64 0, .float .f64 f_1, .float .f64 f_3, .bool false, .int .u16 0, .int .u16 0] 47)) hb2; have hY0 := rng_new (w'.alloc (.cells #[.int .u8 0, .float .f64 0, .slice none 0 0, .float .f64 0, .float .f64 f_0, .float .f64 f_2, .bool false, .int .u16 0, .int .u16 0] 47)) [.int .u8 0, .float .f64 0, .slice none 0 0, .float .f64 0, .float .f64 f_1, .float .f64 f_3, .bool false, .int .u16 0, .int .u16 0] 47; rw [World.size_alloc] at hY0; have hY := rng_bel hY0 hb2) | (go_at_call 24; refine (rmix_w _ _ _ _ _ o0 o1 o2 o3).mono ?_; rintro e w3 ⟨r2, hr2, rfl, hb3⟩; have e1 := F_same hr hr2; have e2 := smK_self .f64 (mostK .f64 f_2 f_3)) | (go_at_call 18; refine (rIs_any _ _ _).mono ?_; rintro e w4 ⟨rfl, rfl⟩; first | rw [e1] | rw [e2]) | go_values | go_skip | go_guarded | go_step | go_upon | go_back | dsimp only)
  go_ret
  refine ⟨rfl, ?_⟩
  refine (show Bel w _ from ?_).1
  repeat (first | exact bl_refl _ | assumption | apply bl_drewN | apply bl_drew | apply bl_alloc | refine bl_set ?_ (by simp <;> omega) | refine bl_trans ?_ (by assumption))

set_option maxRecDepth 100000 in
theorem lifted (os : Os) (started : os.Started) (H : Type) (enc : TypeId × Value → H) :
    ReturnsInHanded {} Try.checked os 4 .any (Rows.rowMixesSpec.pre6 enc Try.prog Try.f4 Rows.rowMixesRow.domain false) (Rows.rowMixesSpec.post enc Try.prog Try.f4 false true false false) := by
  refine returnsInHanded_of_change_sized (C := Try.checked) own started (by kernel_rfl) Try.func4
    (ChangeSpec.witness6 (enc := enc) (C := Try.checked) false ⟨#[], #[.float .f64 0, .float .f64 0, .float .f64 0, .float .f64 0], []⟩ 8 (by kernel_rfl) (by kernel_rfl) (by kernel_rfl) (by kernel_rfl)) ?_
  intro W base args ds gs before hval0 hW hcnd hsz0 _
  have hval : ∀ (j : Nat) t v, Try.f4.params[j]? = some t → args[j]? = some v → Value.okWide Try.prog W .any base t v := hval0
  have hW' := hW
  obtain ⟨p, q, hA0, hV, rfl, hfz, hnd⟩ := hW
  have hA : DataW.TrodAll enc Try.prog W 0 (fun _ => true) true Try.f4.params.toList args.toList ds p := hA0
  rw [Try.params4] at hA hval
  obtain ⟨v0, vs0, d0, ds0, pl0, ql0, hargs, rfl, rfl, h0, r0⟩ := trodAll_cons hA
  obtain ⟨v1, vs1, d1, ds1, pl1, ql1, e1, rfl, rfl, h1, r1⟩ := trodAll_cons r0
  obtain ⟨v2, vs2, d2, ds2, pl2, ql2, e2, rfl, rfl, h2, r2⟩ := trodAll_cons r1
  obtain ⟨v3, vs3, d3, ds3, pl3, ql3, e3, rfl, rfl, h3, r3⟩ := trodAll_cons r2
  obtain ⟨rfl, rfl, rfl⟩ := trodAll_nil r3
  obtain rfl : args = #[v0, v1, v2, v3] := by cases args; simp_all
  obtain ⟨rfl, rfl⟩ := trodVars_none hV
  have k0 := h0
  have lt0 : ∀ x ∈ pl0, x.block < W.heap.size := by obtain ⟨m, hm⟩ := k0; exact DataW.trod_lt m _ _ _ hm
  obtain ⟨f_0, rfl, _, _, wf_0⟩ := open_float Try.underlying22 (hval 0 22 v0 rfl rfl) h0
  have k1 := h1
  have lt1 : ∀ x ∈ pl1, x.block < W.heap.size := by obtain ⟨m, hm⟩ := k1; exact DataW.trod_lt m _ _ _ hm
  obtain ⟨f_1, rfl, _, _, wf_1⟩ := open_float Try.underlying22 (hval 1 22 v1 rfl rfl) h1
  have k2 := h2
  have lt2 : ∀ x ∈ pl2, x.block < W.heap.size := by obtain ⟨m, hm⟩ := k2; exact DataW.trod_lt m _ _ _ hm
  obtain ⟨f_2, rfl, _, _, wf_2⟩ := open_float Try.underlying22 (hval 2 22 v2 rfl rfl) h2
  have k3 := h3
  have lt3 : ∀ x ∈ pl3, x.block < W.heap.size := by obtain ⟨m, hm⟩ := k3; exact DataW.trod_lt m _ _ _ hm
  obtain ⟨f_3, rfl, _, _, wf_3⟩ := open_float Try.underlying22 (hval 3 22 v3 rfl rfl) h3
  clear hA0 hval0 hsz0
  refine (walk_any f_0 (wf_f64 wf_0) f_1 (wf_f64 wf_1) f_2 (wf_f64 wf_2) f_3 (wf_f64 wf_3) W).mono fun e W' ⟨he, bel0⟩ => ?_
  have bel := bel0
  subst he
  exact ⟨_, rfl, _, _, _, [], _, [], hW', trodAll_mk1 (shut_bool Try.underlying4 _), (trodAll_cons_mk (Below.trod laidOut (by kernel_rfl) (of_decide_eq_true (by kernel_rfl)) k0 bel lt0) (trodAll_cons_mk (Below.trod laidOut (by kernel_rfl) (of_decide_eq_true (by kernel_rfl)) k1 bel lt1) (trodAll_cons_mk (Below.trod laidOut (by kernel_rfl) (of_decide_eq_true (by kernel_rfl)) k2 bel lt2) (trodAll_cons_mk (Below.trod laidOut (by kernel_rfl) (of_decide_eq_true (by kernel_rfl)) k3 bel lt3) trodAll_mk0)))), rfl, bel.frame _, fun h => by cases h⟩

theorem over : Rows.rowMixesRow.holds Try.pinned (OpenSpec.ofChange Rows.rowMixesSpec) :=
  OpenClaim.holds_of_wide 4 Try.f4 rfl rfl rfl rfl rfl rfl rfl ⟨rfl, rfl, rfl, rfl, rfl⟩ rfl rfl rfl rfl rfl (by kernel_rfl) Try.func4 (by kernel_rfl)
    (of_decide_eq_true (by kernel_rfl)) (by unfold Func.isWrapper; first | (rw [if_pos (by decide +kernel)]; kernel_rfl) | (rw [if_neg (by decide +kernel)]; exact ⟨rfl, rfl⟩))
    (fun os started H enc _ => lifted os started H enc)

theorem proved : Rows.RowMixesSaid :=
  over
#print axioms proved
end Go.Proofs.Ythnnoofelbkcfaa.rowMixes
