/-
  TurnWay: of every number and way turn.Apply and turn.Undo answer as the chapter's reference does, bit by bit (what is no number as no number); no condition.
-/
import Derived.Test.YtbphmjfgpkjecaaRows
import Derived.Test.YtbphmjfgpkjecaaTref
import Derived.Test.YtbphmjfgpkjecaaTawake
import Derived.WalkKit
import Derived.ProofKit
import Derived.OpenShut
import Derived.WalkLawsBesides
import Derived.WalkSpells
import Derived.Lib.SmallJoins
import Derived.Laws.Cover2
import Derived.Laws.Cover3
import Derived.Deep.RegionHeld3
namespace Go.Proofs.Ytbphmjfgpkjecaa.turnWay
open Go.ChangeShapes Go.WideShapes Go.ChangeAt Go.RowKit Go.Joins
set_option linter.unusedVariables false
set_option linter.unusedSimpArgs false

theorem own : ownKnob Try.prog.godebug = none := by kernel_rfl
theorem cellsP : Try.prog.cellsOf 24 = 2 := by kernel_rfl
theorem nat_u64 {n : Int} (h : (Lit.int .u64 n).wf = true) : ∃ x : Nat, n = (x : Int) := by
  simp only [Lit.wf, Bool.and_eq_true, decide_eq_true_eq] at h
  have e1 : IntKind.u64.min = 0 := by decide +kernel
  rw [e1] at h
  exact ⟨n.toNat, by omega⟩
theorem wf_u64 {x : Nat} (h : (Lit.int .u64 (x : Int)).wf = true) : okK .f64 x := by
  rw [okK64]
  simp only [Lit.wf, Bool.and_eq_true, decide_eq_true_eq] at h
  have e1 : IntKind.u64.max = 18446744073709551615 := by decide +kernel
  rw [e1] at h
  omega
theorem trod_in {H : Type} {enc : TypeId × Value → H} {P : Program} {w : World} {base fuel : Nat} {spare : Nat → Bool} {held : Bool} {t : TypeId} {cs : List Value} {x : DataW H × List MemPlace} {k : IntKind} (ht : P.underlying t = some (.int k)) (h : DataW.trod enc P w base spare held fuel t cs = some x) : ∃ n, cs = [.int k n] ∧ x = (.lit (.int k n), []) ∧ (Lit.int k n).wf = true := by
  cases fuel with
  | zero => simp [DataW.trod] at h
  | succ n =>
    unfold DataW.trod at h
    rw [ht] at h
    split at h <;> simp_all
theorem wf_f64 {x : Nat} (h : (Lit.float .f64 x).wf = true) : okK .f64 x := by
  rw [okK64]; simpa [Lit.wf] using h
theorem trod_fl {H : Type} {enc : TypeId × Value → H} {P : Program} {w : World} {base fuel : Nat} {spare : Nat → Bool} {held : Bool} {t : TypeId} {cs : List Value} {x : DataW H × List MemPlace} {k : FloatKind} (ht : P.underlying t = some (.float k)) (h : DataW.trod enc P w base spare held fuel t cs = some x) : ∃ n, cs = [.float k n] ∧ x = (.lit (.float k n), []) ∧ (Lit.float k n).wf = true := by
  cases fuel with
  | zero => simp [DataW.trod] at h
  | succ n =>
    unfold DataW.trod at h
    rw [ht] at h
    split at h <;> simp_all

set_option maxRecDepth 100000 in
set_option maxHeartbeats 8000000 in
theorem walk (x0 y0 : Nat) (x1 y1 : Nat) (ox0 : okK .f64 x0) (oy0 : okK .f64 y0) (ox1 : okK .f64 x1) (oy1 : okK .f64 y1) (w : World) :
    Calls Try.prog 5 #[.agg #[.int .u64 (x0 : Nat), .int .u64 (y0 : Nat)], .agg #[.int .u64 (x1 : Nat), .int .u64 (y1 : Nat)]] w fun e w' => e = .returned (.bool true) ∧ Bel w w' := by
  have al := World.cell?_alloc_some
  go_enter Try.func5, Try.ntmps5
  go_wp2_with (first | (go_at_call 9; refine (awake_any _).mono ?_; rintro e w1 ⟨rfl, hb⟩; have k_0_0 := keep hb (a := ⟨w.heap.size, 0, none⟩) (v := .int .u64 ((x0 : Nat) : Int)) (by first | assumption | go_keep); have k_0_1 := keep hb (a := ⟨w.heap.size, 1, none⟩) (v := .int .u64 ((y0 : Nat) : Int)) (by first | assumption | go_keep); have k_1_0 := keep hb (a := ⟨w.heap.size + 1, 0, none⟩) (v := .int .u64 ((x1 : Nat) : Int)) (by first | assumption | go_keep); have k_1_1 := keep hb (a := ⟨w.heap.size + 1, 1, none⟩) (v := .int .u64 ((y1 : Nat) : Int)) (by first | assumption | go_keep); have B := hide (bl_trans (a := w) (by repeat (first | exact unhide B | exact bl_refl _ | apply bl_drew | apply bl_drewN | apply bl_alloc | refine bl_set ?_ (by simp <;> omega))) hb); clear hb) | (go_at_call 11; refine (lnumber_any _ _ _).mono ?_; rintro e w1 ⟨rfl, hb⟩; have k_0_0 := keep hb (a := ⟨w.heap.size, 0, none⟩) (v := .int .u64 ((x0 : Nat) : Int)) (by first | assumption | go_keep); have k_0_1 := keep hb (a := ⟨w.heap.size, 1, none⟩) (v := .int .u64 ((y0 : Nat) : Int)) (by first | assumption | go_keep); have k_1_0 := keep hb (a := ⟨w.heap.size + 1, 0, none⟩) (v := .int .u64 ((x1 : Nat) : Int)) (by first | assumption | go_keep); have k_1_1 := keep hb (a := ⟨w.heap.size + 1, 1, none⟩) (v := .int .u64 ((y1 : Nat) : Int)) (by first | assumption | go_keep); have B := hide (bl_trans (a := w) (by repeat (first | exact unhide B | exact bl_refl _ | apply bl_drew | apply bl_drewN | apply bl_alloc | refine bl_set ?_ (by simp <;> omega))) hb); clear hb) | (go_at_call 14; refine (lway_any _ _ _).mono ?_; rintro e wu ⟨rfl, hb⟩; have k_0_0 := keep hb (a := ⟨w.heap.size, 0, none⟩) (v := .int .u64 ((x0 : Nat) : Int)) (by first | assumption | go_keep); have k_0_1 := keep hb (a := ⟨w.heap.size, 1, none⟩) (v := .int .u64 ((y0 : Nat) : Int)) (by first | assumption | go_keep); have k_1_0 := keep hb (a := ⟨w.heap.size + 1, 0, none⟩) (v := .int .u64 ((x1 : Nat) : Int)) (by first | assumption | go_keep); have k_1_1 := keep hb (a := ⟨w.heap.size + 1, 1, none⟩) (v := .int .u64 ((y1 : Nat) : Int)) (by first | assumption | go_keep); have B := hide (bl_trans (a := w) (by repeat (first | exact unhide B | exact bl_refl _ | apply bl_drew | apply bl_drewN | apply bl_alloc | refine bl_set ?_ (by simp <;> omega))) hb); clear hb))
  go_region_held3 (fun w1 => w1.cell? ⟨wu.heap.size, 0, none⟩ = some (.float .f64 x1) ∧ w1.cell? ⟨wu.heap.size, 1, none⟩ = some (.float .f64 y1)) (first | go_keep | (go_split_ands; exact ⟨keep hb (by assumption), keep hb (by assumption)⟩))
    (first | (go_at_call 33; refine (tApply_any _ _ _ _ _).mono ?_; rintro e w1 ⟨r1, i1, h1, rfl, hb⟩; have B := hide (bl_trans (a := w) (by repeat (first | exact unhide B | exact bl_refl _ | apply bl_drew | apply bl_drewN | apply bl_alloc | refine bl_set ?_ (by simp <;> omega))) hb)) | (go_at_call 34; refine (rApply_any _ _ _ _ _).mono ?_; rintro e w1 ⟨r2, i2, h2, rfl, hb⟩; obtain ⟨sA1, sA2⟩ := h1.sm (apply_then h2); clear h1 h2; have B := hide (bl_trans (a := w) (by repeat (first | exact unhide B | exact bl_refl _ | apply bl_drew | apply bl_drewN | apply bl_alloc | refine bl_set ?_ (by simp <;> omega))) hb)) | (go_at_call 35; refine (tUndo_any _ _ _ _ _).mono ?_; rintro e w1 ⟨r3, i3, h3, rfl, hb⟩; have B := hide (bl_trans (a := w) (by repeat (first | exact unhide B | exact bl_refl _ | apply bl_drew | apply bl_drewN | apply bl_alloc | refine bl_set ?_ (by simp <;> omega))) hb)) | (go_at_call 36; refine (rUndo_any _ _ _ _ _).mono ?_; rintro e w1 ⟨r4, i4, h4, rfl, hb⟩; obtain ⟨sA3, sA4⟩ := undo_sm (by assumption) h3 h4; clear h3 h4; have B := hide (bl_trans (a := w) (by repeat (first | exact unhide B | exact bl_refl _ | apply bl_drew | apply bl_drewN | apply bl_alloc | refine bl_set ?_ (by simp <;> omega))) hb)) | (go_at_call 32; refine (rSameVec_true _ _ _ _ _ (by assumption) (by assumption)).mono ?_; rintro e w1 ⟨rfl, hb⟩; have B := hide (bl_trans (a := w) (by repeat (first | exact unhide B | exact bl_refl _ | apply bl_drew | apply bl_drewN | apply bl_alloc | refine bl_set ?_ (by simp <;> omega))) hb)))
  all_goals go_wp2
  go_ret
  exact ⟨rfl, (by repeat (first | exact unhide B | exact bl_refl _ | apply bl_drew | apply bl_drewN | apply bl_alloc | refine bl_set ?_ (by simp <;> omega)))⟩

set_option maxRecDepth 100000 in
theorem lifted (os : Os) (started : os.Started) (H : Type) (enc : TypeId × Value → H) :
    ReturnsInHanded {} Try.checked os 5 .any (Rows.turnWaySpec.pre6 enc Try.prog Try.f5 Rows.turnWayRow.domain false) (Rows.turnWaySpec.post enc Try.prog Try.f5 false true false false) := by
  refine returnsInHanded_of_change (C := Try.checked) own started (by kernel_rfl) Try.func5
    (ChangeSpec.witness6 (enc := enc) (C := Try.checked) false ⟨#[], #[.agg #[.int .u64 0, .int .u64 0], .agg #[.int .u64 0, .int .u64 0]], []⟩ 8 (by kernel_rfl) (by kernel_rfl) (by kernel_rfl) (by kernel_rfl)) ?_
  intro W base args ds gs before hval0 hW hcnd _
  have hval : ∀ (j : Nat) t v, Try.f5.params[j]? = some t → args[j]? = some v → Value.okWide Try.prog W .any base t v := hval0
  have hW' := hW
  obtain ⟨p, q, hA0, hV, rfl, hfz, hnd⟩ := hW
  have hA : DataW.TrodAll enc Try.prog W 0 (fun _ => true) true Try.f5.params.toList args.toList ds p := hA0
  rw [Try.params5] at hA hval
  obtain ⟨v0, vs0, d0, ds0, p0, q0, hargs, rfl, rfl, h0, r0⟩ := trodAll_cons hA
  obtain ⟨v1, vs1, d1, ds1, p1, q1, rfl, rfl, rfl, h1, r1⟩ := trodAll_cons r0
  obtain ⟨rfl, rfl, rfl⟩ := trodAll_nil r1
  obtain rfl : args = #[v0, v1] := by cases args; simp_all
  obtain ⟨rfl, rfl⟩ := trodVars_none hV
  obtain ⟨c0, k0, z0, u0, m0, rfl, rfl, rfl, hz0, hu0⟩ := open_agg2 Try.underlying24 (by kernel_rfl) cellsP (hval 0 24 v0 rfl rfl) h0
  obtain ⟨x0, e0, rfl, wx0⟩ := trod_in Try.underlying22 hz0
  obtain ⟨y0, e1, rfl, wy0⟩ := trod_in Try.underlying22 hu0
  simp at e0 e1
  subst e0 e1
  obtain ⟨x0, rfl⟩ := nat_u64 wx0
  obtain ⟨y0, rfl⟩ := nat_u64 wy0
  obtain ⟨c1, k1, z1, u1, m1, rfl, rfl, rfl, hz1, hu1⟩ := open_agg2 Try.underlying24 (by kernel_rfl) cellsP (hval 1 24 v1 rfl rfl) h1
  obtain ⟨x1, e0, rfl, wx1⟩ := trod_in Try.underlying22 hz1
  obtain ⟨y1, e1, rfl, wy1⟩ := trod_in Try.underlying22 hu1
  simp at e0 e1
  subst e0 e1
  obtain ⟨x1, rfl⟩ := nat_u64 wx1
  obtain ⟨y1, rfl⟩ := nat_u64 wy1
  clear hA0 hval0
  simp only [List.append_nil] at hW'
  refine (walk x0 y0 x1 y1 (wf_u64 wx0) (wf_u64 wy0) (wf_u64 wx1) (wf_u64 wy1) W).mono fun e W' ⟨he, hg0⟩ => ?_
  have hg := hg0.grown
  subst he
  exact ⟨_, rfl, post_of_same (pa := []) (pv := []) hW' (fun _ _ _ => (trodAll_cons_mk (shut_bool Try.underlying4 _) trodAll_mk0)) (fun sp _ => (trodAll_cons_mk (shut_agg2 (y0 := (.lit (.int .u64 x0), [])) (y1 := (.lit (.int .u64 y0), [])) Try.underlying24 (by kernel_rfl) cellsP ⟨1, by simp [DataW.trod, Try.underlying22, wx0]⟩ ⟨1, by simp [DataW.trod, Try.underlying22, wy0]⟩) (trodAll_cons_mk (shut_agg2 (y0 := (.lit (.int .u64 x1), [])) (y1 := (.lit (.int .u64 y1), [])) Try.underlying24 (by kernel_rfl) cellsP ⟨1, by simp [DataW.trod, Try.underlying22, wx1]⟩ ⟨1, by simp [DataW.trod, Try.underlying22, wy1]⟩) trodAll_mk0))) (fun _ _ => rfl) rfl
    (hg.frame _) hg.2.1 (ok_one (by kernel_rfl) rfl (okWide_bool_mk Try.underlying4 _))⟩

theorem over : Rows.turnWayRow.holds Try.pinned (OpenSpec.ofChange Rows.turnWaySpec) :=
  OpenClaim.holds_of_wide 5 Try.f5 rfl rfl rfl rfl rfl rfl rfl ⟨rfl, rfl, rfl, rfl, rfl⟩ rfl rfl rfl rfl rfl (by kernel_rfl) Try.func5 (by kernel_rfl)
    (of_decide_eq_true (by kernel_rfl)) (by unfold Func.isWrapper; first | (rw [if_pos (by decide +kernel)]; kernel_rfl) | (rw [if_neg (by decide +kernel)]; exact ⟨rfl, rfl⟩))
    (fun os started H enc _ => lifted os started H enc)

theorem proved : Rows.TurnWaySaid :=
  over
#print axioms proved
end Go.Proofs.Ytbphmjfgpkjecaa.turnWay
