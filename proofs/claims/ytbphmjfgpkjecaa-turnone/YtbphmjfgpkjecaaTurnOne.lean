/-
  TurnOne: of every number, way and float turn.Check, turn.Unit, turn.Of, turn.By and turn.Back answer as the chapter's reference does, bit by bit (what is no number as no number); no condition.
-/
import Derived.Test.YtbphmjfgpkjecaaRows
import Derived.Test.YtbphmjfgpkjecaaTref
import Derived.Test.YtbphmjfgpkjecaaTawake
import Derived.WalkKit
import Derived.ProofKit
import Derived.OpenShut
import Derived.WalkLawsBesides
import Derived.WalkSpells
import Derived.Lib.SmallJoins
import Derived.Laws.Cover2
import Derived.Laws.Cover3
import Derived.Deep.RegionHeld3
namespace Go.Proofs.Ytbphmjfgpkjecaa.turnOne
open Go.ChangeShapes Go.WideShapes Go.ChangeAt Go.RowKit Go.Joins
set_option linter.unusedVariables false
set_option linter.unusedSimpArgs false

theorem own : ownKnob Try.prog.godebug = none := by kernel_rfl
theorem cellsP : Try.prog.cellsOf 24 = 2 := by kernel_rfl
theorem nat_u64 {n : Int} (h : (Lit.int .u64 n).wf = true) : ∃ x : Nat, n = (x : Int) := by
  simp only [Lit.wf, Bool.and_eq_true, decide_eq_true_eq] at h
  have e1 : IntKind.u64.min = 0 := by decide +kernel
  rw [e1] at h
  exact ⟨n.toNat, by omega⟩
theorem wf_u64 {x : Nat} (h : (Lit.int .u64 (x : Int)).wf = true) : okK .f64 x := by
  rw [okK64]
  simp only [Lit.wf, Bool.and_eq_true, decide_eq_true_eq] at h
  have e1 : IntKind.u64.max = 18446744073709551615 := by decide +kernel
  rw [e1] at h
  omega
theorem trod_in {H : Type} {enc : TypeId × Value → H} {P : Program} {w : World} {base fuel : Nat} {spare : Nat → Bool} {held : Bool} {t : TypeId} {cs : List Value} {x : DataW H × List MemPlace} {k : IntKind} (ht : P.underlying t = some (.int k)) (h : DataW.trod enc P w base spare held fuel t cs = some x) : ∃ n, cs = [.int k n] ∧ x = (.lit (.int k n), []) ∧ (Lit.int k n).wf = true := by
  cases fuel with
  | zero => simp [DataW.trod] at h
  | succ n =>
    unfold DataW.trod at h
    rw [ht] at h
    split at h <;> simp_all
theorem wf_f64 {x : Nat} (h : (Lit.float .f64 x).wf = true) : okK .f64 x := by
  rw [okK64]; simpa [Lit.wf] using h
theorem trod_fl {H : Type} {enc : TypeId × Value → H} {P : Program} {w : World} {base fuel : Nat} {spare : Nat → Bool} {held : Bool} {t : TypeId} {cs : List Value} {x : DataW H × List MemPlace} {k : FloatKind} (ht : P.underlying t = some (.float k)) (h : DataW.trod enc P w base spare held fuel t cs = some x) : ∃ n, cs = [.float k n] ∧ x = (.lit (.float k n), []) ∧ (Lit.float k n).wf = true := by
  cases fuel with
  | zero => simp [DataW.trod] at h
  | succ n =>
    unfold DataW.trod at h
    rw [ht] at h
    split at h <;> simp_all

set_option maxRecDepth 100000 in
set_option maxHeartbeats 8000000 in
theorem walk (x0 y0 : Nat) (x1 y1 : Nat) (s2 : Nat) (ox0 : okK .f64 x0) (oy0 : okK .f64 y0) (ox1 : okK .f64 x1) (oy1 : okK .f64 y1) (os2 : okK .f64 s2) (w : World) :
    Calls Try.prog 3 #[.agg #[.int .u64 (x0 : Nat), .int .u64 (y0 : Nat)], .agg #[.int .u64 (x1 : Nat), .int .u64 (y1 : Nat)], .int .u64 (s2 : Nat)] w fun e w' => e = .returned (.bool true) ∧ Bel w w' := by
  have q := from_run
  go_enter Try.func3, Try.ntmps3
  go_wp2_with (first | (go_at_call 9; refine (awake_any _).mono ?_; rintro e w1 ⟨rfl, hb⟩; have k_0_0 := keep hb (a := ⟨w.heap.size, 0, none⟩) (v := .int .u64 ((x0 : Nat) : Int)) (by first | assumption | go_keep); have k_0_1 := keep hb (a := ⟨w.heap.size, 1, none⟩) (v := .int .u64 ((y0 : Nat) : Int)) (by first | assumption | go_keep); have k_1_0 := keep hb (a := ⟨w.heap.size + 1, 0, none⟩) (v := .int .u64 ((x1 : Nat) : Int)) (by first | assumption | go_keep); have k_1_1 := keep hb (a := ⟨w.heap.size + 1, 1, none⟩) (v := .int .u64 ((y1 : Nat) : Int)) (by first | assumption | go_keep); have B := hide (bl_trans (a := w) (by repeat (first | exact unhide B | exact bl_refl _ | apply bl_drew | apply bl_drewN | apply bl_alloc | refine bl_set ?_ (by simp <;> omega))) hb); clear hb) | (go_at_call 11; refine (lnumber_any _ _ _).mono ?_; rintro e w1 ⟨rfl, hb⟩; have k_0_0 := keep hb (a := ⟨w.heap.size, 0, none⟩) (v := .int .u64 ((x0 : Nat) : Int)) (by first | assumption | go_keep); have k_0_1 := keep hb (a := ⟨w.heap.size, 1, none⟩) (v := .int .u64 ((y0 : Nat) : Int)) (by first | assumption | go_keep); have k_1_0 := keep hb (a := ⟨w.heap.size + 1, 0, none⟩) (v := .int .u64 ((x1 : Nat) : Int)) (by first | assumption | go_keep); have k_1_1 := keep hb (a := ⟨w.heap.size + 1, 1, none⟩) (v := .int .u64 ((y1 : Nat) : Int)) (by first | assumption | go_keep); have B := hide (bl_trans (a := w) (by repeat (first | exact unhide B | exact bl_refl _ | apply bl_drew | apply bl_drewN | apply bl_alloc | refine bl_set ?_ (by simp <;> omega))) hb); clear hb) | (go_at_call 14; refine (lway_any _ _ _).mono ?_; rintro e w1 ⟨rfl, hb⟩; have k_0_0 := keep hb (a := ⟨w.heap.size, 0, none⟩) (v := .int .u64 ((x0 : Nat) : Int)) (by first | assumption | go_keep); have k_0_1 := keep hb (a := ⟨w.heap.size, 1, none⟩) (v := .int .u64 ((y0 : Nat) : Int)) (by first | assumption | go_keep); have k_1_0 := keep hb (a := ⟨w.heap.size + 1, 0, none⟩) (v := .int .u64 ((x1 : Nat) : Int)) (by first | assumption | go_keep); have k_1_1 := keep hb (a := ⟨w.heap.size + 1, 1, none⟩) (v := .int .u64 ((y1 : Nat) : Int)) (by first | assumption | go_keep); have B := hide (bl_trans (a := w) (by repeat (first | exact unhide B | exact bl_refl _ | apply bl_drew | apply bl_drewN | apply bl_alloc | refine bl_set ?_ (by simp <;> omega))) hb); clear hb) | (go_at_call 10; refine (tUnit_any _ _ _).mono ?_; rintro e w1 ⟨u1, v1, b1, hU1, rfl, hb⟩; have k_0_0 := keep hb (a := ⟨w.heap.size, 0, none⟩) (v := .int .u64 ((x0 : Nat) : Int)) (by first | assumption | go_keep); have k_0_1 := keep hb (a := ⟨w.heap.size, 1, none⟩) (v := .int .u64 ((y0 : Nat) : Int)) (by first | assumption | go_keep); have k_1_0 := keep hb (a := ⟨w.heap.size + 1, 0, none⟩) (v := .int .u64 ((x1 : Nat) : Int)) (by first | assumption | go_keep); have k_1_1 := keep hb (a := ⟨w.heap.size + 1, 1, none⟩) (v := .int .u64 ((y1 : Nat) : Int)) (by first | assumption | go_keep); have B := hide (bl_trans (a := w) (by repeat (first | exact unhide B | exact bl_refl _ | apply bl_drew | apply bl_drewN | apply bl_alloc | refine bl_set ?_ (by simp <;> omega))) hb); clear hb) | (go_at_call 12; refine (rUnit_any _ _ _).mono ?_; rintro e w1 ⟨u2, v2, b2, hU2, rfl, hb⟩; obtain ⟨sU1, sU2, rfl⟩ := hU1.sm hU2; clear hU1 hU2; have k_0_0 := keep hb (a := ⟨w.heap.size, 0, none⟩) (v := .int .u64 ((x0 : Nat) : Int)) (by first | assumption | go_keep); have k_0_1 := keep hb (a := ⟨w.heap.size, 1, none⟩) (v := .int .u64 ((y0 : Nat) : Int)) (by first | assumption | go_keep); have k_1_0 := keep hb (a := ⟨w.heap.size + 1, 0, none⟩) (v := .int .u64 ((x1 : Nat) : Int)) (by first | assumption | go_keep); have k_1_1 := keep hb (a := ⟨w.heap.size + 1, 1, none⟩) (v := .int .u64 ((y1 : Nat) : Int)) (by first | assumption | go_keep); have B := hide (bl_trans (a := w) (by repeat (first | exact unhide B | exact bl_refl _ | apply bl_drew | apply bl_drewN | apply bl_alloc | refine bl_set ?_ (by simp <;> omega))) hb); clear hb) | (go_at_call 13; refine (tOf_any _ _ _).mono ?_; rintro e w1 ⟨u3, v3, b3, hU3, rfl, hb⟩; have k_0_0 := keep hb (a := ⟨w.heap.size, 0, none⟩) (v := .int .u64 ((x0 : Nat) : Int)) (by first | assumption | go_keep); have k_0_1 := keep hb (a := ⟨w.heap.size, 1, none⟩) (v := .int .u64 ((y0 : Nat) : Int)) (by first | assumption | go_keep); have k_1_0 := keep hb (a := ⟨w.heap.size + 1, 0, none⟩) (v := .int .u64 ((x1 : Nat) : Int)) (by first | assumption | go_keep); have k_1_1 := keep hb (a := ⟨w.heap.size + 1, 1, none⟩) (v := .int .u64 ((y1 : Nat) : Int)) (by first | assumption | go_keep); have B := hide (bl_trans (a := w) (by repeat (first | exact unhide B | exact bl_refl _ | apply bl_drew | apply bl_drewN | apply bl_alloc | refine bl_set ?_ (by simp <;> omega))) hb); clear hb) | (go_at_call 15; refine (rOf_any _ _ _).mono ?_; rintro e w1 ⟨u4, v4, b4, hU4, rfl, hb⟩; obtain ⟨sU3, sU4, rfl⟩ := hU3.sm hU4; clear hU3 hU4; have k_0_0 := keep hb (a := ⟨w.heap.size, 0, none⟩) (v := .int .u64 ((x0 : Nat) : Int)) (by first | assumption | go_keep); have k_0_1 := keep hb (a := ⟨w.heap.size, 1, none⟩) (v := .int .u64 ((y0 : Nat) : Int)) (by first | assumption | go_keep); have k_1_0 := keep hb (a := ⟨w.heap.size + 1, 0, none⟩) (v := .int .u64 ((x1 : Nat) : Int)) (by first | assumption | go_keep); have k_1_1 := keep hb (a := ⟨w.heap.size + 1, 1, none⟩) (v := .int .u64 ((y1 : Nat) : Int)) (by first | assumption | go_keep); have B := hide (bl_trans (a := w) (by repeat (first | exact unhide B | exact bl_refl _ | apply bl_drew | apply bl_drewN | apply bl_alloc | refine bl_set ?_ (by simp <;> omega))) hb); clear hb) | (go_at_call 17; refine (rSame_true _ _ _ _ _ (by assumption) (by assumption)).mono ?_; rintro e w1 ⟨rfl, rfl⟩))
  go_region_held3 (fun w1 => w1.cell? ⟨w.heap.size, 0, none⟩ = some (.int .u64 ((x0 : Nat) : Int)) ∧ w1.cell? ⟨w.heap.size, 1, none⟩ = some (.int .u64 ((y0 : Nat) : Int)) ∧ w1.cell? ⟨w.heap.size + 1, 0, none⟩ = some (.int .u64 ((x1 : Nat) : Int)) ∧ w1.cell? ⟨w.heap.size + 1, 1, none⟩ = some (.int .u64 ((y1 : Nat) : Int))) (first | go_keep | (go_split_ands; exact ⟨keep hb (by assumption), keep hb (by assumption), keep hb (by assumption), keep hb (by assumption)⟩))
    (first | (go_at_call 18; refine (tBy_any _ _).mono ?_; rintro e w1 ⟨u5, v5, hY1, rfl, hb⟩; have B := hide (bl_trans (a := w) (by repeat (first | exact unhide B | exact bl_refl _ | apply bl_drew | apply bl_drewN | apply bl_alloc | refine bl_set ?_ (by simp <;> omega))) hb)) | (go_at_call 19; refine (rBy_any _ _).mono ?_; rintro e w1 ⟨u6, v6, hY2, rfl, hb⟩; obtain ⟨sY1, sY2⟩ := hY1.sm hY2; clear hY1 hY2; have B := hide (bl_trans (a := w) (by repeat (first | exact unhide B | exact bl_refl _ | apply bl_drew | apply bl_drewN | apply bl_alloc | refine bl_set ?_ (by simp <;> omega))) hb)) | (go_at_call 17; refine (rSame_true _ _ _ _ _ (by first | assumption | exact smK_self _ _) (by first | assumption | exact smK_self _ _)).mono ?_; rintro e w1 ⟨rfl, rfl⟩) | (go_at_call 11; refine (lnumber_any _ _ _).mono ?_; rintro e w1 ⟨rfl, hb⟩; have B := hide (bl_trans (a := w) (by repeat (first | exact unhide B | exact bl_refl _ | apply bl_drew | apply bl_drewN | apply bl_alloc | refine bl_set ?_ (by simp <;> omega))) hb)) | (go_at_call 20; refine (tBack_any _ _ _).mono ?_; rintro e w1 ⟨rfl, rfl⟩) | (go_at_call 21; refine (rBack_any _ _ _).mono ?_; rintro e w1 ⟨rfl, rfl⟩))
  all_goals go_wp2
  go_region_held3 (fun w1 => w1.cell? ⟨w.heap.size, 0, none⟩ = some (.int .u64 ((x0 : Nat) : Int)) ∧ w1.cell? ⟨w.heap.size, 1, none⟩ = some (.int .u64 ((y0 : Nat) : Int)) ∧ w1.cell? ⟨w.heap.size + 1, 0, none⟩ = some (.int .u64 ((x1 : Nat) : Int)) ∧ w1.cell? ⟨w.heap.size + 1, 1, none⟩ = some (.int .u64 ((y1 : Nat) : Int))) (first | go_keep | (go_split_ands; exact ⟨keep hb (by assumption), keep hb (by assumption), keep hb (by assumption), keep hb (by assumption)⟩))
    (first | (go_at_call 22; refine (tCheck_any _ _ _).mono ?_; rintro e w1 ⟨s1, hC1, rfl, hb⟩; have B := hide (bl_trans (a := w) (by repeat (first | exact unhide B | exact bl_refl _ | apply bl_drew | apply bl_drewN | apply bl_alloc | refine bl_set ?_ (by simp <;> omega))) hb)) | (go_at_call 23; refine (rCheck_any _ _ _).mono ?_; rintro e w1 ⟨s2, hC2, rfl, hb⟩; rw [← chk_sm (hC1.sm hC2)]; have B := hide (bl_trans (a := w) (by repeat (first | exact unhide B | exact bl_refl _ | apply bl_drew | apply bl_drewN | apply bl_alloc | refine bl_set ?_ (by simp <;> omega))) hb)) | (go_at_call 11; refine (lnumber_any _ _ _).mono ?_; rintro e w1 ⟨rfl, hb⟩; have B := hide (bl_trans (a := w) (by repeat (first | exact unhide B | exact bl_refl _ | apply bl_drew | apply bl_drewN | apply bl_alloc | refine bl_set ?_ (by simp <;> omega))) hb)))
  all_goals go_wp2
  go_ret
  exact ⟨rfl, (by repeat (first | exact unhide B | exact bl_refl _ | apply bl_drew | apply bl_drewN | apply bl_alloc | refine bl_set ?_ (by simp <;> omega)))⟩

set_option maxRecDepth 100000 in
theorem lifted (os : Os) (started : os.Started) (H : Type) (enc : TypeId × Value → H) :
    ReturnsInHanded {} Try.checked os 3 .any (Rows.turnOneSpec.pre6 enc Try.prog Try.f3 Rows.turnOneRow.domain false) (Rows.turnOneSpec.post enc Try.prog Try.f3 false true false false) := by
  refine returnsInHanded_of_change (C := Try.checked) own started (by kernel_rfl) Try.func3
    (ChangeSpec.witness6 (enc := enc) (C := Try.checked) false ⟨#[], #[.agg #[.int .u64 0, .int .u64 0], .agg #[.int .u64 0, .int .u64 0], .int .u64 0], []⟩ 8 (by kernel_rfl) (by kernel_rfl) (by kernel_rfl) (by kernel_rfl)) ?_
  intro W base args ds gs before hval0 hW hcnd _
  have hval : ∀ (j : Nat) t v, Try.f3.params[j]? = some t → args[j]? = some v → Value.okWide Try.prog W .any base t v := hval0
  have hW' := hW
  obtain ⟨p, q, hA0, hV, rfl, hfz, hnd⟩ := hW
  have hA : DataW.TrodAll enc Try.prog W 0 (fun _ => true) true Try.f3.params.toList args.toList ds p := hA0
  rw [Try.params3] at hA hval
  obtain ⟨v0, vs0, d0, ds0, p0, q0, hargs, rfl, rfl, h0, r0⟩ := trodAll_cons hA
  obtain ⟨v1, vs1, d1, ds1, p1, q1, rfl, rfl, rfl, h1, r1⟩ := trodAll_cons r0
  obtain ⟨v2, vs2, d2, ds2, p2, q2, rfl, rfl, rfl, h2, r2⟩ := trodAll_cons r1
  obtain ⟨rfl, rfl, rfl⟩ := trodAll_nil r2
  obtain rfl : args = #[v0, v1, v2] := by cases args; simp_all
  obtain ⟨rfl, rfl⟩ := trodVars_none hV
  obtain ⟨c0, k0, z0, u0, m0, rfl, rfl, rfl, hz0, hu0⟩ := open_agg2 Try.underlying24 (by kernel_rfl) cellsP (hval 0 24 v0 rfl rfl) h0
  obtain ⟨x0, e0, rfl, wx0⟩ := trod_in Try.underlying22 hz0
  obtain ⟨y0, e1, rfl, wy0⟩ := trod_in Try.underlying22 hu0
  simp at e0 e1
  subst e0 e1
  obtain ⟨x0, rfl⟩ := nat_u64 wx0
  obtain ⟨y0, rfl⟩ := nat_u64 wy0
  obtain ⟨c1, k1, z1, u1, m1, rfl, rfl, rfl, hz1, hu1⟩ := open_agg2 Try.underlying24 (by kernel_rfl) cellsP (hval 1 24 v1 rfl rfl) h1
  obtain ⟨x1, e0, rfl, wx1⟩ := trod_in Try.underlying22 hz1
  obtain ⟨y1, e1, rfl, wy1⟩ := trod_in Try.underlying22 hu1
  simp at e0 e1
  subst e0 e1
  obtain ⟨x1, rfl⟩ := nat_u64 wx1
  obtain ⟨y1, rfl⟩ := nat_u64 wy1
  obtain ⟨s2, rfl, rfl, rfl, ws2⟩ := open_int Try.underlying22 (hval 2 22 v2 rfl rfl) h2
  obtain ⟨s2, rfl⟩ := nat_u64 ws2
  clear hA0 hval0
  simp only [List.append_nil] at hW'
  refine (walk x0 y0 x1 y1 s2 (wf_u64 wx0) (wf_u64 wy0) (wf_u64 wx1) (wf_u64 wy1) (wf_u64 ws2) W).mono fun e W' ⟨he, hg0⟩ => ?_
  have hg := hg0.grown
  subst he
  exact ⟨_, rfl, post_of_same (pa := []) (pv := []) hW' (fun _ _ _ => (trodAll_cons_mk (shut_bool Try.underlying4 _) trodAll_mk0)) (fun sp _ => (trodAll_cons_mk (shut_agg2 (y0 := (.lit (.int .u64 x0), [])) (y1 := (.lit (.int .u64 y0), [])) Try.underlying24 (by kernel_rfl) cellsP ⟨1, by simp [DataW.trod, Try.underlying22, wx0]⟩ ⟨1, by simp [DataW.trod, Try.underlying22, wy0]⟩) (trodAll_cons_mk (shut_agg2 (y0 := (.lit (.int .u64 x1), [])) (y1 := (.lit (.int .u64 y1), [])) Try.underlying24 (by kernel_rfl) cellsP ⟨1, by simp [DataW.trod, Try.underlying22, wx1]⟩ ⟨1, by simp [DataW.trod, Try.underlying22, wy1]⟩) (trodAll_cons_mk (shut_int Try.underlying22 ws2) trodAll_mk0)))) (fun _ _ => rfl) rfl
    (hg.frame _) hg.2.1 (ok_one (by kernel_rfl) rfl (okWide_bool_mk Try.underlying4 _))⟩

theorem over : Rows.turnOneRow.holds Try.pinned (OpenSpec.ofChange Rows.turnOneSpec) :=
  OpenClaim.holds_of_wide 3 Try.f3 rfl rfl rfl rfl rfl rfl rfl ⟨rfl, rfl, rfl, rfl, rfl⟩ rfl rfl rfl rfl rfl (by kernel_rfl) Try.func3 (by kernel_rfl)
    (of_decide_eq_true (by kernel_rfl)) (by unfold Func.isWrapper; first | (rw [if_pos (by decide +kernel)]; kernel_rfl) | (rw [if_neg (by decide +kernel)]; exact ⟨rfl, rfl⟩))
    (fun os started H enc _ => lifted os started H enc)

theorem proved : Rows.TurnOneSaid :=
  over
#print axioms proved
end Go.Proofs.Ytbphmjfgpkjecaa.turnOne
