/-
  FrameMoves: a frame after any time at any speed and spin is the chapter's, bit by bit (what is no number as no number); for all bits, no condition.
-/
import Derived.Test.YtoljkokcgmigeaaRows
import Derived.Test.YtoljkokcgmigeaaFmore
import Derived.WalkKit
import Derived.ProofKit
import Derived.OpenShut
import Derived.WalkLawsBesides
import Derived.WalkSpells
import Derived.Lib.SmallJoins
import Derived.Laws.Cover2
import Derived.Laws.Cover3
import Derived.Deep.RegionHeld3
namespace Go.Proofs.Ytoljkokcgmigeaa.frameMoves
open Go.ChangeShapes Go.WideShapes Go.ChangeAt Go.RowKit Go.Joins
set_option linter.unusedVariables false
set_option linter.unusedSimpArgs false

theorem own : ownKnob Try.prog.godebug = none := by kernel_rfl
theorem cellsP : Try.prog.cellsOf 43 = 2 := by kernel_rfl
theorem cellsQ : Try.prog.cellsOf 41 = 4 := by kernel_rfl
theorem nat_u64 {n : Int} (h : (Lit.int .u64 n).wf = true) : ∃ x : Nat, n = (x : Int) := by
  simp only [Lit.wf, Bool.and_eq_true, decide_eq_true_eq] at h
  have e1 : IntKind.u64.min = 0 := by decide +kernel
  rw [e1] at h
  exact ⟨n.toNat, by omega⟩
theorem wf_u64 {x : Nat} (h : (Lit.int .u64 (x : Int)).wf = true) : okK .f64 x := by
  rw [okK64]
  simp only [Lit.wf, Bool.and_eq_true, decide_eq_true_eq] at h
  have e1 : IntKind.u64.max = 18446744073709551615 := by decide +kernel
  rw [e1] at h
  omega
theorem trod_in {H : Type} {enc : TypeId × Value → H} {P : Program} {w : World} {base fuel : Nat} {spare : Nat → Bool} {held : Bool} {t : TypeId} {cs : List Value} {x : DataW H × List MemPlace} {k : IntKind} (ht : P.underlying t = some (.int k)) (h : DataW.trod enc P w base spare held fuel t cs = some x) : ∃ n, cs = [.int k n] ∧ x = (.lit (.int k n), []) ∧ (Lit.int k n).wf = true := by
  cases fuel with
  | zero => simp [DataW.trod] at h
  | succ n =>
    unfold DataW.trod at h
    rw [ht] at h
    split at h <;> simp_all
theorem wf_f64 {x : Nat} (h : (Lit.float .f64 x).wf = true) : okK .f64 x := by
  rw [okK64]; simpa [Lit.wf] using h
theorem trod_fl {H : Type} {enc : TypeId × Value → H} {P : Program} {w : World} {base fuel : Nat} {spare : Nat → Bool} {held : Bool} {t : TypeId} {cs : List Value} {x : DataW H × List MemPlace} {k : FloatKind} (ht : P.underlying t = some (.float k)) (h : DataW.trod enc P w base spare held fuel t cs = some x) : ∃ n, cs = [.float k n] ∧ x = (.lit (.float k n), []) ∧ (Lit.float k n).wf = true := by
  cases fuel with
  | zero => simp [DataW.trod] at h
  | succ n =>
    unfold DataW.trod at h
    rw [ht] at h
    split at h <;> simp_all



set_option maxRecDepth 100000 in
set_option maxHeartbeats 20000000 in
theorem walk (X0 Y0 a0 b0 : Nat) (x1 y1 : Nat) (s2 : Nat) (s3 : Nat) (oX0 : okK .f64 X0) (oY0 : okK .f64 Y0) (oa0 : okK .f64 a0) (ob0 : okK .f64 b0) (ox1 : okK .f64 x1) (oy1 : okK .f64 y1) (os2 : okK .f64 s2) (os3 : okK .f64 s3) (w : World) :
    Calls Try.prog 6 #[.agg #[.int .u64 (X0 : Nat), .int .u64 (Y0 : Nat), .int .u64 (a0 : Nat), .int .u64 (b0 : Nat)], .agg #[.int .u64 (x1 : Nat), .int .u64 (y1 : Nat)], .int .u64 (s2 : Nat), .int .u64 (s3 : Nat)] w fun e w' => e = .returned (.bool true) ∧ Bel w w' := by
  have al := World.cell?_alloc_some
  go_enter Try.func6, Try.ntmps6
  go_wp2_with (first | (go_at_call 19; refine (lFrame_any _ _ _ _ _).mono ?_; rintro e wu ⟨rfl, hb⟩; have k_1_0 := keep hb (a := ⟨w.heap.size + 1, 0, none⟩) (v := .int .u64 ((x1 : Nat) : Int)) (by first | assumption | go_keep | exact (cell_own (by simp) _ _ _).1 | exact (cell_own (by simp) _ _ _).2); have k_1_1 := keep hb (a := ⟨w.heap.size + 1, 1, none⟩) (v := .int .u64 ((y1 : Nat) : Int)) (by first | assumption | go_keep | exact (cell_own (by simp) _ _ _).1 | exact (cell_own (by simp) _ _ _).2); have B := hide (bl_trans (a := w) (by repeat (first | exact unhide B | exact bl_refl _ | apply bl_drew | apply bl_drewN | apply bl_alloc | refine bl_set ?_ (by simp <;> omega))) hb); clear hb))
  go_region_held3 (fun w1 => w1.cell? ⟨w.heap.size + 1, 0, none⟩ = some (.int .u64 ((x1 : Nat) : Int)) ∧ w1.cell? ⟨w.heap.size + 1, 1, none⟩ = some (.int .u64 ((y1 : Nat) : Int)) ∧ w1.cell? ⟨wu.heap.size, 0, none⟩ = some (.float .f64 X0) ∧ w1.cell? ⟨wu.heap.size, 1, none⟩ = some (.float .f64 Y0) ∧ w1.cell? ⟨wu.heap.size, 2, none⟩ = some (.complex .f64 a0 b0)) (first | ((try go_split_ands); refine ⟨?_, ?_, ?_, ?_, ?_⟩ <;> (first | ((repeat' (first | (with_reducible assumption) | (with_reducible refine up_drew ?_) | (with_reducible refine up_drewN ?_) | (with_reducible refine up_alloc ?_) | (with_reducible refine keep hb ?_) | (with_reducible refine up_set2 ?_ ?_) | omega)); done) | go_keep)))
    (first | (go_at_call 20; refine (lVec_any _ _ _).mono ?_; rintro e w1 ⟨rfl, hb⟩; have B := hide (bl_trans (a := w) (by repeat (first | exact unhide B | exact bl_refl _ | apply bl_drew | apply bl_drewN | apply bl_alloc | refine bl_set ?_ (by simp <;> omega))) hb)) | (go_at_call 33; refine (lf_any _ _).mono ?_; rintro e w1 ⟨rfl, rfl⟩) | (go_at_call 15; refine (gMove_any _ _ _ _ _ _ _ _ _).mono ?_; rintro e w1 ⟨p1, p2, q1, q2, hM1, hT1, rfl, hb⟩; have B := hide (bl_trans (a := w) (by repeat (first | exact unhide B | exact bl_refl _ | apply bl_drew | apply bl_drewN | apply bl_alloc | refine bl_set ?_ (by simp <;> omega))) hb)) | (go_at_call 34; refine (rMove_any _ _ _ _ _ _ _ _ _).mono ?_; rintro e w1 ⟨p3, p4, q3, q4, hM2, hT2, rfl, hb⟩; have B := hide (bl_trans (a := w) (by repeat (first | exact unhide B | exact bl_refl _ | apply bl_drew | apply bl_drewN | apply bl_alloc | refine bl_set ?_ (by simp <;> omega))) hb)) | (go_at_call 22; refine (fSame_true _ _ _ _ _ _ _ _ _ hM1.ok (tmr_ok hT1) hM2.ok (tmr_ok hT2) (hM1.sm hM2) (hT1.sm (fun _ _ a b => res_congr (smK_self _ _) (smK_self _ _) a b) hT2)).mono ?_; rintro e w1 ⟨rfl, hb⟩; have B := hide (bl_trans (a := w) (by repeat (first | exact unhide B | exact bl_refl _ | apply bl_drew | apply bl_drewN | apply bl_alloc | refine bl_set ?_ (by simp <;> omega))) hb)))
  all_goals go_wp2
  all_goals (go_ret; exact ⟨rfl, (by repeat (first | exact unhide B | exact bl_refl _ | apply bl_drew | apply bl_drewN | apply bl_alloc | refine bl_set ?_ (by simp <;> omega)))⟩)

set_option maxRecDepth 100000 in
theorem lifted (os : Os) (started : os.Started) (H : Type) (enc : TypeId × Value → H) :
    ReturnsInHanded {} Try.checked os 6 .any (Rows.frameMovesSpec.pre6 enc Try.prog Try.f6 Rows.frameMovesRow.domain false) (Rows.frameMovesSpec.post enc Try.prog Try.f6 false true false false) := by
  refine returnsInHanded_of_change (C := Try.checked) own started (by kernel_rfl) Try.func6
    (ChangeSpec.witness6 (enc := enc) (C := Try.checked) false ⟨#[], #[.agg #[.int .u64 0, .int .u64 0, .int .u64 0, .int .u64 0], .agg #[.int .u64 0, .int .u64 0], .int .u64 0, .int .u64 0], []⟩ 8 (by kernel_rfl) (by kernel_rfl) (by kernel_rfl) (by kernel_rfl)) ?_
  intro W base args ds gs before hval0 hW hcnd _
  have hval : ∀ (j : Nat) t v, Try.f6.params[j]? = some t → args[j]? = some v → Value.okWide Try.prog W .any base t v := hval0
  have hW' := hW
  obtain ⟨p, q, hA0, hV, rfl, hfz, hnd⟩ := hW
  have hA : DataW.TrodAll enc Try.prog W 0 (fun _ => true) true Try.f6.params.toList args.toList ds p := hA0
  rw [Try.params6] at hA hval
  obtain ⟨v0, vs0, d0, ds0, p0, q0, hargs, rfl, rfl, h0, r0⟩ := trodAll_cons hA
  obtain ⟨v1, vs1, d1, ds1, p1, q1, rfl, rfl, rfl, h1, r1⟩ := trodAll_cons r0
  obtain ⟨v2, vs2, d2, ds2, p2, q2, rfl, rfl, rfl, h2, r2⟩ := trodAll_cons r1
  obtain ⟨v3, vs3, d3, ds3, p3, q3, rfl, rfl, rfl, h3, r3⟩ := trodAll_cons r2
  obtain ⟨rfl, rfl, rfl⟩ := trodAll_nil r3
  obtain rfl : args = #[v0, v1, v2, v3] := by cases args; simp_all
  obtain ⟨rfl, rfl⟩ := trodVars_none hV
  obtain ⟨_, _, _, _, _, _, _, _, _, rfl, rfl, rfl, hz00, hz01, hz02, hz03⟩ := open_agg4 Try.underlying41 (by kernel_rfl) cellsQ (hval 0 41 v0 rfl rfl) h0
  obtain ⟨X0, e0, rfl, wX0⟩ := trod_in Try.underlying39 hz00
  simp at e0
  subst e0
  obtain ⟨X0, rfl⟩ := nat_u64 wX0
  obtain ⟨Y0, e0, rfl, wY0⟩ := trod_in Try.underlying39 hz01
  simp at e0
  subst e0
  obtain ⟨Y0, rfl⟩ := nat_u64 wY0
  obtain ⟨a0, e0, rfl, wa0⟩ := trod_in Try.underlying39 hz02
  simp at e0
  subst e0
  obtain ⟨a0, rfl⟩ := nat_u64 wa0
  obtain ⟨b0, e0, rfl, wb0⟩ := trod_in Try.underlying39 hz03
  simp at e0
  subst e0
  obtain ⟨b0, rfl⟩ := nat_u64 wb0
  obtain ⟨c1, k1, z1, u1, m1, rfl, rfl, rfl, hz1, hu1⟩ := open_agg2 Try.underlying43 (by kernel_rfl) cellsP (hval 1 43 v1 rfl rfl) h1
  obtain ⟨x1, e0, rfl, wx1⟩ := trod_in Try.underlying39 hz1
  obtain ⟨y1, e1, rfl, wy1⟩ := trod_in Try.underlying39 hu1
  simp at e0 e1
  subst e0 e1
  obtain ⟨x1, rfl⟩ := nat_u64 wx1
  obtain ⟨y1, rfl⟩ := nat_u64 wy1
  obtain ⟨s2, rfl, rfl, rfl, ws2⟩ := open_int Try.underlying39 (hval 2 39 v2 rfl rfl) h2
  obtain ⟨s2, rfl⟩ := nat_u64 ws2
  obtain ⟨s3, rfl, rfl, rfl, ws3⟩ := open_int Try.underlying39 (hval 3 39 v3 rfl rfl) h3
  obtain ⟨s3, rfl⟩ := nat_u64 ws3
  clear hA0 hval0
  simp only [List.append_nil] at hW'
  refine (walk X0 Y0 a0 b0 x1 y1 s2 s3 (wf_u64 wX0) (wf_u64 wY0) (wf_u64 wa0) (wf_u64 wb0) (wf_u64 wx1) (wf_u64 wy1) (wf_u64 ws2) (wf_u64 ws3) W).mono fun e W' ⟨he, hg0⟩ => ?_
  have hg := hg0.grown
  subst he
  exact ⟨_, rfl, post_of_same (pa := []) (pv := []) hW' (fun _ _ _ => (trodAll_cons_mk (shut_bool Try.underlying4 _) trodAll_mk0)) (fun sp _ => (trodAll_cons_mk (shut_agg4 (y0 := (.lit (.int .u64 X0), [])) (y1 := (.lit (.int .u64 Y0), [])) (y2 := (.lit (.int .u64 a0), [])) (y3 := (.lit (.int .u64 b0), [])) Try.underlying41 (by kernel_rfl) cellsQ ⟨1, by simp [DataW.trod, Try.underlying39, wX0]⟩ ⟨1, by simp [DataW.trod, Try.underlying39, wY0]⟩ ⟨1, by simp [DataW.trod, Try.underlying39, wa0]⟩ ⟨1, by simp [DataW.trod, Try.underlying39, wb0]⟩) (trodAll_cons_mk (shut_agg2 (y0 := (.lit (.int .u64 x1), [])) (y1 := (.lit (.int .u64 y1), [])) Try.underlying43 (by kernel_rfl) cellsP ⟨1, by simp [DataW.trod, Try.underlying39, wx1]⟩ ⟨1, by simp [DataW.trod, Try.underlying39, wy1]⟩) (trodAll_cons_mk (shut_int Try.underlying39 ws2) (trodAll_cons_mk (shut_int Try.underlying39 ws3) trodAll_mk0))))) (fun _ _ => rfl) rfl
    (hg.frame _) hg.2.1 (ok_one (by kernel_rfl) rfl (okWide_bool_mk Try.underlying4 _))⟩

theorem over : Rows.frameMovesRow.holds Try.pinned (OpenSpec.ofChange Rows.frameMovesSpec) :=
  OpenClaim.holds_of_wide 6 Try.f6 rfl rfl rfl rfl rfl rfl rfl ⟨rfl, rfl, rfl, rfl, rfl⟩ rfl rfl rfl rfl rfl (by kernel_rfl) Try.func6 (by kernel_rfl)
    (of_decide_eq_true (by kernel_rfl)) (by unfold Func.isWrapper; first | (rw [if_pos (by decide +kernel)]; kernel_rfl) | (rw [if_neg (by decide +kernel)]; exact ⟨rfl, rfl⟩))
    (fun os started H enc _ => lifted os started H enc)

theorem proved : Rows.FrameMovesSaid :=
  over
#print axioms proved
end Go.Proofs.Ytoljkokcgmigeaa.frameMoves
