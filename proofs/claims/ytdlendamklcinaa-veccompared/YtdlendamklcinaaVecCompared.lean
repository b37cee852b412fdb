/-
  VecCompared: of every two ways and bound vec.Same, vec.Finite and vec.Within answer as the chapter's reference does; no condition.
-/
import Derived.Test.YtdlendamklcinaaRows
import Derived.Test.YtdlendamklcinaaValive
import Derived.WalkKit
import Derived.ProofKit
import Derived.OpenShut
import Derived.WalkLawsBesides
import Derived.WalkSpells
import Derived.Lib.SmallJoins
import Derived.Laws.Cover2
import Derived.Deep.RegionHeld3
namespace Go.Proofs.Ytdlendamklcinaa.vecCompared
open Go.ChangeShapes Go.WideShapes Go.ChangeAt Go.RowKit Go.Joins
set_option linter.unusedVariables false
set_option linter.unusedSimpArgs false

theorem own : ownKnob Try.prog.godebug = none := by kernel_rfl
theorem cellsV : Try.prog.cellsOf 24 = 2 := by kernel_rfl
theorem wf_f64 {x : Nat} (h : (Lit.float .f64 x).wf = true) : okK .f64 x := by
  rw [okK64]; simpa [Lit.wf] using h
theorem trod_fl {H : Type} {enc : TypeId × Value → H} {P : Program} {w : World} {base fuel : Nat} {spare : Nat → Bool} {held : Bool} {t : TypeId} {cs : List Value} {x : DataW H × List MemPlace} {k : FloatKind} (ht : P.underlying t = some (.float k)) (h : DataW.trod enc P w base spare held fuel t cs = some x) : ∃ n, cs = [.float k n] ∧ x = (.lit (.float k n), []) ∧ (Lit.float k n).wf = true := by
  cases fuel with
  | zero => simp [DataW.trod] at h
  | succ n =>
    unfold DataW.trod at h
    rw [ht] at h
    split at h <;> simp_all

set_option maxHeartbeats 4000000 in
theorem walk (x0 y0 : Nat) (x1 y1 : Nat) (s2 : Nat) (ox0 : okK .f64 x0) (oy0 : okK .f64 y0) (ox1 : okK .f64 x1) (oy1 : okK .f64 y1) (os2 : okK .f64 s2) (w : World) :
    Calls Try.prog 6 #[.agg #[.float .f64 x0, .float .f64 y0], .agg #[.float .f64 x1, .float .f64 y1], .float .f64 s2] w fun e w' => e = .returned (.bool true) ∧ Bel w w' := by
  have s6 := smK_self .f64
  go_enter Try.func6, Try.ntmps6
  go_wp2_with (first | (go_at_call 9; refine (alive_any _).mono ?_; rintro e w' ⟨rfl, hb⟩; have k00 := keep hb (a := ⟨w.heap.size, 0, none⟩) (v := .float .f64 x0) (by go_keep); have k01 := keep hb (a := ⟨w.heap.size, 1, none⟩) (v := .float .f64 y0) (by go_keep); have k10 := keep hb (a := ⟨w.heap.size + 1, 0, none⟩) (v := .float .f64 x1) (by go_keep); have k11 := keep hb (a := ⟨w.heap.size + 1, 1, none⟩) (v := .float .f64 y1) (by go_keep); have B := hide (bl_trans (a := w) (by repeat (first | exact unhide B | exact bl_refl _ | apply bl_drew | apply bl_drewN | apply bl_alloc | refine bl_set ?_ (by simp <;> omega))) hb); clear hb))
  go_region_held3 (fun w1 => w1.cell? ⟨w.heap.size, 0, none⟩ = some (.float .f64 x0) ∧ w1.cell? ⟨w.heap.size, 1, none⟩ = some (.float .f64 y0) ∧ w1.cell? ⟨w.heap.size + 1, 0, none⟩ = some (.float .f64 x1) ∧ w1.cell? ⟨w.heap.size + 1, 1, none⟩ = some (.float .f64 y1)) (first | go_keep | (go_split_ands; exact ⟨keep hb (by assumption), keep hb (by assumption), keep hb (by assumption), keep hb (by assumption)⟩))
    (first | (go_at_call 11; refine (vAdd_any _ _ _ _ _).mono ?_; rintro e w' ⟨xv, yv, hvAdd, rfl, hb⟩; have B := hide (bl_trans (a := w) (by repeat (first | exact unhide B | exact bl_refl _ | apply bl_drew | apply bl_drewN | apply bl_alloc | refine bl_set ?_ (by simp <;> omega))) hb)) | (go_at_call 13; refine (vSub_any _ _ _ _ _).mono ?_; rintro e w' ⟨xv, yv, hvSub, rfl, hb⟩; have B := hide (bl_trans (a := w) (by repeat (first | exact unhide B | exact bl_refl _ | apply bl_drew | apply bl_drewN | apply bl_alloc | refine bl_set ?_ (by simp <;> omega))) hb)) | (go_at_call 15; refine (vScale_any _ _ _ _).mono ?_; rintro e w' ⟨xv, yv, hvScale, rfl, hb⟩; have B := hide (bl_trans (a := w) (by repeat (first | exact unhide B | exact bl_refl _ | apply bl_drew | apply bl_drewN | apply bl_alloc | refine bl_set ?_ (by simp <;> omega))) hb)) | (go_at_call 19; refine (vMore_any _ _ _ _ _ _).mono ?_; rintro e w' ⟨xv, yv, hvMore, rfl, hb⟩; have B := hide (bl_trans (a := w) (by repeat (first | exact unhide B | exact bl_refl _ | apply bl_drew | apply bl_drewN | apply bl_alloc | refine bl_set ?_ (by simp <;> omega))) hb)) | (go_at_call 21; refine (vMiddle_any _ _ _ _ _).mono ?_; rintro e w' ⟨xv, yv, hvMiddle, rfl, hb⟩; have B := hide (bl_trans (a := w) (by repeat (first | exact unhide B | exact bl_refl _ | apply bl_drew | apply bl_drewN | apply bl_alloc | refine bl_set ?_ (by simp <;> omega))) hb)) | (go_at_call 24; refine (vDot_any _ _ _ _ _).mono ?_; rintro e w' ⟨rv, hvDot, rfl, hb⟩; have B := hide (bl_trans (a := w) (by repeat (first | exact unhide B | exact bl_refl _ | apply bl_drew | apply bl_drewN | apply bl_alloc | refine bl_set ?_ (by simp <;> omega))) hb)) | (go_at_call 26; refine (vCross_any _ _ _ _ _).mono ?_; rintro e w' ⟨rv, hvCross, rfl, hb⟩; have B := hide (bl_trans (a := w) (by repeat (first | exact unhide B | exact bl_refl _ | apply bl_drew | apply bl_drewN | apply bl_alloc | refine bl_set ?_ (by simp <;> omega))) hb)) | (go_at_call 28; refine (vSquare_any _ _ _).mono ?_; rintro e w' ⟨rv, hvSquare, rfl, hb⟩; have B := hide (bl_trans (a := w) (by repeat (first | exact unhide B | exact bl_refl _ | apply bl_drew | apply bl_drewN | apply bl_alloc | refine bl_set ?_ (by simp <;> omega))) hb)) | (go_at_call 30; refine (vLength_any _ _ _).mono ?_; rintro e w' ⟨rv, hvLength, rfl, hb⟩; have B := hide (bl_trans (a := w) (by repeat (first | exact unhide B | exact bl_refl _ | apply bl_drew | apply bl_drewN | apply bl_alloc | refine bl_set ?_ (by simp <;> omega))) hb)) | (go_at_call 38; refine (vSpin_any _ _ _ _).mono ?_; rintro e w' ⟨xv, yv, hvSpin, rfl, hb⟩; have B := hide (bl_trans (a := w) (by repeat (first | exact unhide B | exact bl_refl _ | apply bl_drew | apply bl_drewN | apply bl_alloc | refine bl_set ?_ (by simp <;> omega))) hb)) | (go_at_call 32; refine (vUnit_any _ _ _).mono ?_; rintro e w' ⟨xvu, yvu, bvu, hvUnit, rfl, hb⟩; have B := hide (bl_trans (a := w) (by repeat (first | exact unhide B | exact bl_refl _ | apply bl_drew | apply bl_drewN | apply bl_alloc | refine bl_set ?_ (by simp <;> omega))) hb)) | (go_at_call 17; refine (vNeg_any _ _ _).mono ?_; rintro e w' ⟨rfl, hb⟩; have B := hide (bl_trans (a := w) (by repeat (first | exact unhide B | exact bl_refl _ | apply bl_drew | apply bl_drewN | apply bl_alloc | refine bl_set ?_ (by simp <;> omega))) hb)) | (go_at_call 34; refine (vLeft_any _ _ _).mono ?_; rintro e w' ⟨rfl, hb⟩; have B := hide (bl_trans (a := w) (by repeat (first | exact unhide B | exact bl_refl _ | apply bl_drew | apply bl_drewN | apply bl_alloc | refine bl_set ?_ (by simp <;> omega))) hb)) | (go_at_call 36; refine (vRight_any _ _ _).mono ?_; rintro e w' ⟨rfl, hb⟩; have B := hide (bl_trans (a := w) (by repeat (first | exact unhide B | exact bl_refl _ | apply bl_drew | apply bl_drewN | apply bl_alloc | refine bl_set ?_ (by simp <;> omega))) hb)) | (go_at_call 40; refine (vSame_any _ _ _ _ _).mono ?_; rintro e w' ⟨rfl, hb⟩; have B := hide (bl_trans (a := w) (by repeat (first | exact unhide B | exact bl_refl _ | apply bl_drew | apply bl_drewN | apply bl_alloc | refine bl_set ?_ (by simp <;> omega))) hb)) | (go_at_call 42; refine (vFinite_any _ _ _).mono ?_; rintro e w' ⟨rfl, hb⟩; have B := hide (bl_trans (a := w) (by repeat (first | exact unhide B | exact bl_refl _ | apply bl_drew | apply bl_drewN | apply bl_alloc | refine bl_set ?_ (by simp <;> omega))) hb)) | (go_at_call 44; refine (vWithin_any _ _ _ _).mono ?_; rintro e w' ⟨rfl, hb⟩; have B := hide (bl_trans (a := w) (by repeat (first | exact unhide B | exact bl_refl _ | apply bl_drew | apply bl_drewN | apply bl_alloc | refine bl_set ?_ (by simp <;> omega))) hb)) | (go_at_call 12; refine (rAdd_any _ _ _ _ _).mono ?_; rintro e w' ⟨xr, yr, hrAdd, rfl, hb⟩; have B := hide (bl_trans (a := w) (by repeat (first | exact unhide B | exact bl_refl _ | apply bl_drew | apply bl_drewN | apply bl_alloc | refine bl_set ?_ (by simp <;> omega))) hb)) | (go_at_call 14; refine (rSub_any _ _ _ _ _).mono ?_; rintro e w' ⟨xr, yr, hrSub, rfl, hb⟩; have B := hide (bl_trans (a := w) (by repeat (first | exact unhide B | exact bl_refl _ | apply bl_drew | apply bl_drewN | apply bl_alloc | refine bl_set ?_ (by simp <;> omega))) hb)) | (go_at_call 16; refine (rScale_any _ _ _ _).mono ?_; rintro e w' ⟨xr, yr, hrScale, rfl, hb⟩; have B := hide (bl_trans (a := w) (by repeat (first | exact unhide B | exact bl_refl _ | apply bl_drew | apply bl_drewN | apply bl_alloc | refine bl_set ?_ (by simp <;> omega))) hb)) | (go_at_call 20; refine (rMore_any _ _ _ _ _ _).mono ?_; rintro e w' ⟨xr, yr, hrMore, rfl, hb⟩; have B := hide (bl_trans (a := w) (by repeat (first | exact unhide B | exact bl_refl _ | apply bl_drew | apply bl_drewN | apply bl_alloc | refine bl_set ?_ (by simp <;> omega))) hb)) | (go_at_call 22; refine (rMiddle_any _ _ _ _ _).mono ?_; rintro e w' ⟨xr, yr, hrMiddle, rfl, hb⟩; have B := hide (bl_trans (a := w) (by repeat (first | exact unhide B | exact bl_refl _ | apply bl_drew | apply bl_drewN | apply bl_alloc | refine bl_set ?_ (by simp <;> omega))) hb)) | (go_at_call 25; refine (rDot_any _ _ _ _ _).mono ?_; rintro e w' ⟨rr, hrDot, rfl, hb⟩; have B := hide (bl_trans (a := w) (by repeat (first | exact unhide B | exact bl_refl _ | apply bl_drew | apply bl_drewN | apply bl_alloc | refine bl_set ?_ (by simp <;> omega))) hb)) | (go_at_call 27; refine (rCross_any _ _ _ _ _).mono ?_; rintro e w' ⟨rr, hrCross, rfl, hb⟩; have B := hide (bl_trans (a := w) (by repeat (first | exact unhide B | exact bl_refl _ | apply bl_drew | apply bl_drewN | apply bl_alloc | refine bl_set ?_ (by simp <;> omega))) hb)) | (go_at_call 29; refine (rSquare_any _ _ _).mono ?_; rintro e w' ⟨rr, hrSquare, rfl, hb⟩; have B := hide (bl_trans (a := w) (by repeat (first | exact unhide B | exact bl_refl _ | apply bl_drew | apply bl_drewN | apply bl_alloc | refine bl_set ?_ (by simp <;> omega))) hb)) | (go_at_call 31; refine (rLength_any _ _ _).mono ?_; rintro e w' ⟨rr, hrLength, rfl, hb⟩; have B := hide (bl_trans (a := w) (by repeat (first | exact unhide B | exact bl_refl _ | apply bl_drew | apply bl_drewN | apply bl_alloc | refine bl_set ?_ (by simp <;> omega))) hb)) | (go_at_call 39; refine (rSpin_any _ _ _ _).mono ?_; rintro e w' ⟨xr, yr, hrSpin, rfl, hb⟩; have B := hide (bl_trans (a := w) (by repeat (first | exact unhide B | exact bl_refl _ | apply bl_drew | apply bl_drewN | apply bl_alloc | refine bl_set ?_ (by simp <;> omega))) hb)) | (go_at_call 33; refine (rUnit_any _ _ _).mono ?_; rintro e w' ⟨xru, yru, bru, hrUnit, rfl, hb⟩; have B := hide (bl_trans (a := w) (by repeat (first | exact unhide B | exact bl_refl _ | apply bl_drew | apply bl_drewN | apply bl_alloc | refine bl_set ?_ (by simp <;> omega))) hb)) | (go_at_call 18; refine (rNeg_any _ _ _ (by assumption) (by assumption)).mono ?_; rintro e w' ⟨rfl, hb⟩; have B := hide (bl_trans (a := w) (by repeat (first | exact unhide B | exact bl_refl _ | apply bl_drew | apply bl_drewN | apply bl_alloc | refine bl_set ?_ (by simp <;> omega))) hb)) | (go_at_call 35; refine (rLeft_any _ _ _ (by assumption) (by assumption)).mono ?_; rintro e w' ⟨rfl, hb⟩; have B := hide (bl_trans (a := w) (by repeat (first | exact unhide B | exact bl_refl _ | apply bl_drew | apply bl_drewN | apply bl_alloc | refine bl_set ?_ (by simp <;> omega))) hb)) | (go_at_call 37; refine (rRight_any _ _ _ (by assumption) (by assumption)).mono ?_; rintro e w' ⟨rfl, hb⟩; have B := hide (bl_trans (a := w) (by repeat (first | exact unhide B | exact bl_refl _ | apply bl_drew | apply bl_drewN | apply bl_alloc | refine bl_set ?_ (by simp <;> omega))) hb)) | (go_at_call 41; refine (rSame_any _ _ _ _ _).mono ?_; rintro e w' ⟨rfl, hb⟩; have B := hide (bl_trans (a := w) (by repeat (first | exact unhide B | exact bl_refl _ | apply bl_drew | apply bl_drewN | apply bl_alloc | refine bl_set ?_ (by simp <;> omega))) hb)) | (go_at_call 43; refine (rFinite_any _ _ _).mono ?_; rintro e w' ⟨rfl, hb⟩; have B := hide (bl_trans (a := w) (by repeat (first | exact unhide B | exact bl_refl _ | apply bl_drew | apply bl_drewN | apply bl_alloc | refine bl_set ?_ (by simp <;> omega))) hb)) | (go_at_call 45; refine (rWithin_any _ _ _ (by assumption) (by assumption) (by assumption) _).mono ?_; rintro e w' ⟨rfl, hb⟩; have B := hide (bl_trans (a := w) (by repeat (first | exact unhide B | exact bl_refl _ | apply bl_drew | apply bl_drewN | apply bl_alloc | refine bl_set ?_ (by simp <;> omega))) hb)) | (go_at_call 10; refine (is_true _ _ _ _ _ (by first | exact smK_self _ _ | exact (AddR.sm (by assumption) (by assumption)).1 | exact (SubR.sm (by assumption) (by assumption)).1 | exact (ScaleR.sm (by assumption) (by assumption)).1 | exact (MoreR.sm (by assumption) (by assumption)).1 | exact (MiddleR.sm (by assumption) (by assumption)).1 | exact (SpinR.sm (by assumption) (by assumption)).1 | exact (UnitR.sm (by assumption) (by assumption)).1) (by first | exact smK_self _ _ | exact (AddR.sm (by assumption) (by assumption)).2 | exact (SubR.sm (by assumption) (by assumption)).2 | exact (ScaleR.sm (by assumption) (by assumption)).2 | exact (MoreR.sm (by assumption) (by assumption)).2 | exact (MiddleR.sm (by assumption) (by assumption)).2 | exact (SpinR.sm (by assumption) (by assumption)).2 | exact (UnitR.sm (by assumption) (by assumption)).2.1)).mono ?_; rintro e w' ⟨rfl, hb⟩; have B := hide (bl_trans (a := w) (by repeat (first | exact unhide B | exact bl_refl _ | apply bl_drew | apply bl_drewN | apply bl_alloc | refine bl_set ?_ (by simp <;> omega))) hb)) | (go_at_call 23; refine (one_true _ _ _ (by first | exact smK_self _ _ | exact DotR.sm (by assumption) (by assumption) | exact CrossR.sm (by assumption) (by assumption) | exact LengthR.sm (by assumption) (by assumption))).mono ?_; rintro e w' ⟨rfl, rfl⟩))
  all_goals go_wp2
  go_ret
  exact ⟨rfl, unhide B⟩

set_option maxRecDepth 100000 in
theorem lifted (os : Os) (started : os.Started) (H : Type) (enc : TypeId × Value → H) :
    ReturnsInHanded {} Try.checked os 6 .any (Rows.vecComparedSpec.pre6 enc Try.prog Try.f6 Rows.vecComparedRow.domain false) (Rows.vecComparedSpec.post enc Try.prog Try.f6 false true false false) := by
  refine returnsInHanded_of_change (C := Try.checked) own started (by kernel_rfl) Try.func6
    (ChangeSpec.witness6 (enc := enc) (C := Try.checked) false ⟨#[], #[.agg #[.float .f64 0, .float .f64 0], .agg #[.float .f64 0, .float .f64 0], .float .f64 0], []⟩ 8 (by kernel_rfl) (by kernel_rfl) (by kernel_rfl) (by kernel_rfl)) ?_
  intro W base args ds gs before hval0 hW hcnd _
  have hval : ∀ (j : Nat) t v, Try.f6.params[j]? = some t → args[j]? = some v → Value.okWide Try.prog W .any base t v := hval0
  have hW' := hW
  obtain ⟨p, q, hA0, hV, rfl, hfz, hnd⟩ := hW
  have hA : DataW.TrodAll enc Try.prog W 0 (fun _ => true) true Try.f6.params.toList args.toList ds p := hA0
  rw [Try.params6] at hA hval
  obtain ⟨v0, vs0, d0, ds0, p0, q0, hargs, rfl, rfl, h0, r0⟩ := trodAll_cons hA
  obtain ⟨v1, vs1, d1, ds1, p1, q1, rfl, rfl, rfl, h1, r1⟩ := trodAll_cons r0
  obtain ⟨v2, vs2, d2, ds2, p2, q2, rfl, rfl, rfl, h2, r2⟩ := trodAll_cons r1
  obtain ⟨rfl, rfl, rfl⟩ := trodAll_nil r2
  obtain rfl : args = #[v0, v1, v2] := by cases args; simp_all
  obtain ⟨rfl, rfl⟩ := trodVars_none hV
  obtain ⟨c0, k0, z0, u0, m0, rfl, rfl, rfl, hz0, hu0⟩ := open_agg2 Try.underlying24 (by kernel_rfl) cellsV (hval 0 24 v0 rfl rfl) h0
  obtain ⟨x0, e0, rfl, wx0⟩ := trod_fl Try.underlying22 hz0
  obtain ⟨y0, e1, rfl, wy0⟩ := trod_fl Try.underlying22 hu0
  simp at e0 e1
  subst e0 e1
  obtain ⟨c1, k1, z1, u1, m1, rfl, rfl, rfl, hz1, hu1⟩ := open_agg2 Try.underlying24 (by kernel_rfl) cellsV (hval 1 24 v1 rfl rfl) h1
  obtain ⟨x1, e0, rfl, wx1⟩ := trod_fl Try.underlying22 hz1
  obtain ⟨y1, e1, rfl, wy1⟩ := trod_fl Try.underlying22 hu1
  simp at e0 e1
  subst e0 e1
  obtain ⟨s2, rfl, rfl, rfl, ws2⟩ := open_float Try.underlying22 (hval 2 22 v2 rfl rfl) h2
  clear hA0 hval0
  simp only [List.append_nil] at hW'
  refine (walk x0 y0 x1 y1 s2 (wf_f64 wx0) (wf_f64 wy0) (wf_f64 wx1) (wf_f64 wy1) (wf_f64 ws2) W).mono fun e W' ⟨he, hg0⟩ => ?_
  have hg := hg0.grown
  subst he
  exact ⟨_, rfl, post_of_same (pa := []) (pv := []) hW' (fun _ _ _ => (trodAll_cons_mk (shut_bool Try.underlying4 _) trodAll_mk0)) (fun sp _ => (trodAll_cons_mk (shut_agg2 (y0 := (.lit (.float .f64 x0), [])) (y1 := (.lit (.float .f64 y0), [])) Try.underlying24 (by kernel_rfl) cellsV ⟨1, by simp [DataW.trod, Try.underlying22, wx0]⟩ ⟨1, by simp [DataW.trod, Try.underlying22, wy0]⟩) (trodAll_cons_mk (shut_agg2 (y0 := (.lit (.float .f64 x1), [])) (y1 := (.lit (.float .f64 y1), [])) Try.underlying24 (by kernel_rfl) cellsV ⟨1, by simp [DataW.trod, Try.underlying22, wx1]⟩ ⟨1, by simp [DataW.trod, Try.underlying22, wy1]⟩) (trodAll_cons_mk (shut_float Try.underlying22 ws2) trodAll_mk0)))) (fun _ _ => rfl) rfl
    (hg.frame _) hg.2.1 (ok_one (by kernel_rfl) rfl (okWide_bool_mk Try.underlying4 _))⟩

theorem over : Rows.vecComparedRow.holds Try.pinned (OpenSpec.ofChange Rows.vecComparedSpec) :=
  OpenClaim.holds_of_wide 6 Try.f6 rfl rfl rfl rfl rfl rfl rfl ⟨rfl, rfl, rfl, rfl, rfl⟩ rfl rfl rfl rfl rfl (by kernel_rfl) Try.func6 (by kernel_rfl)
    (of_decide_eq_true (by kernel_rfl)) (by unfold Func.isWrapper; first | (rw [if_pos (by decide +kernel)]; kernel_rfl) | (rw [if_neg (by decide +kernel)]; exact ⟨rfl, rfl⟩))
    (fun os started H enc _ => lifted os started H enc)

theorem proved : Rows.VecComparedSaid :=
  over
#print axioms proved
end Go.Proofs.Ytdlendamklcinaa.vecCompared
