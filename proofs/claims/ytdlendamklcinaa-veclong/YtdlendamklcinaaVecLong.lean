/-
  VecLong: a way of the length 1 is nearly so long wherever its square is at least 2^-900, points where the way points, is there just where the square is above nought and finite, and turned it is the turned way's; for every way, no condition.
-/
import Derived.Test.YtdlendamklcinaaRows
import Derived.Test.YtdlendamklcinaaValive
import Derived.Test.YtdlendamklcinaaRndz
import Derived.Test.YtdlendamklcinaaBel
import Derived.WalkKit
import Derived.ProofKit
import Derived.OpenShut
import Derived.WalkLawsBesides
import Derived.WalkSpells
import Derived.Lib.SmallJoins
import Derived.Laws.Cover2
import Derived.Deep.RegionHeld3
namespace Go.Proofs.Ytdlendamklcinaa.vecLong
open Go.ChangeShapes Go.WideShapes Go.ChangeAt Go.RowKit Go.Joins
set_option linter.unusedVariables false
set_option linter.unusedSimpArgs false

theorem own : ownKnob Try.prog.godebug = none := by kernel_rfl
theorem cellsV : Try.prog.cellsOf 24 = 2 := by kernel_rfl
theorem wf_f64 {x : Nat} (h : (Lit.float .f64 x).wf = true) : okK .f64 x := by
  rw [okK64]; simpa [Lit.wf] using h
theorem trod_fl {H : Type} {enc : TypeId × Value → H} {P : Program} {w : World} {base fuel : Nat} {spare : Nat → Bool} {held : Bool} {t : TypeId} {cs : List Value} {x : DataW H × List MemPlace} {k : FloatKind} (ht : P.underlying t = some (.float k)) (h : DataW.trod enc P w base spare held fuel t cs = some x) : ∃ n, cs = [.float k n] ∧ x = (.lit (.float k n), []) ∧ (Lit.float k n).wf = true := by
  cases fuel with
  | zero => simp [DataW.trod] at h
  | succ n =>
    unfold DataW.trod at h
    rw [ht] at h
    split at h <;> simp_all

set_option maxRecDepth 100000 in
set_option maxHeartbeats 20000000 in
theorem walk (x0 y0 : Nat) (ox0 : okK .f64 x0) (oy0 : okK .f64 y0) (w : World) :
    Calls Try.prog 8 #[.agg #[.float .f64 x0, .float .f64 y0]] w fun e w' => e = .returned (.bool true) ∧ Bel w w' := by
  have al := World.cell?_alloc_some
  have c1 := cmp_eq .f64
  have c2 := cmp_lt .f64
  have c3 := cmp_gt .f64
  have c4 := cmp_le2 .f64
  have c5 := cmp_ge2 .f64
  have q1 := fun (x y : Nat) (w : World) => run_equalIn_float Try.prog w 22 .f64 x y Try.underlying22
  have e0 : eqK .f64 0 0 = true := by decide +kernel
  go_enter Try.func8, Try.ntmps8
  go_wp2_with (first | (go_at_call 9; refine (alive_any _).mono ?_; rintro e w' ⟨rfl, hb⟩; have k00 := keep hb (a := ⟨w.heap.size, 0, none⟩) (v := .float .f64 x0) (by go_keep); have k01 := keep hb (a := ⟨w.heap.size, 1, none⟩) (v := .float .f64 y0) (by go_keep); have B := hide (bl_trans (a := w) (by repeat (first | exact unhide B | exact bl_refl _ | apply bl_drew | apply bl_drewN | apply bl_alloc | refine bl_set ?_ (by simp <;> omega))) hb); clear hb) | (go_at_call 32; have z := hUn; clear z; refine (vUnit_any _ _ _).mono ?_; rintro e wl ⟨xl, yl, bl, hUl, rfl, hb⟩; obtain ⟨rfl, tl⟩ := unit_left hU hUl ox0 oy0; have k_0_0 := keep hb (a := ⟨w.heap.size, 0, none⟩) (v := .float .f64 x0) (by first | assumption | go_keep); have k_0_1 := keep hb (a := ⟨w.heap.size, 1, none⟩) (v := .float .f64 y0) (by first | assumption | go_keep); have k_1_0 := keep hb (a := ⟨wu.heap.size, 0, none⟩) (v := .float .f64 xu) (by first | assumption | go_keep); have k_1_1 := keep hb (a := ⟨wu.heap.size, 1, none⟩) (v := .float .f64 yu) (by first | assumption | go_keep); have k_2_0 := keep hb (a := ⟨wn.heap.size, 0, none⟩) (v := .float .f64 xn) (by first | assumption | go_keep); have k_2_1 := keep hb (a := ⟨wn.heap.size, 1, none⟩) (v := .float .f64 yn) (by first | assumption | go_keep); have B := hide (bl_trans (a := w) (by repeat (first | exact unhide B | exact bl_refl _ | apply bl_drew | apply bl_drewN | apply bl_alloc | refine bl_set ?_ (by simp <;> omega))) hb); clear hb) | (go_at_call 32; have z := hU; clear z; refine (vUnit_any _ _ _).mono ?_; rintro e wn ⟨xn, yn, bn, hUn, rfl, hb⟩; obtain ⟨rfl, tn⟩ := unit_neg hU hUn ox0 oy0; have k_0_0 := keep hb (a := ⟨w.heap.size, 0, none⟩) (v := .float .f64 x0) (by first | assumption | go_keep); have k_0_1 := keep hb (a := ⟨w.heap.size, 1, none⟩) (v := .float .f64 y0) (by first | assumption | go_keep); have k_1_0 := keep hb (a := ⟨wu.heap.size, 0, none⟩) (v := .float .f64 xu) (by first | assumption | go_keep); have k_1_1 := keep hb (a := ⟨wu.heap.size, 1, none⟩) (v := .float .f64 yu) (by first | assumption | go_keep); have B := hide (bl_trans (a := w) (by repeat (first | exact unhide B | exact bl_refl _ | apply bl_drew | apply bl_drewN | apply bl_alloc | refine bl_set ?_ (by simp <;> omega))) hb); clear hb) | (go_at_call 32; refine (vUnit_any _ _ _).mono ?_; rintro e wu ⟨xu, yu, bu, hU, rfl, hb⟩; have k_0_0 := keep hb (a := ⟨w.heap.size, 0, none⟩) (v := .float .f64 x0) (by first | assumption | go_keep); have k_0_1 := keep hb (a := ⟨w.heap.size, 1, none⟩) (v := .float .f64 y0) (by first | assumption | go_keep); have B := hide (bl_trans (a := w) (by repeat (first | exact unhide B | exact bl_refl _ | apply bl_drew | apply bl_drewN | apply bl_alloc | refine bl_set ?_ (by simp <;> omega))) hb); clear hb) | (go_at_call 17; refine (vNeg_any _ _ _).mono ?_; rintro e w2 ⟨rfl, hb⟩; have k_0_0 := keep hb (a := ⟨w.heap.size, 0, none⟩) (v := .float .f64 x0) (by first | assumption | go_keep); have k_0_1 := keep hb (a := ⟨w.heap.size, 1, none⟩) (v := .float .f64 y0) (by first | assumption | go_keep); have k_1_0 := keep hb (a := ⟨wu.heap.size, 0, none⟩) (v := .float .f64 xu) (by first | assumption | go_keep); have k_1_1 := keep hb (a := ⟨wu.heap.size, 1, none⟩) (v := .float .f64 yu) (by first | assumption | go_keep); have B := hide (bl_trans (a := w) (by repeat (first | exact unhide B | exact bl_refl _ | apply bl_drew | apply bl_drewN | apply bl_alloc | refine bl_set ?_ (by simp <;> omega))) hb); clear hb) | (go_at_call 34; refine (vLeft_any _ _ _).mono ?_; rintro e w2 ⟨rfl, hb⟩; have k_0_0 := keep hb (a := ⟨w.heap.size, 0, none⟩) (v := .float .f64 x0) (by first | assumption | go_keep); have k_0_1 := keep hb (a := ⟨w.heap.size, 1, none⟩) (v := .float .f64 y0) (by first | assumption | go_keep); have k_1_0 := keep hb (a := ⟨wu.heap.size, 0, none⟩) (v := .float .f64 xu) (by first | assumption | go_keep); have k_1_1 := keep hb (a := ⟨wu.heap.size, 1, none⟩) (v := .float .f64 yu) (by first | assumption | go_keep); have k_2_0 := keep hb (a := ⟨wn.heap.size, 0, none⟩) (v := .float .f64 xn) (by first | assumption | go_keep); have k_2_1 := keep hb (a := ⟨wn.heap.size, 1, none⟩) (v := .float .f64 yn) (by first | assumption | go_keep); have B := hide (bl_trans (a := w) (by repeat (first | exact unhide B | exact bl_refl _ | apply bl_drew | apply bl_drewN | apply bl_alloc | refine bl_set ?_ (by simp <;> omega))) hb); clear hb) | (go_at_call 28; refine (vSquare_any _ _ _).mono ?_; rintro e ws ⟨s, hS, rfl, hb⟩; have k_0_0 := keep hb (a := ⟨w.heap.size, 0, none⟩) (v := .float .f64 x0) (by first | assumption | go_keep); have k_0_1 := keep hb (a := ⟨w.heap.size, 1, none⟩) (v := .float .f64 y0) (by first | assumption | go_keep); have k_1_0 := keep hb (a := ⟨wu.heap.size, 0, none⟩) (v := .float .f64 xu) (by first | assumption | go_keep); have k_1_1 := keep hb (a := ⟨wu.heap.size, 1, none⟩) (v := .float .f64 yu) (by first | assumption | go_keep); have k_2_0 := keep hb (a := ⟨wn.heap.size, 0, none⟩) (v := .float .f64 xn) (by first | assumption | go_keep); have k_2_1 := keep hb (a := ⟨wn.heap.size, 1, none⟩) (v := .float .f64 yn) (by first | assumption | go_keep); have k_3_0 := keep hb (a := ⟨wl.heap.size, 0, none⟩) (v := .float .f64 xl) (by first | assumption | go_keep); have k_3_1 := keep hb (a := ⟨wl.heap.size, 1, none⟩) (v := .float .f64 yl) (by first | assumption | go_keep); have B := hide (bl_trans (a := w) (by repeat (first | exact unhide B | exact bl_refl _ | apply bl_drew | apply bl_drewN | apply bl_alloc | refine bl_set ?_ (by simp <;> omega))) hb); clear hb; have hok := unit_ok hS hU; cases hl1 : ltK .f64 0 s <;> cases hl2 : leK .f64 s 9218868437227405311 <;> simp only [hl1, hl2, Bool.and_true, Bool.and_false] at hok <;> subst hok <;> (try (obtain ⟨rfl, rfl⟩ := unit_zero hU))))
  all_goals (try (go_ret; exact ⟨rfl, by repeat (first | exact unhide B | exact bl_refl _ | apply bl_drew | apply bl_drewN | apply bl_alloc)⟩))
  obtain ⟨tn1, tn2⟩ := tn (by simp)
  obtain ⟨tl1, tl2⟩ := tl (by simp)
  obtain ⟨g1, g2, g3, g4⟩ := unit_sign hU
  have BN := belBy_some ws
  have B0 := unhide B
  have z00 := belBy_cell (W := ws) k_0_0
  have z01 := belBy_cell (W := ws) k_0_1
  have z10 := belBy_cell (W := ws) k_1_0
  have z11 := belBy_cell (W := ws) k_1_1
  have z20 := belBy_cell (W := ws) k_2_0
  have z21 := belBy_cell (W := ws) k_2_1
  have z30 := belBy_cell (W := ws) k_3_0
  have z31 := belBy_cell (W := ws) k_3_1
  rcases sign_three ⟨g1, g2⟩ with ⟨p1, p2, p3⟩ | ⟨p1, p2, p3⟩ | ⟨p1, p2⟩ <;> rcases sign_three ⟨g3, g4⟩ with ⟨p4, p5, p6⟩ | ⟨p4, p5, p6⟩ | ⟨p4, p5⟩
  all_goals
    clear g1 g2 g3 g4 tn tl
    refine wp_region_quiet_bel (by kernel_rfl) (by kernel_rfl) ?_
    repeat (go_big_quiet_step (first | (go_at_call 17; exact calls_bel (vNeg_any _ _ _)) | (go_at_call 34; exact calls_bel (vLeft_any _ _ _)) | (go_at_call 10; exact calls_bel (is_true _ _ _ _ _ (by first | assumption | exact smK_self _ _) (by first | assumption | exact smK_self _ _)))))
    refine wpQuiet_nil ?_
    intro _ hw'
    obtain ⟨p, rfl⟩ := hw'
    have B := hide (bl_trans B0 p.h)
    cases h9 : ltK .f64 s 553942754166571008
    · go_wp2_with (first | (go_at_call 28; refine (vSquare_any _ _ _).mono ?_; rintro e wz ⟨L, hL, rfl, hb⟩; obtain ⟨m1, m2⟩ := unit_long hU hS h9 hL; have B := hide (bl_trans (a := w) (by repeat (first | exact unhide B | exact bl_refl _ | apply bl_drew | apply bl_drewN | apply bl_alloc | refine bl_set ?_ (by simp <;> omega))) hb); clear hb))
      go_ret
      exact ⟨rfl, by repeat (first | exact unhide B | exact bl_refl _ | apply bl_drew | apply bl_drewN | apply bl_alloc)⟩
    · go_wp2_with (first | (go_at_call 28; refine (vSquare_any _ _ _).mono ?_; rintro e wz ⟨L, hL, rfl, hb⟩; have B := hide (bl_trans (a := w) (by repeat (first | exact unhide B | exact bl_refl _ | apply bl_drew | apply bl_drewN | apply bl_alloc | refine bl_set ?_ (by simp <;> omega))) hb); clear hb))
      go_ret
      exact ⟨rfl, by repeat (first | exact unhide B | exact bl_refl _ | apply bl_drew | apply bl_drewN | apply bl_alloc)⟩

set_option maxRecDepth 100000 in
theorem lifted (os : Os) (started : os.Started) (H : Type) (enc : TypeId × Value → H) :
    ReturnsInHanded {} Try.checked os 8 .any (Rows.vecLongSpec.pre6 enc Try.prog Try.f8 Rows.vecLongRow.domain false) (Rows.vecLongSpec.post enc Try.prog Try.f8 false true false false) := by
  refine returnsInHanded_of_change (C := Try.checked) own started (by kernel_rfl) Try.func8
    (ChangeSpec.witness6 (enc := enc) (C := Try.checked) false ⟨#[], #[.agg #[.float .f64 0, .float .f64 0]], []⟩ 8 (by kernel_rfl) (by kernel_rfl) (by kernel_rfl) (by kernel_rfl)) ?_
  intro W base args ds gs before hval0 hW hcnd _
  have hval : ∀ (j : Nat) t v, Try.f8.params[j]? = some t → args[j]? = some v → Value.okWide Try.prog W .any base t v := hval0
  have hW' := hW
  obtain ⟨p, q, hA0, hV, rfl, hfz, hnd⟩ := hW
  have hA : DataW.TrodAll enc Try.prog W 0 (fun _ => true) true Try.f8.params.toList args.toList ds p := hA0
  rw [Try.params8] at hA hval
  obtain ⟨v0, vs0, d0, ds0, p0, q0, hargs, rfl, rfl, h0, r0⟩ := trodAll_cons hA
  obtain ⟨rfl, rfl, rfl⟩ := trodAll_nil r0
  obtain rfl : args = #[v0] := by cases args; simp_all
  obtain ⟨rfl, rfl⟩ := trodVars_none hV
  obtain ⟨c0, k0, z0, u0, m0, rfl, rfl, rfl, hz0, hu0⟩ := open_agg2 Try.underlying24 (by kernel_rfl) cellsV (hval 0 24 v0 rfl rfl) h0
  obtain ⟨x0, e0, rfl, wx0⟩ := trod_fl Try.underlying22 hz0
  obtain ⟨y0, e1, rfl, wy0⟩ := trod_fl Try.underlying22 hu0
  simp at e0 e1
  subst e0 e1
  clear hA0 hval0
  simp only [List.append_nil] at hW'
  refine (walk x0 y0 (wf_f64 wx0) (wf_f64 wy0) W).mono fun e W' ⟨he, hg0⟩ => ?_
  have hg := hg0.grown
  subst he
  exact ⟨_, rfl, post_of_same (pa := []) (pv := []) hW' (fun _ _ _ => (trodAll_cons_mk (shut_bool Try.underlying4 _) trodAll_mk0)) (fun sp _ => (trodAll_cons_mk (shut_agg2 (y0 := (.lit (.float .f64 x0), [])) (y1 := (.lit (.float .f64 y0), [])) Try.underlying24 (by kernel_rfl) cellsV ⟨1, by simp [DataW.trod, Try.underlying22, wx0]⟩ ⟨1, by simp [DataW.trod, Try.underlying22, wy0]⟩) trodAll_mk0)) (fun _ _ => rfl) rfl
    (hg.frame _) hg.2.1 (ok_one (by kernel_rfl) rfl (okWide_bool_mk Try.underlying4 _))⟩

theorem over : Rows.vecLongRow.holds Try.pinned (OpenSpec.ofChange Rows.vecLongSpec) :=
  OpenClaim.holds_of_wide 8 Try.f8 rfl rfl rfl rfl rfl rfl rfl ⟨rfl, rfl, rfl, rfl, rfl⟩ rfl rfl rfl rfl rfl (by kernel_rfl) Try.func8 (by kernel_rfl)
    (of_decide_eq_true (by kernel_rfl)) (by unfold Func.isWrapper; first | (rw [if_pos (by decide +kernel)]; kernel_rfl) | (rw [if_neg (by decide +kernel)]; exact ⟨rfl, rfl⟩))
    (fun os started H enc _ => lifted os started H enc)

theorem proved : Rows.VecLongSaid :=
  over
#print axioms proved
end Go.Proofs.Ytdlendamklcinaa.vecLong
