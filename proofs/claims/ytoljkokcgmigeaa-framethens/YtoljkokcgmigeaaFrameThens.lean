/-
  FrameThens: frames in frames, and back, are the chapter's, bit by bit (what is no number as no number); for all bits, no condition.
-/
import Derived.Test.YtoljkokcgmigeaaRows
import Derived.Test.YtoljkokcgmigeaaFmore
import Derived.WalkKit
import Derived.ProofKit
import Derived.OpenShut
import Derived.WalkLawsBesides
import Derived.WalkSpells
import Derived.Lib.SmallJoins
import Derived.Laws.Cover2
import Derived.Laws.Cover3
import Derived.Deep.RegionHeld3
namespace Go.Proofs.Ytoljkokcgmigeaa.frameThens
open Go.ChangeShapes Go.WideShapes Go.ChangeAt Go.RowKit Go.Joins
set_option linter.unusedVariables false
set_option linter.unusedSimpArgs false

theorem own : ownKnob Try.prog.godebug = none := by kernel_rfl
theorem cellsQ : Try.prog.cellsOf 41 = 4 := by kernel_rfl
theorem nat_u64 {n : Int} (h : (Lit.int .u64 n).wf = true) : ∃ x : Nat, n = (x : Int) := by
  simp only [Lit.wf, Bool.and_eq_true, decide_eq_true_eq] at h
  have e1 : IntKind.u64.min = 0 := by decide +kernel
  rw [e1] at h
  exact ⟨n.toNat, by omega⟩
theorem wf_u64 {x : Nat} (h : (Lit.int .u64 (x : Int)).wf = true) : okK .f64 x := by
  rw [okK64]
  simp only [Lit.wf, Bool.and_eq_true, decide_eq_true_eq] at h
  have e1 : IntKind.u64.max = 18446744073709551615 := by decide +kernel
  rw [e1] at h
  omega
theorem trod_in {H : Type} {enc : TypeId × Value → H} {P : Program} {w : World} {base fuel : Nat} {spare : Nat → Bool} {held : Bool} {t : TypeId} {cs : List Value} {x : DataW H × List MemPlace} {k : IntKind} (ht : P.underlying t = some (.int k)) (h : DataW.trod enc P w base spare held fuel t cs = some x) : ∃ n, cs = [.int k n] ∧ x = (.lit (.int k n), []) ∧ (Lit.int k n).wf = true := by
  cases fuel with
  | zero => simp [DataW.trod] at h
  | succ n =>
    unfold DataW.trod at h
    rw [ht] at h
    split at h <;> simp_all
theorem wf_f64 {x : Nat} (h : (Lit.float .f64 x).wf = true) : okK .f64 x := by
  rw [okK64]; simpa [Lit.wf] using h
theorem trod_fl {H : Type} {enc : TypeId × Value → H} {P : Program} {w : World} {base fuel : Nat} {spare : Nat → Bool} {held : Bool} {t : TypeId} {cs : List Value} {x : DataW H × List MemPlace} {k : FloatKind} (ht : P.underlying t = some (.float k)) (h : DataW.trod enc P w base spare held fuel t cs = some x) : ∃ n, cs = [.float k n] ∧ x = (.lit (.float k n), []) ∧ (Lit.float k n).wf = true := by
  cases fuel with
  | zero => simp [DataW.trod] at h
  | succ n =>
    unfold DataW.trod at h
    rw [ht] at h
    split at h <;> simp_all



set_option maxRecDepth 100000 in
set_option maxHeartbeats 20000000 in
theorem walk (X0 Y0 a0 b0 : Nat) (X1 Y1 a1 b1 : Nat) (oX0 : okK .f64 X0) (oY0 : okK .f64 Y0) (oa0 : okK .f64 a0) (ob0 : okK .f64 b0) (oX1 : okK .f64 X1) (oY1 : okK .f64 Y1) (oa1 : okK .f64 a1) (ob1 : okK .f64 b1) (w : World) :
    Calls Try.prog 5 #[.agg #[.int .u64 (X0 : Nat), .int .u64 (Y0 : Nat), .int .u64 (a0 : Nat), .int .u64 (b0 : Nat)], .agg #[.int .u64 (X1 : Nat), .int .u64 (Y1 : Nat), .int .u64 (a1 : Nat), .int .u64 (b1 : Nat)]] w fun e w' => e = .returned (.bool true) ∧ Bel w w' := by
  have ok_oneW : okK .f64 4607182418800017408 := by rw [okK64]; decide
  go_enter Try.func5, Try.ntmps5
  go_wp2
  refine wp_region_multiA 6 (fun i v => match i with | 0 => v = .agg #[.int .u64 (X0 : Nat), .int .u64 (Y0 : Nat), .int .u64 (a0 : Nat), .int .u64 (b0 : Nat)] | 1 => v = .agg #[.float .f64 X0, .float .f64 Y0, .complex .f64 a0 b0] | 2 => v = .agg #[.int .u64 (X1 : Nat), .int .u64 (Y1 : Nat), .int .u64 (a1 : Nat), .int .u64 (b1 : Nat)] | 3 => v = .agg #[.float .f64 X1, .float .f64 Y1, .complex .f64 a1 b1] | 4 => ∃ b, v = .pointer (some ⟨b, 0, none⟩) | 5 => ∃ b, v = .pointer (some ⟨b, 0, none⟩) | _ => False) (fun i => match i with | 4 => some (Obj.cells #[.float .f64 0, .float .f64 0, .complex .f64 0 0] 29) | 5 => some (Obj.cells #[.float .f64 0, .float .f64 0, .complex .f64 0 0] 29) | _ => none) ?A_wf (by kernel_rfl) (by kernel_rfl) ?hA_wf ?ha_wf ?hq_wf [6, 7] rfl ?ht_wf
  case hA_wf =>
    intro s
    simp only [putL, dstO, Act.put, List.getElem?_toArray, List.getElem?_cons_zero, List.getElem?_cons_succ, Option.bind_some, List.setIfInBounds_toArray, List.set_cons_zero, List.set_cons_succ, if_true]
    exact rfl
  case ha_wf =>
    intro i o ob hi ho hal
    rcases (show i = 0 ∨ i = 1 ∨ i = 2 ∨ i = 3 ∨ i = 4 ∨ i = 5 by omega) with rfl | rfl | rfl | rfl | rfl | rfl
    · cases hal
    · cases hal
    · cases hal
    · cases hal
    · cases ho; cases hal; exact ⟨fun v hv => ⟨_, hv.choose_spec.2⟩, ⟨_, _, rfl⟩, fun A W => by go_simp⟩
    · cases ho; cases hal; exact ⟨fun v hv => ⟨_, hv.choose_spec.2⟩, ⟨_, _, rfl⟩, fun A W => by go_simp⟩
  case hq_wf =>
    intro i o hi ho hal s hs W hb K hK
    obtain ⟨hc, hf⟩ := bcell hb; have hz := hb.size; (try simp at hz)
    rcases (show i = 0 ∨ i = 1 ∨ i = 2 ∨ i = 3 ∨ i = 4 ∨ i = 5 by omega) with rfl | rfl | rfl | rfl | rfl | rfl
    · cases ho
      simp only [Act.put, List.setIfInBounds_toArray, List.set_cons_zero, List.set_cons_succ] at hK
      clear hs
      go_simp
      all_goals (try go_wp2_with (first | (go_at_call 19; refine (lFrame_any _ _ _ _ _).mono ?_; rintro e w1 ⟨rfl, hb1⟩)))
      all_goals first | exact hK.out _ _ rfl (bl_refl _) | exact hK.out _ _ rfl (by assumption) | exact hK.out _ _ (by assumption) (by assumption)
    · cases ho
      have e0 : s 0 = _ := hs 0 (by decide) (by kernel_rfl)
      simp only [e0] at hK ⊢
      simp only [Act.put, List.setIfInBounds_toArray, List.set_cons_zero, List.set_cons_succ] at hK
      clear hs
      go_simp
      all_goals (try go_wp2_with (first | (go_at_call 19; refine (lFrame_any _ _ _ _ _).mono ?_; rintro e w1 ⟨rfl, hb1⟩)))
      all_goals first | exact hK.out _ _ rfl (bl_refl _) | exact hK.out _ _ rfl (by assumption) | exact hK.out _ _ (by assumption) (by assumption)
    · cases ho
      simp only [Act.put, List.setIfInBounds_toArray, List.set_cons_zero, List.set_cons_succ] at hK
      clear hs
      go_simp
      all_goals (try go_wp2_with (first | (go_at_call 19; refine (lFrame_any _ _ _ _ _).mono ?_; rintro e w1 ⟨rfl, hb1⟩)))
      all_goals first | exact hK.out _ _ rfl (bl_refl _) | exact hK.out _ _ rfl (by assumption) | exact hK.out _ _ (by assumption) (by assumption)
    · cases ho
      have e2 : s 2 = _ := hs 2 (by decide) (by kernel_rfl)
      simp only [e2] at hK ⊢
      simp only [Act.put, List.setIfInBounds_toArray, List.set_cons_zero, List.set_cons_succ] at hK
      clear hs
      go_simp
      all_goals (try go_wp2_with (first | (go_at_call 19; refine (lFrame_any _ _ _ _ _).mono ?_; rintro e w1 ⟨rfl, hb1⟩)))
      all_goals first | exact hK.out _ _ rfl (bl_refl _) | exact hK.out _ _ rfl (by assumption) | exact hK.out _ _ (by assumption) (by assumption)
    · cases hal
    · cases hal
  case ht_wf =>
    intro s hs W hb hJ
    have e0 : s 0 = _ := hs 0 (by decide)
    have e1 : s 1 = _ := hs 1 (by decide)
    have e2 : s 2 = _ := hs 2 (by decide)
    have e3 : s 3 = _ := hs 3 (by decide)
    obtain ⟨p4, e4, n4, h4⟩ := laid_at hJ 4 (by decide) rfl
    obtain ⟨p5, e5, n5, h5⟩ := laid_at hJ 5 (by decide) rfl
    have ne45 := laid_ne hJ 4 5 (by decide) (by decide) (by decide) rfl rfl e4 e5
    have c40 : W.cell? ⟨p4, 0, none⟩ = some (.float .f64 0) := heap_cell h4 rfl
    have c41 : W.cell? ⟨p4, 1, none⟩ = some (.float .f64 0) := heap_cell h4 rfl
    have c42 : W.cell? ⟨p4, 2, none⟩ = some (.complex .f64 0 0) := heap_cell h4 rfl
    have f4 := fun k => heap_frozen (i := k) h4
    have c50 : W.cell? ⟨p5, 0, none⟩ = some (.float .f64 0) := heap_cell h5 rfl
    have c51 : W.cell? ⟨p5, 1, none⟩ = some (.float .f64 0) := heap_cell h5 rfl
    have c52 : W.cell? ⟨p5, 2, none⟩ = some (.complex .f64 0 0) := heap_cell h5 rfl
    have f5 := fun k => heap_frozen (i := k) h5
    simp only [e0, e1, e2, e3, e4, e5]
    clear hs
    refine tail_step rfl (fun K hK => ?_)
    go_simp
    refine hK.out _ _ ?_
    clear hK K
    refine tail_step rfl (fun K hK => ?_)
    go_simp
    refine hK.out _ _ ?_
    clear hK K
    refine tail_end ?_
    have ne54 := ne45.symm
    (try simp at n4 n5)
    have BW : Bel w W := by refine bl_trans (b := _) ?_ hb; repeat (first | exact bl_refl w | apply bl_alloc | apply bl_drew)
    have BW0 := BW
    obtain ⟨wf0, hN, d40, d41, d42, fr0, bN⟩ := put3_all (p := .float .f64 X0) (q := .float .f64 Y0) (r := .complex .f64 a0 b0) c40 c41 c42
    rw [← hN]
    replace BW := bN w BW (by omega)
    replace c50 := (fr0 _ 0 (.inl ne54)).trans c50
    replace c51 := (fr0 _ 1 (.inl ne54)).trans c51
    replace c52 := (fr0 _ 2 (.inl ne54)).trans c52
    clear hN fr0 bN
    obtain ⟨wf, hN, d50, d51, d52, fr1, bN⟩ := put3_all (p := .float .f64 X1) (q := .float .f64 Y1) (r := .complex .f64 a1 b1) c50 c51 c52
    rw [← hN]
    replace BW := bN w BW (by omega)
    replace d40 := (fr1 _ 0 (.inl ne45)).trans d40
    replace d41 := (fr1 _ 1 (.inl ne45)).trans d41
    replace d42 := (fr1 _ 2 (.inl ne45)).trans d42
    clear hN fr1 bN
    have k_p4_0 : wf.cell? ⟨p4, 0, none⟩ = some (.float .f64 X0) := d40
    have k_p4_1 : wf.cell? ⟨p4, 1, none⟩ = some (.float .f64 Y0) := d41
    have k_p4_2 : wf.cell? ⟨p4, 2, none⟩ = some (.complex .f64 a0 b0) := d42
    clear d40 d41 d42
    have k_p5_0 : wf.cell? ⟨p5, 0, none⟩ = some (.float .f64 X1) := d50
    have k_p5_1 : wf.cell? ⟨p5, 1, none⟩ = some (.float .f64 Y1) := d51
    have k_p5_2 : wf.cell? ⟨p5, 2, none⟩ = some (.complex .f64 a1 b1) := d52
    clear d50 d51 d52
    have l4 : p4 < wf.heap.size := World.block_lt_of_cell? wf _ k_p4_0
    have l5 : p5 < wf.heap.size := World.block_lt_of_cell? wf _ k_p5_0
    have z_p4 := fun k => (BW.2 _).trans ((BW0.2 ⟨p4, k, none⟩).symm.trans (f4 k))
    have z_p5 := fun k => (BW.2 _).trans ((BW0.2 ⟨p5, k, none⟩).symm.trans (f5 k))
    have B := hide BW
    clear BW BW0 hJ h4 h5 f4 f5 e0 e1 e2 e3 e4 e5
    go_wp2
    go_region_held3 (fun w1 => w1.cell? ⟨p4, 0, none⟩ = some (.float .f64 X0) ∧ w1.cell? ⟨p4, 1, none⟩ = some (.float .f64 Y0) ∧ w1.cell? ⟨p4, 2, none⟩ = some (.complex .f64 a0 b0) ∧ w1.cell? ⟨p5, 0, none⟩ = some (.float .f64 X1) ∧ w1.cell? ⟨p5, 1, none⟩ = some (.float .f64 Y1) ∧ w1.cell? ⟨p5, 2, none⟩ = some (.complex .f64 a1 b1)) (first | ((try go_split_ands); refine ⟨?_, ?_, ?_, ?_, ?_, ?_⟩ <;> (first | ((repeat' (first | (with_reducible assumption) | (with_reducible refine up_drew ?_) | (with_reducible refine up_drewN ?_) | (with_reducible refine up_alloc ?_) | (with_reducible refine keep hb ?_) | (with_reducible refine up_set2 ?_ ?_) | omega)); done) | go_keep)))
    (first | (go_at_call 28; refine (gThen_any _ _ _ _ _ _ _ _ _).mono ?_; rintro e w1 ⟨t1, t2, r1, i1, hA1, hR1, rfl, hb⟩; have B := hide (bl_trans (a := w) (by repeat (first | exact unhide B | exact bl_refl _ | apply bl_drew | apply bl_drewN | apply bl_alloc | refine bl_set ?_ (by simp <;> omega))) hb)) | (go_at_call 29; refine (rThen_any _ _ _ _ _ _ _ _ _).mono ?_; rintro e w1 ⟨t3, t4, r2, i2, hA2, hR2, rfl, hb⟩; have B := hide (bl_trans (a := w) (by repeat (first | exact unhide B | exact bl_refl _ | apply bl_drew | apply bl_drewN | apply bl_alloc | refine bl_set ?_ (by simp <;> omega))) hb)) | (go_at_call 30; refine (gBack_any _ _ _ _ (by assumption) _).mono ?_; rintro e w1 ⟨c1, c2, hU1, rfl, hb⟩; have B := hide (bl_trans (a := w) (by repeat (first | exact unhide B | exact bl_refl _ | apply bl_drew | apply bl_drewN | apply bl_alloc | refine bl_set ?_ (by simp <;> omega))) hb)) | (go_at_call 31; refine (rBack_any _ _ _ _ _).mono ?_; rintro e w1 ⟨c3, c4, hU2, rfl, hb⟩; have B := hide (bl_trans (a := w) (by repeat (first | exact unhide B | exact bl_refl _ | apply bl_drew | apply bl_drewN | apply bl_alloc | refine bl_set ?_ (by simp <;> omega))) hb)) | (go_at_call 10; refine (gHome_any _).mono ?_; rintro e w1 ⟨rfl, hb⟩; have B := hide (bl_trans (a := w) (by repeat (first | exact unhide B | exact bl_refl _ | apply bl_drew | apply bl_drewN | apply bl_alloc | refine bl_set ?_ (by simp <;> omega))) hb)) | (go_at_call 32; refine (rHome_any _).mono ?_; rintro e w1 ⟨rfl, hb⟩; have B := hide (bl_trans (a := w) (by repeat (first | exact unhide B | exact bl_refl _ | apply bl_drew | apply bl_drewN | apply bl_alloc | refine bl_set ?_ (by simp <;> omega))) hb)) | (go_at_call 22; refine (fSame_true _ _ _ _ _ _ _ _ _ hA1.ok hR1.ok hA2.ok hR2.ok (hA1.sm hA2) (hR1.sm hR2)).mono ?_; rintro e w1 ⟨rfl, hb⟩; clear hA1 hA2; have B := hide (bl_trans (a := w) (by repeat (first | exact unhide B | exact bl_refl _ | apply bl_drew | apply bl_drewN | apply bl_alloc | refine bl_set ?_ (by simp <;> omega))) hb)) | (go_at_call 22; refine (fSame_true _ _ _ _ _ _ _ _ _ (neg_oks hU1.ok) ⟨(by assumption), neg_ok (by assumption)⟩ (neg_oks hU2.ok) ⟨(by assumption), neg_ok (by assumption)⟩ (neg_two hU1.ok hU2.ok (hU1.sm hU2)) (sm_selfs _ _)).mono ?_; rintro e w1 ⟨rfl, hb⟩; clear hU1 hU2; have B := hide (bl_trans (a := w) (by repeat (first | exact unhide B | exact bl_refl _ | apply bl_drew | apply bl_drewN | apply bl_alloc | refine bl_set ?_ (by simp <;> omega))) hb)) | (go_at_call 22; refine (fSame_true _ _ _ _ _ _ _ _ _ ⟨ok_zero, ok_zero⟩ ⟨ok_oneW, ok_zero⟩ ⟨ok_zero, ok_zero⟩ ⟨ok_oneW, ok_zero⟩ (sm_selfs _ _) (sm_selfs _ _)).mono ?_; rintro e w1 ⟨rfl, hb⟩; have B := hide (bl_trans (a := w) (by repeat (first | exact unhide B | exact bl_refl _ | apply bl_drew | apply bl_drewN | apply bl_alloc | refine bl_set ?_ (by simp <;> omega))) hb)))
    all_goals go_wp2
    all_goals (go_ret; exact ⟨rfl, (by repeat (first | exact unhide B | exact bl_refl _ | apply bl_drew | apply bl_drewN | apply bl_alloc | refine bl_set ?_ (by simp <;> omega)))⟩)

set_option maxRecDepth 100000 in
theorem lifted (os : Os) (started : os.Started) (H : Type) (enc : TypeId × Value → H) :
    ReturnsInHanded {} Try.checked os 5 .any (Rows.frameThensSpec.pre6 enc Try.prog Try.f5 Rows.frameThensRow.domain false) (Rows.frameThensSpec.post enc Try.prog Try.f5 false true false false) := by
  refine returnsInHanded_of_change (C := Try.checked) own started (by kernel_rfl) Try.func5
    (ChangeSpec.witness6 (enc := enc) (C := Try.checked) false ⟨#[], #[.agg #[.int .u64 0, .int .u64 0, .int .u64 0, .int .u64 0], .agg #[.int .u64 0, .int .u64 0, .int .u64 0, .int .u64 0]], []⟩ 8 (by kernel_rfl) (by kernel_rfl) (by kernel_rfl) (by kernel_rfl)) ?_
  intro W base args ds gs before hval0 hW hcnd _
  have hval : ∀ (j : Nat) t v, Try.f5.params[j]? = some t → args[j]? = some v → Value.okWide Try.prog W .any base t v := hval0
  have hW' := hW
  obtain ⟨p, q, hA0, hV, rfl, hfz, hnd⟩ := hW
  have hA : DataW.TrodAll enc Try.prog W 0 (fun _ => true) true Try.f5.params.toList args.toList ds p := hA0
  rw [Try.params5] at hA hval
  obtain ⟨v0, vs0, d0, ds0, p0, q0, hargs, rfl, rfl, h0, r0⟩ := trodAll_cons hA
  obtain ⟨v1, vs1, d1, ds1, p1, q1, rfl, rfl, rfl, h1, r1⟩ := trodAll_cons r0
  obtain ⟨rfl, rfl, rfl⟩ := trodAll_nil r1
  obtain rfl : args = #[v0, v1] := by cases args; simp_all
  obtain ⟨rfl, rfl⟩ := trodVars_none hV
  obtain ⟨_, _, _, _, _, _, _, _, _, rfl, rfl, rfl, hz00, hz01, hz02, hz03⟩ := open_agg4 Try.underlying41 (by kernel_rfl) cellsQ (hval 0 41 v0 rfl rfl) h0
  obtain ⟨X0, e0, rfl, wX0⟩ := trod_in Try.underlying39 hz00
  simp at e0
  subst e0
  obtain ⟨X0, rfl⟩ := nat_u64 wX0
  obtain ⟨Y0, e0, rfl, wY0⟩ := trod_in Try.underlying39 hz01
  simp at e0
  subst e0
  obtain ⟨Y0, rfl⟩ := nat_u64 wY0
  obtain ⟨a0, e0, rfl, wa0⟩ := trod_in Try.underlying39 hz02
  simp at e0
  subst e0
  obtain ⟨a0, rfl⟩ := nat_u64 wa0
  obtain ⟨b0, e0, rfl, wb0⟩ := trod_in Try.underlying39 hz03
  simp at e0
  subst e0
  obtain ⟨b0, rfl⟩ := nat_u64 wb0
  obtain ⟨_, _, _, _, _, _, _, _, _, rfl, rfl, rfl, hz10, hz11, hz12, hz13⟩ := open_agg4 Try.underlying41 (by kernel_rfl) cellsQ (hval 1 41 v1 rfl rfl) h1
  obtain ⟨X1, e0, rfl, wX1⟩ := trod_in Try.underlying39 hz10
  simp at e0
  subst e0
  obtain ⟨X1, rfl⟩ := nat_u64 wX1
  obtain ⟨Y1, e0, rfl, wY1⟩ := trod_in Try.underlying39 hz11
  simp at e0
  subst e0
  obtain ⟨Y1, rfl⟩ := nat_u64 wY1
  obtain ⟨a1, e0, rfl, wa1⟩ := trod_in Try.underlying39 hz12
  simp at e0
  subst e0
  obtain ⟨a1, rfl⟩ := nat_u64 wa1
  obtain ⟨b1, e0, rfl, wb1⟩ := trod_in Try.underlying39 hz13
  simp at e0
  subst e0
  obtain ⟨b1, rfl⟩ := nat_u64 wb1
  clear hA0 hval0
  simp only [List.append_nil] at hW'
  refine (walk X0 Y0 a0 b0 X1 Y1 a1 b1 (wf_u64 wX0) (wf_u64 wY0) (wf_u64 wa0) (wf_u64 wb0) (wf_u64 wX1) (wf_u64 wY1) (wf_u64 wa1) (wf_u64 wb1) W).mono fun e W' ⟨he, hg0⟩ => ?_
  have hg := hg0.grown
  subst he
  exact ⟨_, rfl, post_of_same (pa := []) (pv := []) hW' (fun _ _ _ => (trodAll_cons_mk (shut_bool Try.underlying4 _) trodAll_mk0)) (fun sp _ => (trodAll_cons_mk (shut_agg4 (y0 := (.lit (.int .u64 X0), [])) (y1 := (.lit (.int .u64 Y0), [])) (y2 := (.lit (.int .u64 a0), [])) (y3 := (.lit (.int .u64 b0), [])) Try.underlying41 (by kernel_rfl) cellsQ ⟨1, by simp [DataW.trod, Try.underlying39, wX0]⟩ ⟨1, by simp [DataW.trod, Try.underlying39, wY0]⟩ ⟨1, by simp [DataW.trod, Try.underlying39, wa0]⟩ ⟨1, by simp [DataW.trod, Try.underlying39, wb0]⟩) (trodAll_cons_mk (shut_agg4 (y0 := (.lit (.int .u64 X1), [])) (y1 := (.lit (.int .u64 Y1), [])) (y2 := (.lit (.int .u64 a1), [])) (y3 := (.lit (.int .u64 b1), [])) Try.underlying41 (by kernel_rfl) cellsQ ⟨1, by simp [DataW.trod, Try.underlying39, wX1]⟩ ⟨1, by simp [DataW.trod, Try.underlying39, wY1]⟩ ⟨1, by simp [DataW.trod, Try.underlying39, wa1]⟩ ⟨1, by simp [DataW.trod, Try.underlying39, wb1]⟩) trodAll_mk0))) (fun _ _ => rfl) rfl
    (hg.frame _) hg.2.1 (ok_one (by kernel_rfl) rfl (okWide_bool_mk Try.underlying4 _))⟩

theorem over : Rows.frameThensRow.holds Try.pinned (OpenSpec.ofChange Rows.frameThensSpec) :=
  OpenClaim.holds_of_wide 5 Try.f5 rfl rfl rfl rfl rfl rfl rfl ⟨rfl, rfl, rfl, rfl, rfl⟩ rfl rfl rfl rfl rfl (by kernel_rfl) Try.func5 (by kernel_rfl)
    (of_decide_eq_true (by kernel_rfl)) (by unfold Func.isWrapper; first | (rw [if_pos (by decide +kernel)]; kernel_rfl) | (rw [if_neg (by decide +kernel)]; exact ⟨rfl, rfl⟩))
    (fun os started H enc _ => lifted os started H enc)

theorem proved : Rows.FrameThensSaid :=
  over
#print axioms proved
end Go.Proofs.Ytoljkokcgmigeaa.frameThens
