/-
  FrameBack: there and back: a place goes out by a frame and comes back, by Own and by Back, up to 2^-36 of what all four floats are together; by Home it stays; for all bits, no condition.
-/
import Derived.Test.YtoljkokcgmigeaaRows
import Derived.Test.YtoljkokcgmigeaaFalive
import Derived.Test.YtoljkokcgmigeaaFbk
import Derived.WalkKit
import Derived.ProofKit
import Derived.OpenShut
import Derived.WalkLawsBesides
import Derived.WalkSpells
import Derived.Lib.SmallJoins
import Derived.Laws.Cover2
import Derived.Laws.Cover3
import Derived.Deep.DeepCutAuto
import Derived.Deep.RegionHeld3
namespace Go.Proofs.Ytoljkokcgmigeaa.frameBack
open Go.ChangeShapes Go.WideShapes Go.ChangeAt Go.RowKit Go.Joins
set_option linter.unusedVariables false
set_option linter.unusedSimpArgs false

theorem own : ownKnob Try.prog.godebug = none := by kernel_rfl
theorem cellsP : Try.prog.cellsOf 43 = 2 := by kernel_rfl
theorem cellsQ : Try.prog.cellsOf 41 = 4 := by kernel_rfl
theorem nat_u64 {n : Int} (h : (Lit.int .u64 n).wf = true) : ∃ x : Nat, n = (x : Int) := by
  simp only [Lit.wf, Bool.and_eq_true, decide_eq_true_eq] at h
  have e1 : IntKind.u64.min = 0 := by decide +kernel
  rw [e1] at h
  exact ⟨n.toNat, by omega⟩
theorem wf_u64 {x : Nat} (h : (Lit.int .u64 (x : Int)).wf = true) : okK .f64 x := by
  rw [okK64]
  simp only [Lit.wf, Bool.and_eq_true, decide_eq_true_eq] at h
  have e1 : IntKind.u64.max = 18446744073709551615 := by decide +kernel
  rw [e1] at h
  omega
theorem trod_in {H : Type} {enc : TypeId × Value → H} {P : Program} {w : World} {base fuel : Nat} {spare : Nat → Bool} {held : Bool} {t : TypeId} {cs : List Value} {x : DataW H × List MemPlace} {k : IntKind} (ht : P.underlying t = some (.int k)) (h : DataW.trod enc P w base spare held fuel t cs = some x) : ∃ n, cs = [.int k n] ∧ x = (.lit (.int k n), []) ∧ (Lit.int k n).wf = true := by
  cases fuel with
  | zero => simp [DataW.trod] at h
  | succ n =>
    unfold DataW.trod at h
    rw [ht] at h
    split at h <;> simp_all
theorem wf_f64 {x : Nat} (h : (Lit.float .f64 x).wf = true) : okK .f64 x := by
  rw [okK64]; simpa [Lit.wf] using h
theorem trod_fl {H : Type} {enc : TypeId × Value → H} {P : Program} {w : World} {base fuel : Nat} {spare : Nat → Bool} {held : Bool} {t : TypeId} {cs : List Value} {x : DataW H × List MemPlace} {k : FloatKind} (ht : P.underlying t = some (.float k)) (h : DataW.trod enc P w base spare held fuel t cs = some x) : ∃ n, cs = [.float k n] ∧ x = (.lit (.float k n), []) ∧ (Lit.float k n).wf = true := by
  cases fuel with
  | zero => simp [DataW.trod] at h
  | succ n =>
    unfold DataW.trod at h
    rw [ht] at h
    split at h <;> simp_all

theorem lcalm_k {b : Bool} (a : Nat) (h : calmK a = b) (w : World) : Calls Try.prog 35 #[.float .f64 a] w fun e w' => e = .returned (.bool b) ∧ w' = w := by
  subst h
  exact lcalm_any a w
theorem fr_ok {X Y s : Nat} (h : frErr X Y s = 0) : withinK .f64 X 4787326403894837248 = true ∧ withinK .f64 Y 4787326403894837248 = true ∧ chk s = true := by
  unfold frErr at h
  split at h
  · rename_i g
    simp only [Bool.and_eq_true] at g
    refine ⟨g.1, g.2, ?_⟩
    cases hc : chk s
    · rw [hc] at h; exact absurd h (by decide)
    · rfl
  · exact absurd h (by decide)
theorem within_end {X : Nat} (h : withinK .f64 X 4787326403894837248 = true) : finK .f64 X = true := by
  unfold withinK at h
  simp only [Bool.and_eq_true] at h
  cases na : ngK .f64 X
  · exact (fin_of_le (by decide +kernel) na (by decide +kernel) h.2).1
  · exact (av_neg_le (by decide +kernel) (by decide +kernel) na h.1).1

set_option maxRecDepth 100000 in
set_option maxHeartbeats 40000000 in
theorem walk (X0 Y0 a0 b0 : Nat) (x1 y1 : Nat) (oX0 : okK .f64 X0) (oY0 : okK .f64 Y0) (oa0 : okK .f64 a0) (ob0 : okK .f64 b0) (ox1 : okK .f64 x1) (oy1 : okK .f64 y1) (w : World) :
    Calls Try.prog 7 #[.agg #[.int .u64 (X0 : Nat), .int .u64 (Y0 : Nat), .int .u64 (a0 : Nat), .int .u64 (b0 : Nat)], .agg #[.int .u64 (x1 : Nat), .int .u64 (y1 : Nat)]] w fun e w' => e = .returned (.bool true) ∧ Bel w w' := by
  go_enter Try.func7, Try.ntmps7
  go_wp2_with (first | (go_at_call 17; refine (falive_any _).mono ?_; rintro e wv ⟨rfl, hb⟩; have k_0_0 := keep hb (a := ⟨w.heap.size, 0, none⟩) (v := .int .u64 ((X0 : Nat) : Int)) (by first | assumption | go_keep); have k_0_1 := keep hb (a := ⟨w.heap.size, 1, none⟩) (v := .int .u64 ((Y0 : Nat) : Int)) (by first | assumption | go_keep); have k_0_2 := keep hb (a := ⟨w.heap.size, 2, none⟩) (v := .int .u64 ((a0 : Nat) : Int)) (by first | assumption | go_keep); have k_0_3 := keep hb (a := ⟨w.heap.size, 3, none⟩) (v := .int .u64 ((b0 : Nat) : Int)) (by first | assumption | go_keep); have k_1_0 := keep hb (a := ⟨w.heap.size + 1, 0, none⟩) (v := .int .u64 ((x1 : Nat) : Int)) (by first | assumption | go_keep); have k_1_1 := keep hb (a := ⟨w.heap.size + 1, 1, none⟩) (v := .int .u64 ((y1 : Nat) : Int)) (by first | assumption | go_keep); have B := hide (bl_trans (a := w) (by repeat (first | exact unhide B | exact bl_refl _ | apply bl_drew | apply bl_drewN | apply bl_alloc | refine bl_set ?_ (by simp <;> omega))) hb); clear hb))
  refine wp_region_multiA 6 (fun i v => match i with | 0 => v = .agg #[.int .u64 (X0 : Nat), .int .u64 (Y0 : Nat), .int .u64 (a0 : Nat), .int .u64 (b0 : Nat)] | 1 => v = .agg #[.float .f64 X0, .float .f64 Y0, .complex .f64 a0 b0] | 2 => v = .agg #[.int .u64 (x1 : Nat), .int .u64 (y1 : Nat)] | 3 => v = .agg #[.float .f64 x1, .float .f64 y1] | 4 => ∃ b, v = .pointer (some ⟨b, 0, none⟩) | 5 => ∃ b, v = .pointer (some ⟨b, 0, none⟩) | _ => False) (fun i => match i with | 4 => some (Obj.cells #[.float .f64 0, .float .f64 0, .complex .f64 0 0] 29) | 5 => some (Obj.cells #[.float .f64 0, .float .f64 0] 26) | _ => none) ?A_wf (by kernel_rfl) (by kernel_rfl) ?hA_wf ?ha_wf ?hq_wf [6, 7] rfl ?ht_wf
  case hA_wf =>
    intro s
    simp only [putL, dstO, Act.put, List.getElem?_toArray, List.getElem?_cons_zero, List.getElem?_cons_succ, Option.bind_some, List.setIfInBounds_toArray, List.set_cons_zero, List.set_cons_succ, if_true]
    exact rfl
  case ha_wf =>
    intro i o ob hi ho hal
    rcases (show i = 0 ∨ i = 1 ∨ i = 2 ∨ i = 3 ∨ i = 4 ∨ i = 5 by omega) with rfl | rfl | rfl | rfl | rfl | rfl
    · cases hal
    · cases hal
    · cases hal
    · cases hal
    · cases ho; cases hal; exact ⟨fun v hv => ⟨_, hv.choose_spec.2⟩, ⟨_, _, rfl⟩, fun A W => by go_simp⟩
    · cases ho; cases hal; exact ⟨fun v hv => ⟨_, hv.choose_spec.2⟩, ⟨_, _, rfl⟩, fun A W => by go_simp⟩
  case hq_wf =>
    intro i o hi ho hal s hs W hb K hK
    have y0 := keep hb k_0_0; have y1 := keep hb k_0_1; have y2 := keep hb k_0_2; have y3 := keep hb k_0_3; have y4 := keep hb k_1_0; have y5 := keep hb k_1_1
    rcases (show i = 0 ∨ i = 1 ∨ i = 2 ∨ i = 3 ∨ i = 4 ∨ i = 5 by omega) with rfl | rfl | rfl | rfl | rfl | rfl
    · cases ho
      simp only [Act.put, List.setIfInBounds_toArray, List.set_cons_zero, List.set_cons_succ] at hK
      clear hs
      go_simp
      all_goals (try go_wp2_with (first | (go_at_call 19; refine (lFrame_any _ _ _ _ _).mono ?_; rintro e w1 ⟨rfl, hb1⟩) | (go_at_call 20; refine (lVec_any _ _ _).mono ?_; rintro e w1 ⟨rfl, hb1⟩)))
      all_goals first | exact hK.out _ _ rfl (bl_refl _) | exact hK.out _ _ rfl (by assumption) | exact hK.out _ _ (by assumption) (by assumption)
    · cases ho
      have e0 : s 0 = _ := hs 0 (by decide) (by kernel_rfl)
      simp only [e0] at hK ⊢
      simp only [Act.put, List.setIfInBounds_toArray, List.set_cons_zero, List.set_cons_succ] at hK
      clear hs
      go_simp
      all_goals (try go_wp2_with (first | (go_at_call 19; refine (lFrame_any _ _ _ _ _).mono ?_; rintro e w1 ⟨rfl, hb1⟩) | (go_at_call 20; refine (lVec_any _ _ _).mono ?_; rintro e w1 ⟨rfl, hb1⟩)))
      all_goals first | exact hK.out _ _ rfl (bl_refl _) | exact hK.out _ _ rfl (by assumption) | exact hK.out _ _ (by assumption) (by assumption)
    · cases ho
      simp only [Act.put, List.setIfInBounds_toArray, List.set_cons_zero, List.set_cons_succ] at hK
      clear hs
      go_simp
      all_goals (try go_wp2_with (first | (go_at_call 19; refine (lFrame_any _ _ _ _ _).mono ?_; rintro e w1 ⟨rfl, hb1⟩) | (go_at_call 20; refine (lVec_any _ _ _).mono ?_; rintro e w1 ⟨rfl, hb1⟩)))
      all_goals first | exact hK.out _ _ rfl (bl_refl _) | exact hK.out _ _ rfl (by assumption) | exact hK.out _ _ (by assumption) (by assumption)
    · cases ho
      have e2 : s 2 = _ := hs 2 (by decide) (by kernel_rfl)
      simp only [e2] at hK ⊢
      simp only [Act.put, List.setIfInBounds_toArray, List.set_cons_zero, List.set_cons_succ] at hK
      clear hs
      go_simp
      all_goals (try go_wp2_with (first | (go_at_call 19; refine (lFrame_any _ _ _ _ _).mono ?_; rintro e w1 ⟨rfl, hb1⟩) | (go_at_call 20; refine (lVec_any _ _ _).mono ?_; rintro e w1 ⟨rfl, hb1⟩)))
      all_goals first | exact hK.out _ _ rfl (bl_refl _) | exact hK.out _ _ rfl (by assumption) | exact hK.out _ _ (by assumption) (by assumption)
    · cases hal
    · cases hal
  case ht_wf =>
    intro s hs W hb hJ
    have e0 : s 0 = _ := hs 0 (by decide)
    have e1 : s 1 = _ := hs 1 (by decide)
    have e2 : s 2 = _ := hs 2 (by decide)
    have e3 : s 3 = _ := hs 3 (by decide)
    obtain ⟨p4, e4, n4, h4⟩ := laid_at hJ 4 (by decide) rfl
    obtain ⟨p5, e5, n5, h5⟩ := laid_at hJ 5 (by decide) rfl
    have ne45 := laid_ne hJ 4 5 (by decide) (by decide) (by decide) rfl rfl e4 e5
    have c40 : W.cell? ⟨p4, 0, none⟩ = some (.float .f64 0) := heap_cell h4 rfl
    have c41 : W.cell? ⟨p4, 1, none⟩ = some (.float .f64 0) := heap_cell h4 rfl
    have c42 : W.cell? ⟨p4, 2, none⟩ = some (.complex .f64 0 0) := heap_cell h4 rfl
    have f4 := fun k => heap_frozen (i := k) h4
    have c50 : W.cell? ⟨p5, 0, none⟩ = some (.float .f64 0) := heap_cell h5 rfl
    have c51 : W.cell? ⟨p5, 1, none⟩ = some (.float .f64 0) := heap_cell h5 rfl
    have f5 := fun k => heap_frozen (i := k) h5
    simp only [e0, e1, e2, e3, e4, e5]
    clear hs
    refine tail_step rfl (fun K hK => ?_)
    go_simp
    refine hK.out _ _ ?_
    clear hK K
    refine tail_step rfl (fun K hK => ?_)
    go_simp
    refine hK.out _ _ ?_
    clear hK K
    refine tail_end ?_
    have ne54 := ne45.symm
    (try simp at n4 n5)
    have zB := (unhide B).size
    have BW : Bel w W := by refine bl_trans (b := _) ?_ hb; repeat (first | exact unhide B | apply bl_alloc | apply bl_drew)
    have BW0 := BW
    obtain ⟨wf0, hN, d40, d41, d42, fr0, bN⟩ := put3_all (p := .float .f64 X0) (q := .float .f64 Y0) (r := .complex .f64 a0 b0) c40 c41 c42
    rw [← hN]
    replace BW := bN w BW (by omega)
    replace c50 := (fr0 _ 0 (.inl ne54)).trans c50
    replace c51 := (fr0 _ 1 (.inl ne54)).trans c51
    clear hN fr0 bN
    obtain ⟨wf, hN, d50, d51, fr1, bN⟩ := put2_all (p := .float .f64 x1) (q := .float .f64 y1) c50 c51
    rw [← hN]
    replace BW := bN w BW (by omega)
    replace d40 := (fr1 _ 0 (.inl ne45)).trans d40
    replace d41 := (fr1 _ 1 (.inl ne45)).trans d41
    replace d42 := (fr1 _ 2 (.inl ne45)).trans d42
    clear hN fr1 bN
    have k_p4_0 : wf.cell? ⟨p4, 0, none⟩ = some (.float .f64 X0) := d40
    have k_p4_1 : wf.cell? ⟨p4, 1, none⟩ = some (.float .f64 Y0) := d41
    have k_p4_2 : wf.cell? ⟨p4, 2, none⟩ = some (.complex .f64 a0 b0) := d42
    clear d40 d41 d42
    have k_p5_0 : wf.cell? ⟨p5, 0, none⟩ = some (.float .f64 x1) := d50
    have k_p5_1 : wf.cell? ⟨p5, 1, none⟩ = some (.float .f64 y1) := d51
    clear d50 d51
    have l4 : p4 < wf.heap.size := World.block_lt_of_cell? wf _ k_p4_0
    have l5 : p5 < wf.heap.size := World.block_lt_of_cell? wf _ k_p5_0
    have z_p4 := fun k => (BW.2 _).trans ((BW0.2 ⟨p4, k, none⟩).symm.trans (f4 k))
    have z_p5 := fun k => (BW.2 _).trans ((BW0.2 ⟨p5, k, none⟩).symm.trans (f5 k))
    have B := hide BW
    clear BW BW0 hJ h4 h5 f4 f5 e0 e1 e2 e3 e4 e5
    have al := World.cell?_alloc_some
    go_upto_region 3 with fail
    rcases (show (calmK x1 = false) ∨ (calmK x1 = true ∧ calmK y1 = false) ∨ (calmK x1 = true ∧ calmK y1 = true ∧ calmK X0 = false) ∨ (calmK x1 = true ∧ calmK y1 = true ∧ calmK X0 = true ∧ calmK Y0 = false) ∨ (calmK x1 = true ∧ calmK y1 = true ∧ calmK X0 = true ∧ calmK Y0 = true) by cases calmK x1 <;> cases calmK y1 <;> cases calmK X0 <;> cases calmK Y0 <;> simp) with cx | ⟨cx, cy⟩ | ⟨cx, cy, cX⟩ | ⟨cx, cy, cX, cY⟩ | ⟨cx, cy, cX, cY⟩
    iterate 4
      · go_wp2_with (first | (go_at_call 9; refine (gCheck_any _ _ _ _ _).mono ?_; rintro e w1 ⟨q0, hC, rfl, hb⟩; have k_p4_0 := keep hb (a := ⟨p4, 0, none⟩) (v := .float .f64 X0) (by first | assumption | go_keep); have k_p4_1 := keep hb (a := ⟨p4, 1, none⟩) (v := .float .f64 Y0) (by first | assumption | go_keep); have k_p4_2 := keep hb (a := ⟨p4, 2, none⟩) (v := .complex .f64 a0 b0) (by first | assumption | go_keep); have k_p5_0 := keep hb (a := ⟨p5, 0, none⟩) (v := .float .f64 x1) (by first | assumption | go_keep); have k_p5_1 := keep hb (a := ⟨p5, 1, none⟩) (v := .float .f64 y1) (by first | assumption | go_keep); have B := hide (bl_trans (a := w) (by repeat (first | exact unhide B | exact bl_refl _ | apply bl_drew | apply bl_drewN | apply bl_alloc | refine bl_set ?_ (by simp <;> omega))) hb); clear hb; by_cases hE : frErr X0 Y0 q0 = 0) | (go_at_call 35; refine (lcalm_k _ (by assumption) _).mono ?_; rintro e w1 ⟨rfl, hw⟩; rw [hw]; clear hw w1))
        all_goals (go_ret; exact ⟨rfl, (by repeat (first | exact unhide B | exact bl_refl _ | apply bl_drew | apply bl_drewN | apply bl_alloc | refine bl_set ?_ (by simp <;> omega)))⟩)
    obtain ⟨s1, s2, al', e1, e2, e3, hAll⟩ := all_is cx cy cX cY
    have qe1 := fun w => run_float_arith (P := Try.prog) w .add 24 .f64 (rgK .f64 x1) (rgK .f64 y1) s1 e1
    have qe2 := fun w => run_float_arith (P := Try.prog) w .add 24 .f64 s1 (rgK .f64 X0) s2 e2
    have qe3 := fun w => run_float_arith (P := Try.prog) w .add 24 .f64 s2 (rgK .f64 Y0) al' e3
    clear e1 e2 e3
    have c1 := cmp_eq .f64
    have w1 := fun (x y : Nat) (w : World) => run_equalIn_float Try.prog w 24 .f64 x y Try.underlying24
    have w2 := fun (x y u v : Nat) (w : World) => run_equalIn_complex Try.prog w 27 .f64 x y u v Try.underlying27
    have w3 := fun (x y : Nat) (w : World) => run_equalIn_deep Try.prog w 24 .f64 x y Try.underlying24
    go_upto_region 5 with (first | (go_at_call 9; refine (gCheck_any _ _ _ _ _).mono ?_; rintro e w1 ⟨q0, hC, rfl, hb⟩; have k_p4_0 := keep hb (a := ⟨p4, 0, none⟩) (v := .float .f64 X0) (by first | assumption | go_keep); have k_p4_1 := keep hb (a := ⟨p4, 1, none⟩) (v := .float .f64 Y0) (by first | assumption | go_keep); have k_p4_2 := keep hb (a := ⟨p4, 2, none⟩) (v := .complex .f64 a0 b0) (by first | assumption | go_keep); have k_p5_0 := keep hb (a := ⟨p5, 0, none⟩) (v := .float .f64 x1) (by first | assumption | go_keep); have k_p5_1 := keep hb (a := ⟨p5, 1, none⟩) (v := .float .f64 y1) (by first | assumption | go_keep); have B := hide (bl_trans (a := w) (by repeat (first | exact unhide B | exact bl_refl _ | apply bl_drew | apply bl_drewN | apply bl_alloc | refine bl_set ?_ (by simp <;> omega))) hb); clear hb; by_cases hE : frErr X0 Y0 q0 = 0) | (go_at_call 35; refine (lcalm_k _ (by assumption) _).mono ?_; rintro e w1 ⟨rfl, hw⟩; rw [hw]; clear hw w1))
    · obtain ⟨hE1, hE2, hE3⟩ := fr_ok hE
      obtain ⟨fX, fY, fx, fy⟩ := (⟨(calm_num cX).1, (calm_num cY).1, (calm_num cx).1, (calm_num cy).1⟩ : _ ∧ _ ∧ _ ∧ _)
      obtain ⟨fa, fb⟩ := chk_fin hC hE3
      go_region_held3 (fun w1 => w1.cell? ⟨p4, 0, none⟩ = some (.float .f64 X0) ∧ w1.cell? ⟨p4, 1, none⟩ = some (.float .f64 Y0) ∧ w1.cell? ⟨p4, 2, none⟩ = some (.complex .f64 a0 b0) ∧ w1.cell? ⟨p5, 0, none⟩ = some (.float .f64 x1) ∧ w1.cell? ⟨p5, 1, none⟩ = some (.float .f64 y1)) (first | ((try go_split_ands); refine ⟨?_, ?_, ?_, ?_, ?_⟩ <;> (first | ((repeat' (first | (with_reducible assumption) | (with_reducible refine up_drew ?_) | (with_reducible refine up_drewN ?_) | (with_reducible refine up_alloc ?_) | (with_reducible refine keep hb ?_) | (with_reducible refine up_set2 ?_ ?_) | omega)); done) | go_keep)))
    (first | (go_at_call 36; refine (abs_any _ _ (by assumption)).mono ?_; rintro e w1 ⟨rfl, rfl⟩))
      all_goals go_split_ands
      all_goals go_wp2_with (first | (go_at_call 24; refine (gTo_any _ _ _ _ _ _ _).mono ?_; rintro e wt ⟨tx, ty, hT, rfl, hb⟩; have k_p4_0 := keep hb (a := ⟨p4, 0, none⟩) (v := .float .f64 X0) (by first | assumption | go_keep); have k_p4_1 := keep hb (a := ⟨p4, 1, none⟩) (v := .float .f64 Y0) (by first | assumption | go_keep); have k_p4_2 := keep hb (a := ⟨p4, 2, none⟩) (v := .complex .f64 a0 b0) (by first | assumption | go_keep); have k_p5_0 := keep hb (a := ⟨p5, 0, none⟩) (v := .float .f64 x1) (by first | assumption | go_keep); have k_p5_1 := keep hb (a := ⟨p5, 1, none⟩) (v := .float .f64 y1) (by first | assumption | go_keep); have B := hide (bl_trans (a := w) (by repeat (first | exact unhide B | exact bl_refl _ | apply bl_drew | apply bl_drewN | apply bl_alloc | refine bl_set ?_ (by simp <;> omega))) hb); clear hb) | (go_at_call 10; refine (gHome_any _).mono ?_; rintro e wh ⟨rfl, hb⟩; have k_p4_0 := keep hb (a := ⟨p4, 0, none⟩) (v := .float .f64 X0) (by first | assumption | go_keep); have k_p4_1 := keep hb (a := ⟨p4, 1, none⟩) (v := .float .f64 Y0) (by first | assumption | go_keep); have k_p4_2 := keep hb (a := ⟨p4, 2, none⟩) (v := .complex .f64 a0 b0) (by first | assumption | go_keep); have k_p5_0 := keep hb (a := ⟨p5, 0, none⟩) (v := .float .f64 x1) (by first | assumption | go_keep); have k_p5_1 := keep hb (a := ⟨p5, 1, none⟩) (v := .float .f64 y1) (by first | assumption | go_keep); have k_wt_0 := keep hb (a := ⟨wt.heap.size, 0, none⟩) (v := .float .f64 tx) (by first | assumption | go_keep); have k_wt_1 := keep hb (a := ⟨wt.heap.size, 1, none⟩) (v := .float .f64 ty) (by first | assumption | go_keep); have B := hide (bl_trans (a := w) (by repeat (first | exact unhide B | exact bl_refl _ | apply bl_drew | apply bl_drewN | apply bl_alloc | refine bl_set ?_ (by simp <;> omega))) hb); clear hb))
      all_goals
        go_region_held3 (fun w1 => w1.cell? ⟨p4, 0, none⟩ = some (.float .f64 X0) ∧ w1.cell? ⟨p4, 1, none⟩ = some (.float .f64 Y0) ∧ w1.cell? ⟨p4, 2, none⟩ = some (.complex .f64 a0 b0) ∧ w1.cell? ⟨p5, 0, none⟩ = some (.float .f64 x1) ∧ w1.cell? ⟨p5, 1, none⟩ = some (.float .f64 y1) ∧ w1.cell? ⟨wh.heap.size, 0, none⟩ = some (.float .f64 0) ∧ w1.cell? ⟨wh.heap.size, 1, none⟩ = some (.float .f64 0) ∧ w1.cell? ⟨wh.heap.size, 2, none⟩ = some (.complex .f64 4607182418800017408 0) ∧ w1.cell? ⟨wt.heap.size, 0, none⟩ = some (.float .f64 tx) ∧ w1.cell? ⟨wt.heap.size, 1, none⟩ = some (.float .f64 ty)) (first | ((try go_split_ands); refine ⟨?_, ?_, ?_, ?_, ?_, ?_, ?_, ?_, ?_, ?_⟩ <;> (first | ((repeat' (first | (with_reducible assumption) | (with_reducible refine up_drew ?_) | (with_reducible refine up_drewN ?_) | (with_reducible refine up_alloc ?_) | (with_reducible refine keep hb ?_) | (with_reducible refine up_set2 ?_ ?_) | omega)); done) | go_keep)))
    (first | (go_at_call 24; refine (gTo_any _ _ _ _ _ _ _).mono ?_; rintro e w1 ⟨h1, h2, hH, rfl, hb⟩; obtain ⟨u1, u2⟩ := to_home fx fy hH; have B := hide (bl_trans (a := w) (by repeat (first | exact unhide B | exact bl_refl _ | apply bl_drew | apply bl_drewN | apply bl_alloc | refine bl_set ?_ (by simp <;> omega))) hb)) | (go_at_call 26; refine (gOwn_any _ _ _ _ _ _ (by rw [okK64]; decide) _).mono ?_; rintro e w1 ⟨h3, h4, hH2, rfl, hb⟩; obtain ⟨u3, u4⟩ := own_home fx fy hH2; have B := hide (bl_trans (a := w) (by repeat (first | exact unhide B | exact bl_refl _ | apply bl_drew | apply bl_drewN | apply bl_alloc | refine bl_set ?_ (by simp <;> omega))) hb)))
        all_goals go_split_ands
        replace k_p4_0 : w1.cell? ⟨p4, 0, none⟩ = some (.float .f64 X0) := by assumption
        replace k_p4_1 : w1.cell? ⟨p4, 1, none⟩ = some (.float .f64 Y0) := by assumption
        replace k_p4_2 : w1.cell? ⟨p4, 2, none⟩ = some (.complex .f64 a0 b0) := by assumption
        replace k_p5_0 : w1.cell? ⟨p5, 0, none⟩ = some (.float .f64 x1) := by assumption
        replace k_p5_1 : w1.cell? ⟨p5, 1, none⟩ = some (.float .f64 y1) := by assumption
        replace k_wt_0 : w1.cell? ⟨wt.heap.size, 0, none⟩ = some (.float .f64 tx) := by assumption
        replace k_wt_1 : w1.cell? ⟨wt.heap.size, 1, none⟩ = some (.float .f64 ty) := by assumption
        have k_wh_0 : w1.cell? ⟨wh.heap.size, 0, none⟩ = some (.float .f64 0) := by assumption
        have k_wh_1 : w1.cell? ⟨wh.heap.size, 1, none⟩ = some (.float .f64 0) := by assumption
        have k_wh_2 : w1.cell? ⟨wh.heap.size, 2, none⟩ = some (.complex .f64 4607182418800017408 0) := by assumption
        go_wp2
        refine wp_region_multiA 8 (fun i v => match i with | 0 => v = .agg #[.float .f64 0, .float .f64 0, .complex .f64 4607182418800017408 0] | 1 => v = .agg #[.float .f64 X0, .float .f64 Y0, .complex .f64 a0 b0] | 2 => ∃ t1 t2 r1 i1, ToR 0 0 4607182418800017408 0 X0 Y0 t1 t2 ∧ ThenR a0 b0 4607182418800017408 0 r1 i1 ∧ v = .agg #[.float .f64 t1, .float .f64 t2, .complex .f64 r1 i1] | 3 => v = .agg #[.float .f64 X0, .float .f64 Y0, .complex .f64 a0 b0] | 4 => v = .agg #[.float .f64 0, .float .f64 0, .complex .f64 4607182418800017408 0] | 5 => ∃ t1 t2 r1 i1, ToR X0 Y0 a0 b0 0 0 t1 t2 ∧ ThenR 4607182418800017408 0 a0 b0 r1 i1 ∧ v = .agg #[.float .f64 t1, .float .f64 t2, .complex .f64 r1 i1] | 6 => ∃ b, v = .pointer (some ⟨b, 0, none⟩) | 7 => ∃ b, v = .pointer (some ⟨b, 0, none⟩) | _ => False) (fun i => match i with | 6 => some (Obj.cells #[.float .f64 0, .float .f64 0, .complex .f64 0 0] 29) | 7 => some (Obj.cells #[.float .f64 0, .float .f64 0, .complex .f64 0 0] 29) | _ => none) ?A_wz (by kernel_rfl) (by kernel_rfl) ?hA_wz ?ha_wz ?hq_wz [8, 9] rfl ?ht_wz
        case hA_wz =>
          intro s
          simp only [putL, dstO, Act.put, List.getElem?_toArray, List.getElem?_cons_zero, List.getElem?_cons_succ, Option.bind_some, List.setIfInBounds_toArray, List.set_cons_zero, List.set_cons_succ, if_true]
          exact rfl
        case ha_wz =>
          intro i o ob hi ho hal
          rcases (show i = 0 ∨ i = 1 ∨ i = 2 ∨ i = 3 ∨ i = 4 ∨ i = 5 ∨ i = 6 ∨ i = 7 by omega) with rfl | rfl | rfl | rfl | rfl | rfl | rfl | rfl
          · cases hal
          · cases hal
          · cases hal
          · cases hal
          · cases hal
          · cases hal
          · cases ho; cases hal; exact ⟨fun v hv => ⟨_, hv.choose_spec.2⟩, ⟨_, _, rfl⟩, fun A W => by go_simp⟩
          · cases ho; cases hal; exact ⟨fun v hv => ⟨_, hv.choose_spec.2⟩, ⟨_, _, rfl⟩, fun A W => by go_simp⟩
        case hq_wz =>
          intro i o hi ho hal s hs W hb K hK
          have y0 := keep hb k_wh_0; have y1 := keep hb k_wh_1; have y2 := keep hb k_wh_2; have y3 := keep hb k_p4_0; have y4 := keep hb k_p4_1; have y5 := keep hb k_p4_2
          rcases (show i = 0 ∨ i = 1 ∨ i = 2 ∨ i = 3 ∨ i = 4 ∨ i = 5 ∨ i = 6 ∨ i = 7 by omega) with rfl | rfl | rfl | rfl | rfl | rfl | rfl | rfl
          · cases ho
            simp only [Act.put, List.setIfInBounds_toArray, List.set_cons_zero, List.set_cons_succ] at hK
            clear hs
            go_simp
            all_goals (try go_wp2_with (first | (go_at_call 28; refine (gThen_any _ _ _ _ _ _ _ _ _).mono ?_; rintro e w1 ⟨t1, t2, r1, i1, hA, hR, rfl, hb1⟩)))
            all_goals first | exact hK.out _ _ ⟨_, _, _, _, hA, hR, rfl⟩ hb1 | exact hK.out _ _ rfl (bl_refl _) | exact hK.out _ _ rfl (by assumption) | exact hK.out _ _ (by assumption) (by assumption)
          · cases ho
            simp only [Act.put, List.setIfInBounds_toArray, List.set_cons_zero, List.set_cons_succ] at hK
            clear hs
            go_simp
            all_goals (try go_wp2_with (first | (go_at_call 28; refine (gThen_any _ _ _ _ _ _ _ _ _).mono ?_; rintro e w1 ⟨t1, t2, r1, i1, hA, hR, rfl, hb1⟩)))
            all_goals first | exact hK.out _ _ ⟨_, _, _, _, hA, hR, rfl⟩ hb1 | exact hK.out _ _ rfl (bl_refl _) | exact hK.out _ _ rfl (by assumption) | exact hK.out _ _ (by assumption) (by assumption)
          · cases ho
            have e0 : s 0 = _ := hs 0 (by decide) (by kernel_rfl)
            have e1 : s 1 = _ := hs 1 (by decide) (by kernel_rfl)
            simp only [e0, e1] at hK ⊢
            simp only [Act.put, List.setIfInBounds_toArray, List.set_cons_zero, List.set_cons_succ] at hK
            clear hs
            go_simp
            all_goals (try go_wp2_with (first | (go_at_call 28; refine (gThen_any _ _ _ _ _ _ _ _ _).mono ?_; rintro e w1 ⟨t1, t2, r1, i1, hA, hR, rfl, hb1⟩)))
            all_goals first | exact hK.out _ _ ⟨_, _, _, _, hA, hR, rfl⟩ hb1 | exact hK.out _ _ rfl (bl_refl _) | exact hK.out _ _ rfl (by assumption) | exact hK.out _ _ (by assumption) (by assumption)
          · cases ho
            simp only [Act.put, List.setIfInBounds_toArray, List.set_cons_zero, List.set_cons_succ] at hK
            clear hs
            go_simp
            all_goals (try go_wp2_with (first | (go_at_call 28; refine (gThen_any _ _ _ _ _ _ _ _ _).mono ?_; rintro e w1 ⟨t1, t2, r1, i1, hA, hR, rfl, hb1⟩)))
            all_goals first | exact hK.out _ _ ⟨_, _, _, _, hA, hR, rfl⟩ hb1 | exact hK.out _ _ rfl (bl_refl _) | exact hK.out _ _ rfl (by assumption) | exact hK.out _ _ (by assumption) (by assumption)
          · cases ho
            simp only [Act.put, List.setIfInBounds_toArray, List.set_cons_zero, List.set_cons_succ] at hK
            clear hs
            go_simp
            all_goals (try go_wp2_with (first | (go_at_call 28; refine (gThen_any _ _ _ _ _ _ _ _ _).mono ?_; rintro e w1 ⟨t1, t2, r1, i1, hA, hR, rfl, hb1⟩)))
            all_goals first | exact hK.out _ _ ⟨_, _, _, _, hA, hR, rfl⟩ hb1 | exact hK.out _ _ rfl (bl_refl _) | exact hK.out _ _ rfl (by assumption) | exact hK.out _ _ (by assumption) (by assumption)
          · cases ho
            have e3 : s 3 = _ := hs 3 (by decide) (by kernel_rfl)
            have e4 : s 4 = _ := hs 4 (by decide) (by kernel_rfl)
            simp only [e3, e4] at hK ⊢
            simp only [Act.put, List.setIfInBounds_toArray, List.set_cons_zero, List.set_cons_succ] at hK
            clear hs
            go_simp
            all_goals (try go_wp2_with (first | (go_at_call 28; refine (gThen_any _ _ _ _ _ _ _ _ _).mono ?_; rintro e w1 ⟨t1, t2, r1, i1, hA, hR, rfl, hb1⟩)))
            all_goals first | exact hK.out _ _ ⟨_, _, _, _, hA, hR, rfl⟩ hb1 | exact hK.out _ _ rfl (bl_refl _) | exact hK.out _ _ rfl (by assumption) | exact hK.out _ _ (by assumption) (by assumption)
          · cases hal
          · cases hal
        case ht_wz =>
          intro s hs W hb hJ
          have e0 : s 0 = _ := hs 0 (by decide)
          have e1 : s 1 = _ := hs 1 (by decide)
          obtain ⟨t1, t2, r1, i1, hA1, hR1, e2⟩ := hs 2 (by decide)
          have e3 : s 3 = _ := hs 3 (by decide)
          have e4 : s 4 = _ := hs 4 (by decide)
          obtain ⟨t3, t4, r2, i2, hA2, hR2, e5⟩ := hs 5 (by decide)
          obtain ⟨p6, e6, n6, h6⟩ := laid_at hJ 6 (by decide) rfl
          obtain ⟨p7, e7, n7, h7⟩ := laid_at hJ 7 (by decide) rfl
          have ne67 := laid_ne hJ 6 7 (by decide) (by decide) (by decide) rfl rfl e6 e7
          have c60 : W.cell? ⟨p6, 0, none⟩ = some (.float .f64 0) := heap_cell h6 rfl
          have c61 : W.cell? ⟨p6, 1, none⟩ = some (.float .f64 0) := heap_cell h6 rfl
          have c62 : W.cell? ⟨p6, 2, none⟩ = some (.complex .f64 0 0) := heap_cell h6 rfl
          have f6 := fun k => heap_frozen (i := k) h6
          have c70 : W.cell? ⟨p7, 0, none⟩ = some (.float .f64 0) := heap_cell h7 rfl
          have c71 : W.cell? ⟨p7, 1, none⟩ = some (.float .f64 0) := heap_cell h7 rfl
          have c72 : W.cell? ⟨p7, 2, none⟩ = some (.complex .f64 0 0) := heap_cell h7 rfl
          have f7 := fun k => heap_frozen (i := k) h7
          simp only [e0, e1, e2, e3, e4, e5, e6, e7]
          clear hs
          refine tail_step rfl (fun K hK => ?_)
          go_simp
          refine hK.out _ _ ?_
          clear hK K
          refine tail_step rfl (fun K hK => ?_)
          go_simp
          refine hK.out _ _ ?_
          clear hK K
          refine tail_end ?_
          have ne76 := ne67.symm
          (try simp at n6 n7)
          have zB := (unhide B).size
          have BW : Bel w W := by refine bl_trans (b := _) ?_ hb; repeat (first | exact unhide B | apply bl_alloc | apply bl_drew)
          have BW0 := BW
          have ol0 := World.block_lt_of_cell? _ _ k_p4_0
          have od0 := keep hb k_p4_0
          have ol1 := World.block_lt_of_cell? _ _ k_p4_1
          have od1 := keep hb k_p4_1
          have ol2 := World.block_lt_of_cell? _ _ k_p4_2
          have od2 := keep hb k_p4_2
          have ol3 := World.block_lt_of_cell? _ _ k_p5_0
          have od3 := keep hb k_p5_0
          have ol4 := World.block_lt_of_cell? _ _ k_p5_1
          have od4 := keep hb k_p5_1
          have ol5 := World.block_lt_of_cell? _ _ k_wt_0
          have od5 := keep hb k_wt_0
          have ol6 := World.block_lt_of_cell? _ _ k_wt_1
          have od6 := keep hb k_wt_1
          simp only at ol0 ol1 ol2 ol3 ol4 ol5 ol6
          obtain ⟨wz0, hN, d60, d61, d62, fr0, bN⟩ := put3_all (p := .float .f64 t1) (q := .float .f64 t2) (r := .complex .f64 r1 i1) c60 c61 c62
          rw [← hN]
          replace BW := bN w BW (by omega)
          replace c70 := (fr0 _ 0 (.inl ne76)).trans c70
          replace c71 := (fr0 _ 1 (.inl ne76)).trans c71
          replace c72 := (fr0 _ 2 (.inl ne76)).trans c72
          replace od0 := (fr0 (p4) 0 (.inl (by omega))).trans od0
          replace od1 := (fr0 (p4) 1 (.inl (by omega))).trans od1
          replace od2 := (fr0 (p4) 2 (.inl (by omega))).trans od2
          replace od3 := (fr0 (p5) 0 (.inl (by omega))).trans od3
          replace od4 := (fr0 (p5) 1 (.inl (by omega))).trans od4
          replace od5 := (fr0 (wt.heap.size) 0 (.inl (by omega))).trans od5
          replace od6 := (fr0 (wt.heap.size) 1 (.inl (by omega))).trans od6
          clear hN fr0 bN
          obtain ⟨wz, hN, d70, d71, d72, fr1, bN⟩ := put3_all (p := .float .f64 t3) (q := .float .f64 t4) (r := .complex .f64 r2 i2) c70 c71 c72
          rw [← hN]
          replace BW := bN w BW (by omega)
          replace d60 := (fr1 _ 0 (.inl ne67)).trans d60
          replace d61 := (fr1 _ 1 (.inl ne67)).trans d61
          replace d62 := (fr1 _ 2 (.inl ne67)).trans d62
          replace od0 := (fr1 (p4) 0 (.inl (by omega))).trans od0
          replace od1 := (fr1 (p4) 1 (.inl (by omega))).trans od1
          replace od2 := (fr1 (p4) 2 (.inl (by omega))).trans od2
          replace od3 := (fr1 (p5) 0 (.inl (by omega))).trans od3
          replace od4 := (fr1 (p5) 1 (.inl (by omega))).trans od4
          replace od5 := (fr1 (wt.heap.size) 0 (.inl (by omega))).trans od5
          replace od6 := (fr1 (wt.heap.size) 1 (.inl (by omega))).trans od6
          clear hN fr1 bN
          have k_p6_0 : wz.cell? ⟨p6, 0, none⟩ = some (.float .f64 t1) := d60
          have k_p6_1 : wz.cell? ⟨p6, 1, none⟩ = some (.float .f64 t2) := d61
          have k_p6_2 : wz.cell? ⟨p6, 2, none⟩ = some (.complex .f64 r1 i1) := d62
          clear d60 d61 d62
          have k_p7_0 : wz.cell? ⟨p7, 0, none⟩ = some (.float .f64 t3) := d70
          have k_p7_1 : wz.cell? ⟨p7, 1, none⟩ = some (.float .f64 t4) := d71
          have k_p7_2 : wz.cell? ⟨p7, 2, none⟩ = some (.complex .f64 r2 i2) := d72
          clear d70 d71 d72
          replace k_p4_0 := od0
          replace k_p4_1 := od1
          replace k_p4_2 := od2
          replace k_p5_0 := od3
          replace k_p5_1 := od4
          replace k_wt_0 := od5
          replace k_wt_1 := od6
          clear od0
          clear od1
          clear od2
          clear od3
          clear od4
          clear od5
          clear od6
          have l6 : p6 < wz.heap.size := World.block_lt_of_cell? wz _ k_p6_0
          have l7 : p7 < wz.heap.size := World.block_lt_of_cell? wz _ k_p7_0
          have z_p6 := fun k => (BW.2 _).trans ((BW0.2 ⟨p6, k, none⟩).symm.trans (f6 k))
          have z_p7 := fun k => (BW.2 _).trans ((BW0.2 ⟨p7, k, none⟩).symm.trans (f7 k))
          have B := hide BW
          clear BW BW0 hJ h6 h7 f6 f7 e0 e1 e2 e3 e4 e5 e6 e7
          obtain ⟨u1, u2⟩ := to_home fX fY hA1
          obtain ⟨u3, u4⟩ := then_one fa fb hR1
          obtain ⟨u5, u6⟩ := to_nought fa fb fX fY hA2
          obtain ⟨u7, u8⟩ := one_then fa fb hR2
          go_wp2
          go_region_held3 (fun w1 => w1.cell? ⟨p4, 0, none⟩ = some (.float .f64 X0) ∧ w1.cell? ⟨p4, 1, none⟩ = some (.float .f64 Y0) ∧ w1.cell? ⟨p4, 2, none⟩ = some (.complex .f64 a0 b0) ∧ w1.cell? ⟨p5, 0, none⟩ = some (.float .f64 x1) ∧ w1.cell? ⟨p5, 1, none⟩ = some (.float .f64 y1) ∧ w1.cell? ⟨wt.heap.size, 0, none⟩ = some (.float .f64 tx) ∧ w1.cell? ⟨wt.heap.size, 1, none⟩ = some (.float .f64 ty)) (first | ((try go_split_ands); refine ⟨?_, ?_, ?_, ?_, ?_, ?_, ?_⟩ <;> (first | ((repeat' (first | (with_reducible assumption) | (with_reducible refine up_drew ?_) | (with_reducible refine up_drewN ?_) | (with_reducible refine up_alloc ?_) | (with_reducible refine keep hb ?_) | (with_reducible refine up_set2 ?_ ?_) | omega)); done) | go_keep)))
    (first | (go_at_call 26; refine (gOwn_any _ _ _ _ _ _ (by assumption) _).mono ?_; rintro e w1 ⟨o1, o2, hOw, rfl, hb⟩; have B := hide (bl_trans (a := w) (by repeat (first | exact unhide B | exact bl_refl _ | apply bl_drew | apply bl_drewN | apply bl_alloc | refine bl_set ?_ (by simp <;> omega))) hb)) | (go_at_call 30; refine (gBack_any _ _ _ _ (by assumption) _).mono ?_; rintro e w1 ⟨c1, c2, hU1, rfl, hb⟩; have B := hide (bl_trans (a := w) (by repeat (first | exact unhide B | exact bl_refl _ | apply bl_drew | apply bl_drewN | apply bl_alloc | refine bl_set ?_ (by simp <;> omega))) hb)) | (go_at_call 24; refine (gTo_any _ _ _ _ _ _ _).mono ?_; rintro e w1 ⟨o3, o4, hTo, rfl, hb⟩; have B := hide (bl_trans (a := w) (by repeat (first | exact unhide B | exact bl_refl _ | apply bl_drew | apply bl_drewN | apply bl_alloc | refine bl_set ?_ (by simp <;> omega))) hb)) | (go_at_call 37; have z := hTo; clear z; refine (lnear_any _ _ _ _ _ _).mono ?_; rintro e w1 ⟨d1, m1, d2, m2, g1, j1, g2, j2, rfl, hb⟩; rw [near_to oX0 oY0 ox1 oy1 ob0 hC hE3 cX cY cx cy hT hU1 hTo hAll g1 j1 g2 j2]; have B := hide (bl_trans (a := w) (by repeat (first | exact unhide B | exact bl_refl _ | apply bl_drew | apply bl_drewN | apply bl_alloc | refine bl_set ?_ (by simp <;> omega))) hb)) | (go_at_call 37; refine (lnear_any _ _ _ _ _ _).mono ?_; rintro e w1 ⟨d1, m1, d2, m2, g1, j1, g2, j2, rfl, hb⟩; rw [near_own oX0 oY0 ox1 oy1 ob0 hC hE3 cX cY cx cy hT hOw hAll g1 j1 g2 j2]; have B := hide (bl_trans (a := w) (by repeat (first | exact unhide B | exact bl_refl _ | apply bl_drew | apply bl_drewN | apply bl_alloc | refine bl_set ?_ (by simp <;> omega))) hb)))
          all_goals go_wp2
          all_goals (go_ret; exact ⟨rfl, (by repeat (first | exact unhide B | exact bl_refl _ | apply bl_drew | apply bl_drewN | apply bl_alloc | refine bl_set ?_ (by simp <;> omega)))⟩)
    · go_wp2
      all_goals (go_ret; exact ⟨rfl, (by repeat (first | exact unhide B | exact bl_refl _ | apply bl_drew | apply bl_drewN | apply bl_alloc | refine bl_set ?_ (by simp <;> omega)))⟩)

set_option maxRecDepth 100000 in
theorem lifted (os : Os) (started : os.Started) (H : Type) (enc : TypeId × Value → H) :
    ReturnsInHanded {} Try.checked os 7 .any (Rows.frameBackSpec.pre6 enc Try.prog Try.f7 Rows.frameBackRow.domain false) (Rows.frameBackSpec.post enc Try.prog Try.f7 false true false false) := by
  refine returnsInHanded_of_change (C := Try.checked) own started (by kernel_rfl) Try.func7
    (ChangeSpec.witness6 (enc := enc) (C := Try.checked) false ⟨#[], #[.agg #[.int .u64 0, .int .u64 0, .int .u64 0, .int .u64 0], .agg #[.int .u64 0, .int .u64 0]], []⟩ 8 (by kernel_rfl) (by kernel_rfl) (by kernel_rfl) (by kernel_rfl)) ?_
  intro W base args ds gs before hval0 hW hcnd _
  have hval : ∀ (j : Nat) t v, Try.f7.params[j]? = some t → args[j]? = some v → Value.okWide Try.prog W .any base t v := hval0
  have hW' := hW
  obtain ⟨p, q, hA0, hV, rfl, hfz, hnd⟩ := hW
  have hA : DataW.TrodAll enc Try.prog W 0 (fun _ => true) true Try.f7.params.toList args.toList ds p := hA0
  rw [Try.params7] at hA hval
  obtain ⟨v0, vs0, d0, ds0, p0, q0, hargs, rfl, rfl, h0, r0⟩ := trodAll_cons hA
  obtain ⟨v1, vs1, d1, ds1, p1, q1, rfl, rfl, rfl, h1, r1⟩ := trodAll_cons r0
  obtain ⟨rfl, rfl, rfl⟩ := trodAll_nil r1
  obtain rfl : args = #[v0, v1] := by cases args; simp_all
  obtain ⟨rfl, rfl⟩ := trodVars_none hV
  obtain ⟨_, _, _, _, _, _, _, _, _, rfl, rfl, rfl, hz00, hz01, hz02, hz03⟩ := open_agg4 Try.underlying41 (by kernel_rfl) cellsQ (hval 0 41 v0 rfl rfl) h0
  obtain ⟨X0, e0, rfl, wX0⟩ := trod_in Try.underlying39 hz00
  simp at e0
  subst e0
  obtain ⟨X0, rfl⟩ := nat_u64 wX0
  obtain ⟨Y0, e0, rfl, wY0⟩ := trod_in Try.underlying39 hz01
  simp at e0
  subst e0
  obtain ⟨Y0, rfl⟩ := nat_u64 wY0
  obtain ⟨a0, e0, rfl, wa0⟩ := trod_in Try.underlying39 hz02
  simp at e0
  subst e0
  obtain ⟨a0, rfl⟩ := nat_u64 wa0
  obtain ⟨b0, e0, rfl, wb0⟩ := trod_in Try.underlying39 hz03
  simp at e0
  subst e0
  obtain ⟨b0, rfl⟩ := nat_u64 wb0
  obtain ⟨c1, k1, z1, u1, m1, rfl, rfl, rfl, hz1, hu1⟩ := open_agg2 Try.underlying43 (by kernel_rfl) cellsP (hval 1 43 v1 rfl rfl) h1
  obtain ⟨x1, e0, rfl, wx1⟩ := trod_in Try.underlying39 hz1
  obtain ⟨y1, e1, rfl, wy1⟩ := trod_in Try.underlying39 hu1
  simp at e0 e1
  subst e0 e1
  obtain ⟨x1, rfl⟩ := nat_u64 wx1
  obtain ⟨y1, rfl⟩ := nat_u64 wy1
  clear hA0 hval0
  simp only [List.append_nil] at hW'
  refine (walk X0 Y0 a0 b0 x1 y1 (wf_u64 wX0) (wf_u64 wY0) (wf_u64 wa0) (wf_u64 wb0) (wf_u64 wx1) (wf_u64 wy1) W).mono fun e W' ⟨he, hg0⟩ => ?_
  have hg := hg0.grown
  subst he
  exact ⟨_, rfl, post_of_same (pa := []) (pv := []) hW' (fun _ _ _ => (trodAll_cons_mk (shut_bool Try.underlying4 _) trodAll_mk0)) (fun sp _ => (trodAll_cons_mk (shut_agg4 (y0 := (.lit (.int .u64 X0), [])) (y1 := (.lit (.int .u64 Y0), [])) (y2 := (.lit (.int .u64 a0), [])) (y3 := (.lit (.int .u64 b0), [])) Try.underlying41 (by kernel_rfl) cellsQ ⟨1, by simp [DataW.trod, Try.underlying39, wX0]⟩ ⟨1, by simp [DataW.trod, Try.underlying39, wY0]⟩ ⟨1, by simp [DataW.trod, Try.underlying39, wa0]⟩ ⟨1, by simp [DataW.trod, Try.underlying39, wb0]⟩) (trodAll_cons_mk (shut_agg2 (y0 := (.lit (.int .u64 x1), [])) (y1 := (.lit (.int .u64 y1), [])) Try.underlying43 (by kernel_rfl) cellsP ⟨1, by simp [DataW.trod, Try.underlying39, wx1]⟩ ⟨1, by simp [DataW.trod, Try.underlying39, wy1]⟩) trodAll_mk0))) (fun _ _ => rfl) rfl
    (hg.frame _) hg.2.1 (ok_one (by kernel_rfl) rfl (okWide_bool_mk Try.underlying4 _))⟩

theorem over : Rows.frameBackRow.holds Try.pinned (OpenSpec.ofChange Rows.frameBackSpec) :=
  OpenClaim.holds_of_wide 7 Try.f7 rfl rfl rfl rfl rfl rfl rfl ⟨rfl, rfl, rfl, rfl, rfl⟩ rfl rfl rfl rfl rfl (by kernel_rfl) Try.func7 (by kernel_rfl)
    (of_decide_eq_true (by kernel_rfl)) (by unfold Func.isWrapper; first | (rw [if_pos (by decide +kernel)]; kernel_rfl) | (rw [if_neg (by decide +kernel)]; exact ⟨rfl, rfl⟩))
    (fun os started H enc _ => lifted os started H enc)

theorem proved : Rows.FrameBackSaid :=
  over
#print axioms proved
end Go.Proofs.Ytoljkokcgmigeaa.frameBack
