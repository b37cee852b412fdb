/-
  FrameTwice: a move of nothing keeps the place; twice the speed goes twice as far, half the speed for twice the time as far, with the same turn; the turn may be one; for all bits, no condition.
-/
import Derived.Test.YtoljkokcgmigeaaRows
import Derived.Test.YtoljkokcgmigeaaFalive
import Derived.Test.YtoljkokcgmigeaaFtw
import Derived.WalkKit
import Derived.ProofKit
import Derived.OpenShut
import Derived.WalkLawsBesides
import Derived.WalkSpells
import Derived.Lib.SmallJoins
import Derived.Laws.Cover2
import Derived.Laws.Cover3
import Derived.Deep.DeepCutAuto
import Derived.Deep.RegionHeld3
namespace Go.Proofs.Ytoljkokcgmigeaa.frameTwice
open Go.ChangeShapes Go.WideShapes Go.ChangeAt Go.RowKit Go.Joins
set_option linter.unusedVariables false
set_option linter.unusedSimpArgs false

theorem own : ownKnob Try.prog.godebug = none := by kernel_rfl
theorem cellsP : Try.prog.cellsOf 43 = 2 := by kernel_rfl
theorem cellsQ : Try.prog.cellsOf 41 = 4 := by kernel_rfl
theorem nat_u64 {n : Int} (h : (Lit.int .u64 n).wf = true) : ∃ x : Nat, n = (x : Int) := by
  simp only [Lit.wf, Bool.and_eq_true, decide_eq_true_eq] at h
  have e1 : IntKind.u64.min = 0 := by decide +kernel
  rw [e1] at h
  exact ⟨n.toNat, by omega⟩
theorem wf_u64 {x : Nat} (h : (Lit.int .u64 (x : Int)).wf = true) : okK .f64 x := by
  rw [okK64]
  simp only [Lit.wf, Bool.and_eq_true, decide_eq_true_eq] at h
  have e1 : IntKind.u64.max = 18446744073709551615 := by decide +kernel
  rw [e1] at h
  omega
theorem trod_in {H : Type} {enc : TypeId × Value → H} {P : Program} {w : World} {base fuel : Nat} {spare : Nat → Bool} {held : Bool} {t : TypeId} {cs : List Value} {x : DataW H × List MemPlace} {k : IntKind} (ht : P.underlying t = some (.int k)) (h : DataW.trod enc P w base spare held fuel t cs = some x) : ∃ n, cs = [.int k n] ∧ x = (.lit (.int k n), []) ∧ (Lit.int k n).wf = true := by
  cases fuel with
  | zero => simp [DataW.trod] at h
  | succ n =>
    unfold DataW.trod at h
    rw [ht] at h
    split at h <;> simp_all
theorem wf_f64 {x : Nat} (h : (Lit.float .f64 x).wf = true) : okK .f64 x := by
  rw [okK64]; simpa [Lit.wf] using h
theorem trod_fl {H : Type} {enc : TypeId × Value → H} {P : Program} {w : World} {base fuel : Nat} {spare : Nat → Bool} {held : Bool} {t : TypeId} {cs : List Value} {x : DataW H × List MemPlace} {k : FloatKind} (ht : P.underlying t = some (.float k)) (h : DataW.trod enc P w base spare held fuel t cs = some x) : ∃ n, cs = [.float k n] ∧ x = (.lit (.float k n), []) ∧ (Lit.float k n).wf = true := by
  cases fuel with
  | zero => simp [DataW.trod] at h
  | succ n =>
    unfold DataW.trod at h
    rw [ht] at h
    split at h <;> simp_all

theorem lcalm_k {b : Bool} (a : Nat) (h : calmK a = b) (w : World) : Calls Try.prog 35 #[.float .f64 a] w fun e w' => e = .returned (.bool b) ∧ w' = w := by
  subst h
  exact lcalm_any a w
theorem fr_ok {X Y s : Nat} (h : frErr X Y s = 0) : withinK .f64 X 4787326403894837248 = true ∧ withinK .f64 Y 4787326403894837248 = true ∧ chk s = true := by
  unfold frErr at h
  split at h
  · rename_i g
    simp only [Bool.and_eq_true] at g
    refine ⟨g.1, g.2, ?_⟩
    cases hc : chk s
    · rw [hc] at h; exact absurd h (by decide)
    · rfl
  · exact absurd h (by decide)
theorem within_end {X : Nat} (h : withinK .f64 X 4787326403894837248 = true) : finK .f64 X = true := by
  unfold withinK at h
  simp only [Bool.and_eq_true] at h
  cases na : ngK .f64 X
  · exact (fin_of_le (by decide +kernel) na (by decide +kernel) h.2).1
  · exact (av_neg_le (by decide +kernel) (by decide +kernel) na h.1).1
theorem still_two {X Y s t tx ty : Nat} (hE : withinK .f64 X 4787326403894837248 = true ∧ withinK .f64 Y 4787326403894837248 = true ∧ chk s = true) (ft : finK .f64 t = true) (h : MoreR X Y t 0 0 tx ty) : eqK .f64 tx X = true ∧ eqK .f64 ty Y = true := by
  obtain ⟨p, q, h1, h2, h3, h4⟩ := h
  exact ⟨still_at (within_end hE.1) ft h1 h3, still_at (within_end hE.2.1) ft h2 h4⟩

set_option maxRecDepth 100000 in
set_option maxHeartbeats 40000000 in
theorem walk (X0 Y0 a0 b0 : Nat) (x1 y1 : Nat) (s2 : Nat) (s3 : Nat) (oX0 : okK .f64 X0) (oY0 : okK .f64 Y0) (oa0 : okK .f64 a0) (ob0 : okK .f64 b0) (ox1 : okK .f64 x1) (oy1 : okK .f64 y1) (os2 : okK .f64 s2) (os3 : okK .f64 s3) (w : World) :
    Calls Try.prog 8 #[.agg #[.int .u64 (X0 : Nat), .int .u64 (Y0 : Nat), .int .u64 (a0 : Nat), .int .u64 (b0 : Nat)], .agg #[.int .u64 (x1 : Nat), .int .u64 (y1 : Nat)], .int .u64 (s2 : Nat), .int .u64 (s3 : Nat)] w fun e w' => e = .returned (.bool true) ∧ Bel w w' := by
  go_enter Try.func8, Try.ntmps8
  go_wp2_with (first | (go_at_call 17; refine (falive_any _).mono ?_; rintro e wv ⟨rfl, hb⟩; have k_0_0 := keep hb (a := ⟨w.heap.size, 0, none⟩) (v := .int .u64 ((X0 : Nat) : Int)) (by first | assumption | go_keep | exact (cell_own (by simp) _ _ _).1 | exact (cell_own (by simp) _ _ _).2); have k_0_1 := keep hb (a := ⟨w.heap.size, 1, none⟩) (v := .int .u64 ((Y0 : Nat) : Int)) (by first | assumption | go_keep | exact (cell_own (by simp) _ _ _).1 | exact (cell_own (by simp) _ _ _).2); have k_0_2 := keep hb (a := ⟨w.heap.size, 2, none⟩) (v := .int .u64 ((a0 : Nat) : Int)) (by first | assumption | go_keep | exact (cell_own (by simp) _ _ _).1 | exact (cell_own (by simp) _ _ _).2); have k_0_3 := keep hb (a := ⟨w.heap.size, 3, none⟩) (v := .int .u64 ((b0 : Nat) : Int)) (by first | assumption | go_keep | exact (cell_own (by simp) _ _ _).1 | exact (cell_own (by simp) _ _ _).2); have k_1_0 := keep hb (a := ⟨w.heap.size + 1, 0, none⟩) (v := .int .u64 ((x1 : Nat) : Int)) (by first | assumption | go_keep | exact (cell_own (by simp) _ _ _).1 | exact (cell_own (by simp) _ _ _).2); have k_1_1 := keep hb (a := ⟨w.heap.size + 1, 1, none⟩) (v := .int .u64 ((y1 : Nat) : Int)) (by first | assumption | go_keep | exact (cell_own (by simp) _ _ _).1 | exact (cell_own (by simp) _ _ _).2); have B := hide (bl_trans (a := w) (by repeat (first | exact unhide B | exact bl_refl _ | apply bl_drew | apply bl_drewN | apply bl_alloc | refine bl_set ?_ (by simp <;> omega))) hb); clear hb))
  refine wp_region_multiA 6 (fun i v => match i with | 0 => v = .agg #[.int .u64 (X0 : Nat), .int .u64 (Y0 : Nat), .int .u64 (a0 : Nat), .int .u64 (b0 : Nat)] | 1 => v = .agg #[.float .f64 X0, .float .f64 Y0, .complex .f64 a0 b0] | 2 => v = .agg #[.int .u64 (X0 : Nat), .int .u64 (Y0 : Nat), .int .u64 (a0 : Nat), .int .u64 (b0 : Nat)] | 3 => v = .agg #[.float .f64 X0, .float .f64 Y0, .complex .f64 a0 b0] | 4 => ∃ b, v = .pointer (some ⟨b, 0, none⟩) | 5 => ∃ b, v = .pointer (some ⟨b, 0, none⟩) | _ => False) (fun i => match i with | 4 => some (Obj.cells #[.float .f64 0, .float .f64 0, .complex .f64 0 0] 29) | 5 => some (Obj.cells #[.float .f64 0, .float .f64 0, .complex .f64 0 0] 29) | _ => none) ?A_wf (by kernel_rfl) (by kernel_rfl) ?hA_wf ?ha_wf ?hq_wf [6, 7] rfl ?ht_wf
  case hA_wf =>
    intro s
    simp only [putL, dstO, Act.put, List.getElem?_toArray, List.getElem?_cons_zero, List.getElem?_cons_succ, Option.bind_some, List.setIfInBounds_toArray, List.set_cons_zero, List.set_cons_succ, if_true]
    exact rfl
  case ha_wf =>
    intro i o ob hi ho hal
    rcases (show i = 0 ∨ i = 1 ∨ i = 2 ∨ i = 3 ∨ i = 4 ∨ i = 5 by omega) with rfl | rfl | rfl | rfl | rfl | rfl
    · cases hal
    · cases hal
    · cases hal
    · cases hal
    · cases ho; cases hal; exact ⟨fun v hv => ⟨_, hv.choose_spec.2⟩, ⟨_, _, rfl⟩, fun A W => by go_simp⟩
    · cases ho; cases hal; exact ⟨fun v hv => ⟨_, hv.choose_spec.2⟩, ⟨_, _, rfl⟩, fun A W => by go_simp⟩
  case hq_wf =>
    intro i o hi ho hal s hs W hb K hK
    have y0 := keep hb k_0_0; have y1 := keep hb k_0_1; have y2 := keep hb k_0_2; have y3 := keep hb k_0_3
    rcases (show i = 0 ∨ i = 1 ∨ i = 2 ∨ i = 3 ∨ i = 4 ∨ i = 5 by omega) with rfl | rfl | rfl | rfl | rfl | rfl
    · cases ho
      simp only [Act.put, List.setIfInBounds_toArray, List.set_cons_zero, List.set_cons_succ] at hK
      clear hs
      go_simp
      all_goals (try go_wp2_with (first | (go_at_call 19; refine (lFrame_any _ _ _ _ _).mono ?_; rintro e w1 ⟨rfl, hb1⟩)))
      all_goals first | exact hK.out _ _ rfl (bl_refl _) | exact hK.out _ _ rfl (by assumption) | exact hK.out _ _ (by assumption) (by assumption)
    · cases ho
      have e0 : s 0 = _ := hs 0 (by decide) (by kernel_rfl)
      simp only [e0] at hK ⊢
      simp only [Act.put, List.setIfInBounds_toArray, List.set_cons_zero, List.set_cons_succ] at hK
      clear hs
      go_simp
      all_goals (try go_wp2_with (first | (go_at_call 19; refine (lFrame_any _ _ _ _ _).mono ?_; rintro e w1 ⟨rfl, hb1⟩)))
      all_goals first | exact hK.out _ _ rfl (bl_refl _) | exact hK.out _ _ rfl (by assumption) | exact hK.out _ _ (by assumption) (by assumption)
    · cases ho
      simp only [Act.put, List.setIfInBounds_toArray, List.set_cons_zero, List.set_cons_succ] at hK
      clear hs
      go_simp
      all_goals (try go_wp2_with (first | (go_at_call 19; refine (lFrame_any _ _ _ _ _).mono ?_; rintro e w1 ⟨rfl, hb1⟩)))
      all_goals first | exact hK.out _ _ rfl (bl_refl _) | exact hK.out _ _ rfl (by assumption) | exact hK.out _ _ (by assumption) (by assumption)
    · cases ho
      have e2 : s 2 = _ := hs 2 (by decide) (by kernel_rfl)
      simp only [e2] at hK ⊢
      simp only [Act.put, List.setIfInBounds_toArray, List.set_cons_zero, List.set_cons_succ] at hK
      clear hs
      go_simp
      all_goals (try go_wp2_with (first | (go_at_call 19; refine (lFrame_any _ _ _ _ _).mono ?_; rintro e w1 ⟨rfl, hb1⟩)))
      all_goals first | exact hK.out _ _ rfl (bl_refl _) | exact hK.out _ _ rfl (by assumption) | exact hK.out _ _ (by assumption) (by assumption)
    · cases hal
    · cases hal
  case ht_wf =>
    intro s hs W hb hJ
    have e0 : s 0 = _ := hs 0 (by decide)
    have e1 : s 1 = _ := hs 1 (by decide)
    have e2 : s 2 = _ := hs 2 (by decide)
    have e3 : s 3 = _ := hs 3 (by decide)
    obtain ⟨p4, e4, n4, h4⟩ := laid_at hJ 4 (by decide) rfl
    obtain ⟨p5, e5, n5, h5⟩ := laid_at hJ 5 (by decide) rfl
    have ne45 := laid_ne hJ 4 5 (by decide) (by decide) (by decide) rfl rfl e4 e5
    have c40 : W.cell? ⟨p4, 0, none⟩ = some (.float .f64 0) := heap_cell h4 rfl
    have c41 : W.cell? ⟨p4, 1, none⟩ = some (.float .f64 0) := heap_cell h4 rfl
    have c42 : W.cell? ⟨p4, 2, none⟩ = some (.complex .f64 0 0) := heap_cell h4 rfl
    have f4 := fun k => heap_frozen (i := k) h4
    have c50 : W.cell? ⟨p5, 0, none⟩ = some (.float .f64 0) := heap_cell h5 rfl
    have c51 : W.cell? ⟨p5, 1, none⟩ = some (.float .f64 0) := heap_cell h5 rfl
    have c52 : W.cell? ⟨p5, 2, none⟩ = some (.complex .f64 0 0) := heap_cell h5 rfl
    have f5 := fun k => heap_frozen (i := k) h5
    simp only [e0, e1, e2, e3, e4, e5]
    clear hs
    refine tail_step rfl (fun K hK => ?_)
    go_simp
    refine hK.out _ _ ?_
    clear hK K
    refine tail_step rfl (fun K hK => ?_)
    go_simp
    refine hK.out _ _ ?_
    clear hK K
    refine tail_end ?_
    have ne54 := ne45.symm
    (try simp at n4 n5)
    have zB := (unhide B).size
    have BW : Bel w W := by refine bl_trans (b := _) ?_ hb; repeat (first | exact unhide B | apply bl_alloc | apply bl_drew)
    have BW0 := BW
    have ol0 := World.block_lt_of_cell? _ _ k_1_0
    have od0 := keep hb k_1_0
    have ol1 := World.block_lt_of_cell? _ _ k_1_1
    have od1 := keep hb k_1_1
    simp only at ol0 ol1
    obtain ⟨wf0, hN, d40, d41, d42, fr0, bN⟩ := put3_all (p := .float .f64 X0) (q := .float .f64 Y0) (r := .complex .f64 a0 b0) c40 c41 c42
    rw [← hN]
    replace BW := bN w BW (by omega)
    replace c50 := (fr0 _ 0 (.inl ne54)).trans c50
    replace c51 := (fr0 _ 1 (.inl ne54)).trans c51
    replace c52 := (fr0 _ 2 (.inl ne54)).trans c52
    replace od0 := (fr0 (w.heap.size + 1) 0 (.inl (by omega))).trans od0
    replace od1 := (fr0 (w.heap.size + 1) 1 (.inl (by omega))).trans od1
    clear hN fr0 bN
    obtain ⟨wf, hN, d50, d51, d52, fr1, bN⟩ := put3_all (p := .float .f64 X0) (q := .float .f64 Y0) (r := .complex .f64 a0 b0) c50 c51 c52
    rw [← hN]
    replace BW := bN w BW (by omega)
    replace d40 := (fr1 _ 0 (.inl ne45)).trans d40
    replace d41 := (fr1 _ 1 (.inl ne45)).trans d41
    replace d42 := (fr1 _ 2 (.inl ne45)).trans d42
    replace od0 := (fr1 (w.heap.size + 1) 0 (.inl (by omega))).trans od0
    replace od1 := (fr1 (w.heap.size + 1) 1 (.inl (by omega))).trans od1
    clear hN fr1 bN
    have k_p4_0 : wf.cell? ⟨p4, 0, none⟩ = some (.float .f64 X0) := d40
    have k_p4_1 : wf.cell? ⟨p4, 1, none⟩ = some (.float .f64 Y0) := d41
    have k_p4_2 : wf.cell? ⟨p4, 2, none⟩ = some (.complex .f64 a0 b0) := d42
    clear d40 d41 d42
    have k_p5_0 : wf.cell? ⟨p5, 0, none⟩ = some (.float .f64 X0) := d50
    have k_p5_1 : wf.cell? ⟨p5, 1, none⟩ = some (.float .f64 Y0) := d51
    have k_p5_2 : wf.cell? ⟨p5, 2, none⟩ = some (.complex .f64 a0 b0) := d52
    clear d50 d51 d52
    replace k_1_0 := od0
    replace k_1_1 := od1
    clear od0
    clear od1
    have l4 : p4 < wf.heap.size := World.block_lt_of_cell? wf _ k_p4_0
    have l5 : p5 < wf.heap.size := World.block_lt_of_cell? wf _ k_p5_0
    have z_p4 := fun k => (BW.2 _).trans ((BW0.2 ⟨p4, k, none⟩).symm.trans (f4 k))
    have z_p5 := fun k => (BW.2 _).trans ((BW0.2 ⟨p5, k, none⟩).symm.trans (f5 k))
    have B := hide BW
    clear BW BW0 hJ h4 h5 f4 f5 e0 e1 e2 e3 e4 e5
    go_upto_region 4 with fail
    obtain ⟨wg, hN, k4a, k4b, fr, bN⟩ := put2_all (p := .float .f64 0) (q := .float .f64 0) k_p4_0 k_p4_1
    rw [← hN]
    have k4c := (fr p4 2 (.inr (by decide))).trans k_p4_2
    replace k_p5_0 := (fr p5 0 (.inl ne54)).trans k_p5_0
    replace k_p5_1 := (fr p5 1 (.inl ne54)).trans k_p5_1
    replace k_p5_2 := (fr p5 2 (.inl ne54)).trans k_p5_2
    replace k_1_0 := (fr (w.heap.size + 1) 0 (.inl (by omega))).trans k_1_0
    replace k_1_1 := (fr (w.heap.size + 1) 1 (.inl (by omega))).trans k_1_1
    replace B := hide (bN w (unhide B) (by omega))
    clear hN fr bN k_p4_0 k_p4_1 k_p4_2
    go_upto_region 5 with (first | (go_at_call 20; refine (lVec_any _ _ _).mono ?_; rintro e wu ⟨rfl, hb⟩; have k_p4_0 := keep hb (a := ⟨p4, 0, none⟩) (v := .float .f64 0) (by first | assumption | go_keep | exact (cell_own (by simp) _ _ _).1 | exact (cell_own (by simp) _ _ _).2); have k_p4_1 := keep hb (a := ⟨p4, 1, none⟩) (v := .float .f64 0) (by first | assumption | go_keep | exact (cell_own (by simp) _ _ _).1 | exact (cell_own (by simp) _ _ _).2); have k_p4_2 := keep hb (a := ⟨p4, 2, none⟩) (v := .complex .f64 a0 b0) (by first | assumption | go_keep | exact (cell_own (by simp) _ _ _).1 | exact (cell_own (by simp) _ _ _).2); have k_p5_0 := keep hb (a := ⟨p5, 0, none⟩) (v := .float .f64 X0) (by first | assumption | go_keep | exact (cell_own (by simp) _ _ _).1 | exact (cell_own (by simp) _ _ _).2); have k_p5_1 := keep hb (a := ⟨p5, 1, none⟩) (v := .float .f64 Y0) (by first | assumption | go_keep | exact (cell_own (by simp) _ _ _).1 | exact (cell_own (by simp) _ _ _).2); have k_p5_2 := keep hb (a := ⟨p5, 2, none⟩) (v := .complex .f64 a0 b0) (by first | assumption | go_keep | exact (cell_own (by simp) _ _ _).1 | exact (cell_own (by simp) _ _ _).2); have B := hide (bl_trans (a := w) (by repeat (first | exact unhide B | exact bl_refl _ | apply bl_drew | apply bl_drewN | apply bl_alloc | refine bl_set ?_ (by simp <;> omega))) hb); clear hb) | (go_at_call 33; refine (lf_any _ _).mono ?_; rintro e w1 ⟨rfl, hw⟩; rw [hw]; clear hw w1))
    have al := World.cell?_alloc_some
    rcases (show (calmK x1 = false) ∨ (calmK x1 = true ∧ calmK y1 = false) ∨ (calmK x1 = true ∧ calmK y1 = true ∧ calmK s2 = false) ∨ (calmK x1 = true ∧ calmK y1 = true ∧ calmK s2 = true ∧ calmK s3 = false) ∨ (calmK x1 = true ∧ calmK y1 = true ∧ calmK s2 = true ∧ calmK s3 = true) by cases calmK x1 <;> cases calmK y1 <;> cases calmK s2 <;> cases calmK s3 <;> simp) with cx | ⟨cx, cy⟩ | ⟨cx, cy, cw⟩ | ⟨cx, cy, cw, ct⟩ | ⟨cx, cy, cw, ct⟩
    iterate 4
      · go_wp2_with (first | (go_at_call 9; refine (gCheck_any _ _ _ _ _).mono ?_; rintro e w1 ⟨q0, hC, rfl, hb⟩; have k_p4_0 := keep hb (a := ⟨p4, 0, none⟩) (v := .float .f64 0) (by first | assumption | go_keep | exact (cell_own (by simp) _ _ _).1 | exact (cell_own (by simp) _ _ _).2); have k_p4_1 := keep hb (a := ⟨p4, 1, none⟩) (v := .float .f64 0) (by first | assumption | go_keep | exact (cell_own (by simp) _ _ _).1 | exact (cell_own (by simp) _ _ _).2); have k_p4_2 := keep hb (a := ⟨p4, 2, none⟩) (v := .complex .f64 a0 b0) (by first | assumption | go_keep | exact (cell_own (by simp) _ _ _).1 | exact (cell_own (by simp) _ _ _).2); have k_p5_0 := keep hb (a := ⟨p5, 0, none⟩) (v := .float .f64 X0) (by first | assumption | go_keep | exact (cell_own (by simp) _ _ _).1 | exact (cell_own (by simp) _ _ _).2); have k_p5_1 := keep hb (a := ⟨p5, 1, none⟩) (v := .float .f64 Y0) (by first | assumption | go_keep | exact (cell_own (by simp) _ _ _).1 | exact (cell_own (by simp) _ _ _).2); have k_p5_2 := keep hb (a := ⟨p5, 2, none⟩) (v := .complex .f64 a0 b0) (by first | assumption | go_keep | exact (cell_own (by simp) _ _ _).1 | exact (cell_own (by simp) _ _ _).2); have k_wu_0 := keep hb (a := ⟨wu.heap.size, 0, none⟩) (v := .float .f64 x1) (by first | assumption | go_keep | exact (cell_own (by simp) _ _ _).1 | exact (cell_own (by simp) _ _ _).2); have k_wu_1 := keep hb (a := ⟨wu.heap.size, 1, none⟩) (v := .float .f64 y1) (by first | assumption | go_keep | exact (cell_own (by simp) _ _ _).1 | exact (cell_own (by simp) _ _ _).2); have B := hide (bl_trans (a := w) (by repeat (first | exact unhide B | exact bl_refl _ | apply bl_drew | apply bl_drewN | apply bl_alloc | refine bl_set ?_ (by simp <;> omega))) hb); clear hb; by_cases hE : frErr X0 Y0 q0 = 0) | (go_at_call 35; refine (lcalm_k _ (by assumption) _).mono ?_; rintro e w1 ⟨rfl, hw⟩; rw [hw]; clear hw w1))
        all_goals (go_ret; exact ⟨rfl, (by repeat (first | exact unhide B | exact bl_refl _ | apply bl_drew | apply bl_drewN | apply bl_alloc | refine bl_set ?_ (by simp <;> omega)))⟩)
    obtain ⟨sx2, e1, k1⟩ := dbl ox1 cx
    obtain ⟨sy2, e2, k2⟩ := dbl oy1 cy
    obtain ⟨hx, e3, k3⟩ := hlf ox1 cx
    obtain ⟨hy, e4, k4⟩ := hlf oy1 cy
    obtain ⟨hw, e5, k5⟩ := hlf os2 cw
    obtain ⟨t2, e6, k6⟩ := dbl os3 ct
    have qe1 := fun w => run_float_arith (P := Try.prog) w .mul 24 .f64 4611686018427387904 x1 sx2 e1
    have qe2 := fun w => run_float_arith (P := Try.prog) w .mul 24 .f64 4611686018427387904 y1 sy2 e2
    have qe3 := fun w => run_float_arith (P := Try.prog) w .quo 24 .f64 x1 4611686018427387904 hx e3
    have qe4 := fun w => run_float_arith (P := Try.prog) w .quo 24 .f64 y1 4611686018427387904 hy e4
    have qe5 := fun w => run_float_arith (P := Try.prog) w .quo 24 .f64 s2 4611686018427387904 hw e5
    have qe6 := fun w => run_float_arith (P := Try.prog) w .mul 24 .f64 4611686018427387904 s3 t2 e6
    clear e1 e2 e3 e4 e5 e6
    have c1 := cmp_eq .f64
    have w1 := fun (x y : Nat) (w : World) => run_equalIn_float Try.prog w 24 .f64 x y Try.underlying24
    have w2 := fun (x y u v : Nat) (w : World) => run_equalIn_complex Try.prog w 27 .f64 x y u v Try.underlying27
    have w3 := fun (x y : Nat) (w : World) => run_equalIn_deep Try.prog w 24 .f64 x y Try.underlying24
    go_upto_region 7 with (first | (go_at_call 9; refine (gCheck_any _ _ _ _ _).mono ?_; rintro e w1 ⟨q0, hC, rfl, hb⟩; have k_p4_0 := keep hb (a := ⟨p4, 0, none⟩) (v := .float .f64 0) (by first | assumption | go_keep | exact (cell_own (by simp) _ _ _).1 | exact (cell_own (by simp) _ _ _).2); have k_p4_1 := keep hb (a := ⟨p4, 1, none⟩) (v := .float .f64 0) (by first | assumption | go_keep | exact (cell_own (by simp) _ _ _).1 | exact (cell_own (by simp) _ _ _).2); have k_p4_2 := keep hb (a := ⟨p4, 2, none⟩) (v := .complex .f64 a0 b0) (by first | assumption | go_keep | exact (cell_own (by simp) _ _ _).1 | exact (cell_own (by simp) _ _ _).2); have k_p5_0 := keep hb (a := ⟨p5, 0, none⟩) (v := .float .f64 X0) (by first | assumption | go_keep | exact (cell_own (by simp) _ _ _).1 | exact (cell_own (by simp) _ _ _).2); have k_p5_1 := keep hb (a := ⟨p5, 1, none⟩) (v := .float .f64 Y0) (by first | assumption | go_keep | exact (cell_own (by simp) _ _ _).1 | exact (cell_own (by simp) _ _ _).2); have k_p5_2 := keep hb (a := ⟨p5, 2, none⟩) (v := .complex .f64 a0 b0) (by first | assumption | go_keep | exact (cell_own (by simp) _ _ _).1 | exact (cell_own (by simp) _ _ _).2); have k_wu_0 := keep hb (a := ⟨wu.heap.size, 0, none⟩) (v := .float .f64 x1) (by first | assumption | go_keep | exact (cell_own (by simp) _ _ _).1 | exact (cell_own (by simp) _ _ _).2); have k_wu_1 := keep hb (a := ⟨wu.heap.size, 1, none⟩) (v := .float .f64 y1) (by first | assumption | go_keep | exact (cell_own (by simp) _ _ _).1 | exact (cell_own (by simp) _ _ _).2); have B := hide (bl_trans (a := w) (by repeat (first | exact unhide B | exact bl_refl _ | apply bl_drew | apply bl_drewN | apply bl_alloc | refine bl_set ?_ (by simp <;> omega))) hb); clear hb; by_cases hE : frErr X0 Y0 q0 = 0) | (go_at_call 35; refine (lcalm_k _ (by assumption) _).mono ?_; rintro e w1 ⟨rfl, hw⟩; rw [hw]; clear hw w1))
    · replace hE := fr_ok hE
      go_wp2_with (first | (go_at_call 15; have z := tO; clear z; refine (gMove_any _ _ _ _ _ _ _ _ _).mono ?_; rintro e ws ⟨tx, ty, r, i, hS, tS, rfl, hb⟩; obtain ⟨D1, D2, u1, u2, v1, v2, v3, v4, v5, v6, v7, v8, v9⟩ := twice_all os2 os3 ox1 oy1 cw ct cx cy hC hE.2.2 k1 k2 k3 k4 k5 k6 hM hN hO tM tN tO; have qD1 := fun w => run_float_arith (P := Try.prog) w .mul 24 .f64 4611686018427387904 mx D1 u1; have qD2 := fun w => run_float_arith (P := Try.prog) w .mul 24 .f64 4611686018427387904 my D2 u2; have st1 := still_two hE (calm_num ct).1 hS; obtain ⟨st1, st2⟩ := st1; clear u1 u2; have k_p4_0 := keep hb (a := ⟨p4, 0, none⟩) (v := .float .f64 0) (by first | assumption | go_keep | exact (cell_own (by simp) _ _ _).1 | exact (cell_own (by simp) _ _ _).2); have k_p4_1 := keep hb (a := ⟨p4, 1, none⟩) (v := .float .f64 0) (by first | assumption | go_keep | exact (cell_own (by simp) _ _ _).1 | exact (cell_own (by simp) _ _ _).2); have k_p4_2 := keep hb (a := ⟨p4, 2, none⟩) (v := .complex .f64 a0 b0) (by first | assumption | go_keep | exact (cell_own (by simp) _ _ _).1 | exact (cell_own (by simp) _ _ _).2); have k_p5_0 := keep hb (a := ⟨p5, 0, none⟩) (v := .float .f64 X0) (by first | assumption | go_keep | exact (cell_own (by simp) _ _ _).1 | exact (cell_own (by simp) _ _ _).2); have k_p5_1 := keep hb (a := ⟨p5, 1, none⟩) (v := .float .f64 Y0) (by first | assumption | go_keep | exact (cell_own (by simp) _ _ _).1 | exact (cell_own (by simp) _ _ _).2); have k_p5_2 := keep hb (a := ⟨p5, 2, none⟩) (v := .complex .f64 a0 b0) (by first | assumption | go_keep | exact (cell_own (by simp) _ _ _).1 | exact (cell_own (by simp) _ _ _).2); have k_wu_0 := keep hb (a := ⟨wu.heap.size, 0, none⟩) (v := .float .f64 x1) (by first | assumption | go_keep | exact (cell_own (by simp) _ _ _).1 | exact (cell_own (by simp) _ _ _).2); have k_wu_1 := keep hb (a := ⟨wu.heap.size, 1, none⟩) (v := .float .f64 y1) (by first | assumption | go_keep | exact (cell_own (by simp) _ _ _).1 | exact (cell_own (by simp) _ _ _).2); have k_wm_0 := keep hb (a := ⟨wm.heap.size, 0, none⟩) (v := .float .f64 mx) (by first | assumption | go_keep | exact (cell_own (by simp) _ _ _).1 | exact (cell_own (by simp) _ _ _).2); have k_wm_1 := keep hb (a := ⟨wm.heap.size, 1, none⟩) (v := .float .f64 my) (by first | assumption | go_keep | exact (cell_own (by simp) _ _ _).1 | exact (cell_own (by simp) _ _ _).2); have k_wm_2 := keep hb (a := ⟨wm.heap.size, 2, none⟩) (v := .complex .f64 q1 q2) (by first | assumption | go_keep | exact (cell_own (by simp) _ _ _).1 | exact (cell_own (by simp) _ _ _).2); have k_wn_0 := keep hb (a := ⟨wn.heap.size, 0, none⟩) (v := .float .f64 nx) (by first | assumption | go_keep | exact (cell_own (by simp) _ _ _).1 | exact (cell_own (by simp) _ _ _).2); have k_wn_1 := keep hb (a := ⟨wn.heap.size, 1, none⟩) (v := .float .f64 ny) (by first | assumption | go_keep | exact (cell_own (by simp) _ _ _).1 | exact (cell_own (by simp) _ _ _).2); have k_wn_2 := keep hb (a := ⟨wn.heap.size, 2, none⟩) (v := .complex .f64 q3 q4) (by first | assumption | go_keep | exact (cell_own (by simp) _ _ _).1 | exact (cell_own (by simp) _ _ _).2); have k_wo_0 := keep hb (a := ⟨wo.heap.size, 0, none⟩) (v := .float .f64 ox) (by first | assumption | go_keep | exact (cell_own (by simp) _ _ _).1 | exact (cell_own (by simp) _ _ _).2); have k_wo_1 := keep hb (a := ⟨wo.heap.size, 1, none⟩) (v := .float .f64 oy) (by first | assumption | go_keep | exact (cell_own (by simp) _ _ _).1 | exact (cell_own (by simp) _ _ _).2); have k_wo_2 := keep hb (a := ⟨wo.heap.size, 2, none⟩) (v := .complex .f64 q5 q6) (by first | assumption | go_keep | exact (cell_own (by simp) _ _ _).1 | exact (cell_own (by simp) _ _ _).2); have B := hide (bl_trans (a := w) (by repeat (first | exact unhide B | exact bl_refl _ | apply bl_drew | apply bl_drewN | apply bl_alloc | refine bl_set ?_ (by simp <;> omega))) hb); clear hb) | (go_at_call 15; have z := tN; clear z; refine (gMove_any _ _ _ _ _ _ _ _ _).mono ?_; rintro e wo ⟨ox, oy, q5, q6, hO, tO, rfl, hb⟩; have k_p4_0 := keep hb (a := ⟨p4, 0, none⟩) (v := .float .f64 0) (by first | assumption | go_keep | exact (cell_own (by simp) _ _ _).1 | exact (cell_own (by simp) _ _ _).2); have k_p4_1 := keep hb (a := ⟨p4, 1, none⟩) (v := .float .f64 0) (by first | assumption | go_keep | exact (cell_own (by simp) _ _ _).1 | exact (cell_own (by simp) _ _ _).2); have k_p4_2 := keep hb (a := ⟨p4, 2, none⟩) (v := .complex .f64 a0 b0) (by first | assumption | go_keep | exact (cell_own (by simp) _ _ _).1 | exact (cell_own (by simp) _ _ _).2); have k_p5_0 := keep hb (a := ⟨p5, 0, none⟩) (v := .float .f64 X0) (by first | assumption | go_keep | exact (cell_own (by simp) _ _ _).1 | exact (cell_own (by simp) _ _ _).2); have k_p5_1 := keep hb (a := ⟨p5, 1, none⟩) (v := .float .f64 Y0) (by first | assumption | go_keep | exact (cell_own (by simp) _ _ _).1 | exact (cell_own (by simp) _ _ _).2); have k_p5_2 := keep hb (a := ⟨p5, 2, none⟩) (v := .complex .f64 a0 b0) (by first | assumption | go_keep | exact (cell_own (by simp) _ _ _).1 | exact (cell_own (by simp) _ _ _).2); have k_wu_0 := keep hb (a := ⟨wu.heap.size, 0, none⟩) (v := .float .f64 x1) (by first | assumption | go_keep | exact (cell_own (by simp) _ _ _).1 | exact (cell_own (by simp) _ _ _).2); have k_wu_1 := keep hb (a := ⟨wu.heap.size, 1, none⟩) (v := .float .f64 y1) (by first | assumption | go_keep | exact (cell_own (by simp) _ _ _).1 | exact (cell_own (by simp) _ _ _).2); have k_wm_0 := keep hb (a := ⟨wm.heap.size, 0, none⟩) (v := .float .f64 mx) (by first | assumption | go_keep | exact (cell_own (by simp) _ _ _).1 | exact (cell_own (by simp) _ _ _).2); have k_wm_1 := keep hb (a := ⟨wm.heap.size, 1, none⟩) (v := .float .f64 my) (by first | assumption | go_keep | exact (cell_own (by simp) _ _ _).1 | exact (cell_own (by simp) _ _ _).2); have k_wm_2 := keep hb (a := ⟨wm.heap.size, 2, none⟩) (v := .complex .f64 q1 q2) (by first | assumption | go_keep | exact (cell_own (by simp) _ _ _).1 | exact (cell_own (by simp) _ _ _).2); have k_wn_0 := keep hb (a := ⟨wn.heap.size, 0, none⟩) (v := .float .f64 nx) (by first | assumption | go_keep | exact (cell_own (by simp) _ _ _).1 | exact (cell_own (by simp) _ _ _).2); have k_wn_1 := keep hb (a := ⟨wn.heap.size, 1, none⟩) (v := .float .f64 ny) (by first | assumption | go_keep | exact (cell_own (by simp) _ _ _).1 | exact (cell_own (by simp) _ _ _).2); have k_wn_2 := keep hb (a := ⟨wn.heap.size, 2, none⟩) (v := .complex .f64 q3 q4) (by first | assumption | go_keep | exact (cell_own (by simp) _ _ _).1 | exact (cell_own (by simp) _ _ _).2); have B := hide (bl_trans (a := w) (by repeat (first | exact unhide B | exact bl_refl _ | apply bl_drew | apply bl_drewN | apply bl_alloc | refine bl_set ?_ (by simp <;> omega))) hb); clear hb) | (go_at_call 15; have z := tM; clear z; refine (gMove_any _ _ _ _ _ _ _ _ _).mono ?_; rintro e wn ⟨nx, ny, q3, q4, hN, tN, rfl, hb⟩; have k_p4_0 := keep hb (a := ⟨p4, 0, none⟩) (v := .float .f64 0) (by first | assumption | go_keep | exact (cell_own (by simp) _ _ _).1 | exact (cell_own (by simp) _ _ _).2); have k_p4_1 := keep hb (a := ⟨p4, 1, none⟩) (v := .float .f64 0) (by first | assumption | go_keep | exact (cell_own (by simp) _ _ _).1 | exact (cell_own (by simp) _ _ _).2); have k_p4_2 := keep hb (a := ⟨p4, 2, none⟩) (v := .complex .f64 a0 b0) (by first | assumption | go_keep | exact (cell_own (by simp) _ _ _).1 | exact (cell_own (by simp) _ _ _).2); have k_p5_0 := keep hb (a := ⟨p5, 0, none⟩) (v := .float .f64 X0) (by first | assumption | go_keep | exact (cell_own (by simp) _ _ _).1 | exact (cell_own (by simp) _ _ _).2); have k_p5_1 := keep hb (a := ⟨p5, 1, none⟩) (v := .float .f64 Y0) (by first | assumption | go_keep | exact (cell_own (by simp) _ _ _).1 | exact (cell_own (by simp) _ _ _).2); have k_p5_2 := keep hb (a := ⟨p5, 2, none⟩) (v := .complex .f64 a0 b0) (by first | assumption | go_keep | exact (cell_own (by simp) _ _ _).1 | exact (cell_own (by simp) _ _ _).2); have k_wu_0 := keep hb (a := ⟨wu.heap.size, 0, none⟩) (v := .float .f64 x1) (by first | assumption | go_keep | exact (cell_own (by simp) _ _ _).1 | exact (cell_own (by simp) _ _ _).2); have k_wu_1 := keep hb (a := ⟨wu.heap.size, 1, none⟩) (v := .float .f64 y1) (by first | assumption | go_keep | exact (cell_own (by simp) _ _ _).1 | exact (cell_own (by simp) _ _ _).2); have k_wm_0 := keep hb (a := ⟨wm.heap.size, 0, none⟩) (v := .float .f64 mx) (by first | assumption | go_keep | exact (cell_own (by simp) _ _ _).1 | exact (cell_own (by simp) _ _ _).2); have k_wm_1 := keep hb (a := ⟨wm.heap.size, 1, none⟩) (v := .float .f64 my) (by first | assumption | go_keep | exact (cell_own (by simp) _ _ _).1 | exact (cell_own (by simp) _ _ _).2); have k_wm_2 := keep hb (a := ⟨wm.heap.size, 2, none⟩) (v := .complex .f64 q1 q2) (by first | assumption | go_keep | exact (cell_own (by simp) _ _ _).1 | exact (cell_own (by simp) _ _ _).2); have B := hide (bl_trans (a := w) (by repeat (first | exact unhide B | exact bl_refl _ | apply bl_drew | apply bl_drewN | apply bl_alloc | refine bl_set ?_ (by simp <;> omega))) hb); clear hb) | (go_at_call 15; refine (gMove_any _ _ _ _ _ _ _ _ _).mono ?_; rintro e wm ⟨mx, my, q1, q2, hM, tM, rfl, hb⟩; have k_p4_0 := keep hb (a := ⟨p4, 0, none⟩) (v := .float .f64 0) (by first | assumption | go_keep | exact (cell_own (by simp) _ _ _).1 | exact (cell_own (by simp) _ _ _).2); have k_p4_1 := keep hb (a := ⟨p4, 1, none⟩) (v := .float .f64 0) (by first | assumption | go_keep | exact (cell_own (by simp) _ _ _).1 | exact (cell_own (by simp) _ _ _).2); have k_p4_2 := keep hb (a := ⟨p4, 2, none⟩) (v := .complex .f64 a0 b0) (by first | assumption | go_keep | exact (cell_own (by simp) _ _ _).1 | exact (cell_own (by simp) _ _ _).2); have k_p5_0 := keep hb (a := ⟨p5, 0, none⟩) (v := .float .f64 X0) (by first | assumption | go_keep | exact (cell_own (by simp) _ _ _).1 | exact (cell_own (by simp) _ _ _).2); have k_p5_1 := keep hb (a := ⟨p5, 1, none⟩) (v := .float .f64 Y0) (by first | assumption | go_keep | exact (cell_own (by simp) _ _ _).1 | exact (cell_own (by simp) _ _ _).2); have k_p5_2 := keep hb (a := ⟨p5, 2, none⟩) (v := .complex .f64 a0 b0) (by first | assumption | go_keep | exact (cell_own (by simp) _ _ _).1 | exact (cell_own (by simp) _ _ _).2); have k_wu_0 := keep hb (a := ⟨wu.heap.size, 0, none⟩) (v := .float .f64 x1) (by first | assumption | go_keep | exact (cell_own (by simp) _ _ _).1 | exact (cell_own (by simp) _ _ _).2); have k_wu_1 := keep hb (a := ⟨wu.heap.size, 1, none⟩) (v := .float .f64 y1) (by first | assumption | go_keep | exact (cell_own (by simp) _ _ _).1 | exact (cell_own (by simp) _ _ _).2); have B := hide (bl_trans (a := w) (by repeat (first | exact unhide B | exact bl_refl _ | apply bl_drew | apply bl_drewN | apply bl_alloc | refine bl_set ?_ (by simp <;> omega))) hb); clear hb) | (go_at_call 38; refine (tCheck_any _ _ _).mono ?_; rintro e w1 ⟨q9, hQ, rfl, hb⟩; rw [v9 _ hQ]; have k_p4_0 := keep hb (a := ⟨p4, 0, none⟩) (v := .float .f64 0) (by first | assumption | go_keep | exact (cell_own (by simp) _ _ _).1 | exact (cell_own (by simp) _ _ _).2); have k_p4_1 := keep hb (a := ⟨p4, 1, none⟩) (v := .float .f64 0) (by first | assumption | go_keep | exact (cell_own (by simp) _ _ _).1 | exact (cell_own (by simp) _ _ _).2); have k_p4_2 := keep hb (a := ⟨p4, 2, none⟩) (v := .complex .f64 a0 b0) (by first | assumption | go_keep | exact (cell_own (by simp) _ _ _).1 | exact (cell_own (by simp) _ _ _).2); have k_p5_0 := keep hb (a := ⟨p5, 0, none⟩) (v := .float .f64 X0) (by first | assumption | go_keep | exact (cell_own (by simp) _ _ _).1 | exact (cell_own (by simp) _ _ _).2); have k_p5_1 := keep hb (a := ⟨p5, 1, none⟩) (v := .float .f64 Y0) (by first | assumption | go_keep | exact (cell_own (by simp) _ _ _).1 | exact (cell_own (by simp) _ _ _).2); have k_p5_2 := keep hb (a := ⟨p5, 2, none⟩) (v := .complex .f64 a0 b0) (by first | assumption | go_keep | exact (cell_own (by simp) _ _ _).1 | exact (cell_own (by simp) _ _ _).2); have k_wm_0 := keep hb (a := ⟨wm.heap.size, 0, none⟩) (v := .float .f64 mx) (by first | assumption | go_keep | exact (cell_own (by simp) _ _ _).1 | exact (cell_own (by simp) _ _ _).2); have k_wm_1 := keep hb (a := ⟨wm.heap.size, 1, none⟩) (v := .float .f64 my) (by first | assumption | go_keep | exact (cell_own (by simp) _ _ _).1 | exact (cell_own (by simp) _ _ _).2); have k_wm_2 := keep hb (a := ⟨wm.heap.size, 2, none⟩) (v := .complex .f64 q1 q2) (by first | assumption | go_keep | exact (cell_own (by simp) _ _ _).1 | exact (cell_own (by simp) _ _ _).2); have k_ws_0 := keep hb (a := ⟨ws.heap.size, 0, none⟩) (v := .float .f64 tx) (by first | assumption | go_keep | exact (cell_own (by simp) _ _ _).1 | exact (cell_own (by simp) _ _ _).2); have k_ws_1 := keep hb (a := ⟨ws.heap.size, 1, none⟩) (v := .float .f64 ty) (by first | assumption | go_keep | exact (cell_own (by simp) _ _ _).1 | exact (cell_own (by simp) _ _ _).2); have k_ws_2 := keep hb (a := ⟨ws.heap.size, 2, none⟩) (v := .complex .f64 r i) (by first | assumption | go_keep | exact (cell_own (by simp) _ _ _).1 | exact (cell_own (by simp) _ _ _).2); have B := hide (bl_trans (a := w) (by repeat (first | exact unhide B | exact bl_refl _ | apply bl_drew | apply bl_drewN | apply bl_alloc | refine bl_set ?_ (by simp <;> omega))) hb); clear hb))
      all_goals (go_ret; exact ⟨rfl, (by repeat (first | exact unhide B | exact bl_refl _ | apply bl_drew | apply bl_drewN | apply bl_alloc | refine bl_set ?_ (by simp <;> omega)))⟩)
    · go_wp2
      all_goals (go_ret; exact ⟨rfl, (by repeat (first | exact unhide B | exact bl_refl _ | apply bl_drew | apply bl_drewN | apply bl_alloc | refine bl_set ?_ (by simp <;> omega)))⟩)

set_option maxRecDepth 100000 in
theorem lifted (os : Os) (started : os.Started) (H : Type) (enc : TypeId × Value → H) :
    ReturnsInHanded {} Try.checked os 8 .any (Rows.frameTwiceSpec.pre6 enc Try.prog Try.f8 Rows.frameTwiceRow.domain false) (Rows.frameTwiceSpec.post enc Try.prog Try.f8 false true false false) := by
  refine returnsInHanded_of_change (C := Try.checked) own started (by kernel_rfl) Try.func8
    (ChangeSpec.witness6 (enc := enc) (C := Try.checked) false ⟨#[], #[.agg #[.int .u64 0, .int .u64 0, .int .u64 0, .int .u64 0], .agg #[.int .u64 0, .int .u64 0], .int .u64 0, .int .u64 0], []⟩ 8 (by kernel_rfl) (by kernel_rfl) (by kernel_rfl) (by kernel_rfl)) ?_
  intro W base args ds gs before hval0 hW hcnd _
  have hval : ∀ (j : Nat) t v, Try.f8.params[j]? = some t → args[j]? = some v → Value.okWide Try.prog W .any base t v := hval0
  have hW' := hW
  obtain ⟨p, q, hA0, hV, rfl, hfz, hnd⟩ := hW
  have hA : DataW.TrodAll enc Try.prog W 0 (fun _ => true) true Try.f8.params.toList args.toList ds p := hA0
  rw [Try.params8] at hA hval
  obtain ⟨v0, vs0, d0, ds0, p0, q0, hargs, rfl, rfl, h0, r0⟩ := trodAll_cons hA
  obtain ⟨v1, vs1, d1, ds1, p1, q1, rfl, rfl, rfl, h1, r1⟩ := trodAll_cons r0
  obtain ⟨v2, vs2, d2, ds2, p2, q2, rfl, rfl, rfl, h2, r2⟩ := trodAll_cons r1
  obtain ⟨v3, vs3, d3, ds3, p3, q3, rfl, rfl, rfl, h3, r3⟩ := trodAll_cons r2
  obtain ⟨rfl, rfl, rfl⟩ := trodAll_nil r3
  obtain rfl : args = #[v0, v1, v2, v3] := by cases args; simp_all
  obtain ⟨rfl, rfl⟩ := trodVars_none hV
  obtain ⟨_, _, _, _, _, _, _, _, _, rfl, rfl, rfl, hz00, hz01, hz02, hz03⟩ := open_agg4 Try.underlying41 (by kernel_rfl) cellsQ (hval 0 41 v0 rfl rfl) h0
  obtain ⟨X0, e0, rfl, wX0⟩ := trod_in Try.underlying39 hz00
  simp at e0
  subst e0
  obtain ⟨X0, rfl⟩ := nat_u64 wX0
  obtain ⟨Y0, e0, rfl, wY0⟩ := trod_in Try.underlying39 hz01
  simp at e0
  subst e0
  obtain ⟨Y0, rfl⟩ := nat_u64 wY0
  obtain ⟨a0, e0, rfl, wa0⟩ := trod_in Try.underlying39 hz02
  simp at e0
  subst e0
  obtain ⟨a0, rfl⟩ := nat_u64 wa0
  obtain ⟨b0, e0, rfl, wb0⟩ := trod_in Try.underlying39 hz03
  simp at e0
  subst e0
  obtain ⟨b0, rfl⟩ := nat_u64 wb0
  obtain ⟨c1, k1, z1, u1, m1, rfl, rfl, rfl, hz1, hu1⟩ := open_agg2 Try.underlying43 (by kernel_rfl) cellsP (hval 1 43 v1 rfl rfl) h1
  obtain ⟨x1, e0, rfl, wx1⟩ := trod_in Try.underlying39 hz1
  obtain ⟨y1, e1, rfl, wy1⟩ := trod_in Try.underlying39 hu1
  simp at e0 e1
  subst e0 e1
  obtain ⟨x1, rfl⟩ := nat_u64 wx1
  obtain ⟨y1, rfl⟩ := nat_u64 wy1
  obtain ⟨s2, rfl, rfl, rfl, ws2⟩ := open_int Try.underlying39 (hval 2 39 v2 rfl rfl) h2
  obtain ⟨s2, rfl⟩ := nat_u64 ws2
  obtain ⟨s3, rfl, rfl, rfl, ws3⟩ := open_int Try.underlying39 (hval 3 39 v3 rfl rfl) h3
  obtain ⟨s3, rfl⟩ := nat_u64 ws3
  clear hA0 hval0
  simp only [List.append_nil] at hW'
  refine (walk X0 Y0 a0 b0 x1 y1 s2 s3 (wf_u64 wX0) (wf_u64 wY0) (wf_u64 wa0) (wf_u64 wb0) (wf_u64 wx1) (wf_u64 wy1) (wf_u64 ws2) (wf_u64 ws3) W).mono fun e W' ⟨he, hg0⟩ => ?_
  have hg := hg0.grown
  subst he
  exact ⟨_, rfl, post_of_same (pa := []) (pv := []) hW' (fun _ _ _ => (trodAll_cons_mk (shut_bool Try.underlying4 _) trodAll_mk0)) (fun sp _ => (trodAll_cons_mk (shut_agg4 (y0 := (.lit (.int .u64 X0), [])) (y1 := (.lit (.int .u64 Y0), [])) (y2 := (.lit (.int .u64 a0), [])) (y3 := (.lit (.int .u64 b0), [])) Try.underlying41 (by kernel_rfl) cellsQ ⟨1, by simp [DataW.trod, Try.underlying39, wX0]⟩ ⟨1, by simp [DataW.trod, Try.underlying39, wY0]⟩ ⟨1, by simp [DataW.trod, Try.underlying39, wa0]⟩ ⟨1, by simp [DataW.trod, Try.underlying39, wb0]⟩) (trodAll_cons_mk (shut_agg2 (y0 := (.lit (.int .u64 x1), [])) (y1 := (.lit (.int .u64 y1), [])) Try.underlying43 (by kernel_rfl) cellsP ⟨1, by simp [DataW.trod, Try.underlying39, wx1]⟩ ⟨1, by simp [DataW.trod, Try.underlying39, wy1]⟩) (trodAll_cons_mk (shut_int Try.underlying39 ws2) (trodAll_cons_mk (shut_int Try.underlying39 ws3) trodAll_mk0))))) (fun _ _ => rfl) rfl
    (hg.frame _) hg.2.1 (ok_one (by kernel_rfl) rfl (okWide_bool_mk Try.underlying4 _))⟩

theorem over : Rows.frameTwiceRow.holds Try.pinned (OpenSpec.ofChange Rows.frameTwiceSpec) :=
  OpenClaim.holds_of_wide 8 Try.f8 rfl rfl rfl rfl rfl rfl rfl ⟨rfl, rfl, rfl, rfl, rfl⟩ rfl rfl rfl rfl rfl (by kernel_rfl) Try.func8 (by kernel_rfl)
    (of_decide_eq_true (by kernel_rfl)) (by unfold Func.isWrapper; first | (rw [if_pos (by decide +kernel)]; kernel_rfl) | (rw [if_neg (by decide +kernel)]; exact ⟨rfl, rfl⟩))
    (fun os started H enc _ => lifted os started H enc)

theorem proved : Rows.FrameTwiceSaid :=
  over
#print axioms proved
end Go.Proofs.Ytoljkokcgmigeaa.frameTwice
