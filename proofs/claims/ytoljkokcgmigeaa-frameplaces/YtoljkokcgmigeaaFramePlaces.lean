/-
  FramePlaces: of any frame and place: whether it may be, where the place lies and back, whether frames are the same: the chapter's, bit by bit (what is no number as no number); for all bits, no condition.
-/
import Derived.Test.YtoljkokcgmigeaaRows
import Derived.Test.YtoljkokcgmigeaaFmore
import Derived.WalkKit
import Derived.ProofKit
import Derived.OpenShut
import Derived.WalkLawsBesides
import Derived.WalkSpells
import Derived.Lib.SmallJoins
import Derived.Laws.Cover2
import Derived.Laws.Cover3
import Derived.Deep.RegionHeld3
namespace Go.Proofs.Ytoljkokcgmigeaa.framePlaces
open Go.ChangeShapes Go.WideShapes Go.ChangeAt Go.RowKit Go.Joins
set_option linter.unusedVariables false
set_option linter.unusedSimpArgs false

theorem own : ownKnob Try.prog.godebug = none := by kernel_rfl
theorem cellsP : Try.prog.cellsOf 43 = 2 := by kernel_rfl
theorem cellsQ : Try.prog.cellsOf 41 = 4 := by kernel_rfl
theorem nat_u64 {n : Int} (h : (Lit.int .u64 n).wf = true) : ∃ x : Nat, n = (x : Int) := by
  simp only [Lit.wf, Bool.and_eq_true, decide_eq_true_eq] at h
  have e1 : IntKind.u64.min = 0 := by decide +kernel
  rw [e1] at h
  exact ⟨n.toNat, by omega⟩
theorem wf_u64 {x : Nat} (h : (Lit.int .u64 (x : Int)).wf = true) : okK .f64 x := by
  rw [okK64]
  simp only [Lit.wf, Bool.and_eq_true, decide_eq_true_eq] at h
  have e1 : IntKind.u64.max = 18446744073709551615 := by decide +kernel
  rw [e1] at h
  omega
theorem trod_in {H : Type} {enc : TypeId × Value → H} {P : Program} {w : World} {base fuel : Nat} {spare : Nat → Bool} {held : Bool} {t : TypeId} {cs : List Value} {x : DataW H × List MemPlace} {k : IntKind} (ht : P.underlying t = some (.int k)) (h : DataW.trod enc P w base spare held fuel t cs = some x) : ∃ n, cs = [.int k n] ∧ x = (.lit (.int k n), []) ∧ (Lit.int k n).wf = true := by
  cases fuel with
  | zero => simp [DataW.trod] at h
  | succ n =>
    unfold DataW.trod at h
    rw [ht] at h
    split at h <;> simp_all
theorem wf_f64 {x : Nat} (h : (Lit.float .f64 x).wf = true) : okK .f64 x := by
  rw [okK64]; simpa [Lit.wf] using h
theorem trod_fl {H : Type} {enc : TypeId × Value → H} {P : Program} {w : World} {base fuel : Nat} {spare : Nat → Bool} {held : Bool} {t : TypeId} {cs : List Value} {x : DataW H × List MemPlace} {k : FloatKind} (ht : P.underlying t = some (.float k)) (h : DataW.trod enc P w base spare held fuel t cs = some x) : ∃ n, cs = [.float k n] ∧ x = (.lit (.float k n), []) ∧ (Lit.float k n).wf = true := by
  cases fuel with
  | zero => simp [DataW.trod] at h
  | succ n =>
    unfold DataW.trod at h
    rw [ht] at h
    split at h <;> simp_all

theorem frErr_eq {X Y x y s t : Nat} (h : DotR x y x y s) (g : DotR x y x y t) : frErr X Y s = frErr X Y t := by
  unfold frErr
  rw [chk_sm (h.sm g)]
theorem gSame_self (X Y x y : Nat) (w : World) : Calls Try.prog 14 #[.agg #[.float .f64 X, .float .f64 Y, .complex .f64 x y], .agg #[.float .f64 X, .float .f64 Y, .complex .f64 x y]] w fun e w' => e = .returned (.bool true) ∧ Bel w w' := by
  have h := gSame_any X Y x y X Y x y w
  simp only [smK_self, Bool.and_self] at h
  exact h

set_option maxRecDepth 100000 in
set_option maxHeartbeats 20000000 in
theorem walk (X0 Y0 a0 b0 : Nat) (X1 Y1 a1 b1 : Nat) (x2 y2 : Nat) (oX0 : okK .f64 X0) (oY0 : okK .f64 Y0) (oa0 : okK .f64 a0) (ob0 : okK .f64 b0) (oX1 : okK .f64 X1) (oY1 : okK .f64 Y1) (oa1 : okK .f64 a1) (ob1 : okK .f64 b1) (ox2 : okK .f64 x2) (oy2 : okK .f64 y2) (w : World) :
    Calls Try.prog 4 #[.agg #[.int .u64 (X0 : Nat), .int .u64 (Y0 : Nat), .int .u64 (a0 : Nat), .int .u64 (b0 : Nat)], .agg #[.int .u64 (X1 : Nat), .int .u64 (Y1 : Nat), .int .u64 (a1 : Nat), .int .u64 (b1 : Nat)], .agg #[.int .u64 (x2 : Nat), .int .u64 (y2 : Nat)]] w fun e w' => e = .returned (.bool true) ∧ Bel w w' := by
  go_enter Try.func4, Try.ntmps4
  go_wp2
  refine wp_region_multiA 9 (fun i v => match i with | 0 => v = .agg #[.int .u64 (X0 : Nat), .int .u64 (Y0 : Nat), .int .u64 (a0 : Nat), .int .u64 (b0 : Nat)] | 1 => v = .agg #[.float .f64 X0, .float .f64 Y0, .complex .f64 a0 b0] | 2 => v = .agg #[.int .u64 (X1 : Nat), .int .u64 (Y1 : Nat), .int .u64 (a1 : Nat), .int .u64 (b1 : Nat)] | 3 => v = .agg #[.float .f64 X1, .float .f64 Y1, .complex .f64 a1 b1] | 4 => v = .agg #[.int .u64 (x2 : Nat), .int .u64 (y2 : Nat)] | 5 => v = .agg #[.float .f64 x2, .float .f64 y2] | 6 => ∃ b, v = .pointer (some ⟨b, 0, none⟩) | 7 => ∃ b, v = .pointer (some ⟨b, 0, none⟩) | 8 => ∃ b, v = .pointer (some ⟨b, 0, none⟩) | _ => False) (fun i => match i with | 6 => some (Obj.cells #[.float .f64 0, .float .f64 0, .complex .f64 0 0] 29) | 7 => some (Obj.cells #[.float .f64 0, .float .f64 0, .complex .f64 0 0] 29) | 8 => some (Obj.cells #[.float .f64 0, .float .f64 0] 26) | _ => none) ?A_wf (by kernel_rfl) (by kernel_rfl) ?hA_wf ?ha_wf ?hq_wf [9, 10, 11] rfl ?ht_wf
  case hA_wf =>
    intro s
    simp only [putL, dstO, Act.put, List.getElem?_toArray, List.getElem?_cons_zero, List.getElem?_cons_succ, Option.bind_some, List.setIfInBounds_toArray, List.set_cons_zero, List.set_cons_succ, if_true]
    exact rfl
  case ha_wf =>
    intro i o ob hi ho hal
    rcases (show i = 0 ∨ i = 1 ∨ i = 2 ∨ i = 3 ∨ i = 4 ∨ i = 5 ∨ i = 6 ∨ i = 7 ∨ i = 8 by omega) with rfl | rfl | rfl | rfl | rfl | rfl | rfl | rfl | rfl
    · cases hal
    · cases hal
    · cases hal
    · cases hal
    · cases hal
    · cases hal
    · cases ho; cases hal; exact ⟨fun v hv => ⟨_, hv.choose_spec.2⟩, ⟨_, _, rfl⟩, fun A W => by go_simp⟩
    · cases ho; cases hal; exact ⟨fun v hv => ⟨_, hv.choose_spec.2⟩, ⟨_, _, rfl⟩, fun A W => by go_simp⟩
    · cases ho; cases hal; exact ⟨fun v hv => ⟨_, hv.choose_spec.2⟩, ⟨_, _, rfl⟩, fun A W => by go_simp⟩
  case hq_wf =>
    intro i o hi ho hal s hs W hb K hK
    obtain ⟨hc, hf⟩ := bcell hb; have hz := hb.size; (try simp at hz)
    rcases (show i = 0 ∨ i = 1 ∨ i = 2 ∨ i = 3 ∨ i = 4 ∨ i = 5 ∨ i = 6 ∨ i = 7 ∨ i = 8 by omega) with rfl | rfl | rfl | rfl | rfl | rfl | rfl | rfl | rfl
    · cases ho
      simp only [Act.put, List.setIfInBounds_toArray, List.set_cons_zero, List.set_cons_succ] at hK
      clear hs
      go_simp
      all_goals (try go_wp2_with (first | (go_at_call 19; refine (lFrame_any _ _ _ _ _).mono ?_; rintro e w1 ⟨rfl, hb1⟩) | (go_at_call 20; refine (lVec_any _ _ _).mono ?_; rintro e w1 ⟨rfl, hb1⟩)))
      all_goals first | exact hK.out _ _ rfl (bl_refl _) | exact hK.out _ _ rfl (by assumption) | exact hK.out _ _ (by assumption) (by assumption)
    · cases ho
      have e0 : s 0 = _ := hs 0 (by decide) (by kernel_rfl)
      simp only [e0] at hK ⊢
      simp only [Act.put, List.setIfInBounds_toArray, List.set_cons_zero, List.set_cons_succ] at hK
      clear hs
      go_simp
      all_goals (try go_wp2_with (first | (go_at_call 19; refine (lFrame_any _ _ _ _ _).mono ?_; rintro e w1 ⟨rfl, hb1⟩) | (go_at_call 20; refine (lVec_any _ _ _).mono ?_; rintro e w1 ⟨rfl, hb1⟩)))
      all_goals first | exact hK.out _ _ rfl (bl_refl _) | exact hK.out _ _ rfl (by assumption) | exact hK.out _ _ (by assumption) (by assumption)
    · cases ho
      simp only [Act.put, List.setIfInBounds_toArray, List.set_cons_zero, List.set_cons_succ] at hK
      clear hs
      go_simp
      all_goals (try go_wp2_with (first | (go_at_call 19; refine (lFrame_any _ _ _ _ _).mono ?_; rintro e w1 ⟨rfl, hb1⟩) | (go_at_call 20; refine (lVec_any _ _ _).mono ?_; rintro e w1 ⟨rfl, hb1⟩)))
      all_goals first | exact hK.out _ _ rfl (bl_refl _) | exact hK.out _ _ rfl (by assumption) | exact hK.out _ _ (by assumption) (by assumption)
    · cases ho
      have e2 : s 2 = _ := hs 2 (by decide) (by kernel_rfl)
      simp only [e2] at hK ⊢
      simp only [Act.put, List.setIfInBounds_toArray, List.set_cons_zero, List.set_cons_succ] at hK
      clear hs
      go_simp
      all_goals (try go_wp2_with (first | (go_at_call 19; refine (lFrame_any _ _ _ _ _).mono ?_; rintro e w1 ⟨rfl, hb1⟩) | (go_at_call 20; refine (lVec_any _ _ _).mono ?_; rintro e w1 ⟨rfl, hb1⟩)))
      all_goals first | exact hK.out _ _ rfl (bl_refl _) | exact hK.out _ _ rfl (by assumption) | exact hK.out _ _ (by assumption) (by assumption)
    · cases ho
      simp only [Act.put, List.setIfInBounds_toArray, List.set_cons_zero, List.set_cons_succ] at hK
      clear hs
      go_simp
      all_goals (try go_wp2_with (first | (go_at_call 19; refine (lFrame_any _ _ _ _ _).mono ?_; rintro e w1 ⟨rfl, hb1⟩) | (go_at_call 20; refine (lVec_any _ _ _).mono ?_; rintro e w1 ⟨rfl, hb1⟩)))
      all_goals first | exact hK.out _ _ rfl (bl_refl _) | exact hK.out _ _ rfl (by assumption) | exact hK.out _ _ (by assumption) (by assumption)
    · cases ho
      have e4 : s 4 = _ := hs 4 (by decide) (by kernel_rfl)
      simp only [e4] at hK ⊢
      simp only [Act.put, List.setIfInBounds_toArray, List.set_cons_zero, List.set_cons_succ] at hK
      clear hs
      go_simp
      all_goals (try go_wp2_with (first | (go_at_call 19; refine (lFrame_any _ _ _ _ _).mono ?_; rintro e w1 ⟨rfl, hb1⟩) | (go_at_call 20; refine (lVec_any _ _ _).mono ?_; rintro e w1 ⟨rfl, hb1⟩)))
      all_goals first | exact hK.out _ _ rfl (bl_refl _) | exact hK.out _ _ rfl (by assumption) | exact hK.out _ _ (by assumption) (by assumption)
    · cases hal
    · cases hal
    · cases hal
  case ht_wf =>
    intro s hs W hb hJ
    have e0 : s 0 = _ := hs 0 (by decide)
    have e1 : s 1 = _ := hs 1 (by decide)
    have e2 : s 2 = _ := hs 2 (by decide)
    have e3 : s 3 = _ := hs 3 (by decide)
    have e4 : s 4 = _ := hs 4 (by decide)
    have e5 : s 5 = _ := hs 5 (by decide)
    obtain ⟨p6, e6, n6, h6⟩ := laid_at hJ 6 (by decide) rfl
    obtain ⟨p7, e7, n7, h7⟩ := laid_at hJ 7 (by decide) rfl
    obtain ⟨p8, e8, n8, h8⟩ := laid_at hJ 8 (by decide) rfl
    have ne67 := laid_ne hJ 6 7 (by decide) (by decide) (by decide) rfl rfl e6 e7
    have ne68 := laid_ne hJ 6 8 (by decide) (by decide) (by decide) rfl rfl e6 e8
    have ne78 := laid_ne hJ 7 8 (by decide) (by decide) (by decide) rfl rfl e7 e8
    have c60 : W.cell? ⟨p6, 0, none⟩ = some (.float .f64 0) := heap_cell h6 rfl
    have c61 : W.cell? ⟨p6, 1, none⟩ = some (.float .f64 0) := heap_cell h6 rfl
    have c62 : W.cell? ⟨p6, 2, none⟩ = some (.complex .f64 0 0) := heap_cell h6 rfl
    have f6 := fun k => heap_frozen (i := k) h6
    have c70 : W.cell? ⟨p7, 0, none⟩ = some (.float .f64 0) := heap_cell h7 rfl
    have c71 : W.cell? ⟨p7, 1, none⟩ = some (.float .f64 0) := heap_cell h7 rfl
    have c72 : W.cell? ⟨p7, 2, none⟩ = some (.complex .f64 0 0) := heap_cell h7 rfl
    have f7 := fun k => heap_frozen (i := k) h7
    have c80 : W.cell? ⟨p8, 0, none⟩ = some (.float .f64 0) := heap_cell h8 rfl
    have c81 : W.cell? ⟨p8, 1, none⟩ = some (.float .f64 0) := heap_cell h8 rfl
    have f8 := fun k => heap_frozen (i := k) h8
    simp only [e0, e1, e2, e3, e4, e5, e6, e7, e8]
    clear hs
    refine tail_step rfl (fun K hK => ?_)
    go_simp
    refine hK.out _ _ ?_
    clear hK K
    refine tail_step rfl (fun K hK => ?_)
    go_simp
    refine hK.out _ _ ?_
    clear hK K
    refine tail_step rfl (fun K hK => ?_)
    go_simp
    refine hK.out _ _ ?_
    clear hK K
    refine tail_end ?_
    have ne76 := ne67.symm
    have ne86 := ne68.symm
    have ne87 := ne78.symm
    (try simp at n6 n7 n8)
    have BW : Bel w W := by refine bl_trans (b := _) ?_ hb; repeat (first | exact bl_refl w | apply bl_alloc | apply bl_drew)
    have BW0 := BW
    obtain ⟨wf0, hN, d60, d61, d62, fr0, bN⟩ := put3_all (p := .float .f64 X0) (q := .float .f64 Y0) (r := .complex .f64 a0 b0) c60 c61 c62
    rw [← hN]
    replace BW := bN w BW (by omega)
    replace c70 := (fr0 _ 0 (.inl ne76)).trans c70
    replace c71 := (fr0 _ 1 (.inl ne76)).trans c71
    replace c72 := (fr0 _ 2 (.inl ne76)).trans c72
    replace c80 := (fr0 _ 0 (.inl ne86)).trans c80
    replace c81 := (fr0 _ 1 (.inl ne86)).trans c81
    clear hN fr0 bN
    obtain ⟨wf1, hN, d70, d71, d72, fr1, bN⟩ := put3_all (p := .float .f64 X1) (q := .float .f64 Y1) (r := .complex .f64 a1 b1) c70 c71 c72
    rw [← hN]
    replace BW := bN w BW (by omega)
    replace d60 := (fr1 _ 0 (.inl ne67)).trans d60
    replace d61 := (fr1 _ 1 (.inl ne67)).trans d61
    replace d62 := (fr1 _ 2 (.inl ne67)).trans d62
    replace c80 := (fr1 _ 0 (.inl ne87)).trans c80
    replace c81 := (fr1 _ 1 (.inl ne87)).trans c81
    clear hN fr1 bN
    obtain ⟨wf, hN, d80, d81, fr2, bN⟩ := put2_all (p := .float .f64 x2) (q := .float .f64 y2) c80 c81
    rw [← hN]
    replace BW := bN w BW (by omega)
    replace d60 := (fr2 _ 0 (.inl ne68)).trans d60
    replace d61 := (fr2 _ 1 (.inl ne68)).trans d61
    replace d62 := (fr2 _ 2 (.inl ne68)).trans d62
    replace d70 := (fr2 _ 0 (.inl ne78)).trans d70
    replace d71 := (fr2 _ 1 (.inl ne78)).trans d71
    replace d72 := (fr2 _ 2 (.inl ne78)).trans d72
    clear hN fr2 bN
    have k_p6_0 : wf.cell? ⟨p6, 0, none⟩ = some (.float .f64 X0) := d60
    have k_p6_1 : wf.cell? ⟨p6, 1, none⟩ = some (.float .f64 Y0) := d61
    have k_p6_2 : wf.cell? ⟨p6, 2, none⟩ = some (.complex .f64 a0 b0) := d62
    clear d60 d61 d62
    have k_p7_0 : wf.cell? ⟨p7, 0, none⟩ = some (.float .f64 X1) := d70
    have k_p7_1 : wf.cell? ⟨p7, 1, none⟩ = some (.float .f64 Y1) := d71
    have k_p7_2 : wf.cell? ⟨p7, 2, none⟩ = some (.complex .f64 a1 b1) := d72
    clear d70 d71 d72
    have k_p8_0 : wf.cell? ⟨p8, 0, none⟩ = some (.float .f64 x2) := d80
    have k_p8_1 : wf.cell? ⟨p8, 1, none⟩ = some (.float .f64 y2) := d81
    clear d80 d81
    have l6 : p6 < wf.heap.size := World.block_lt_of_cell? wf _ k_p6_0
    have l7 : p7 < wf.heap.size := World.block_lt_of_cell? wf _ k_p7_0
    have l8 : p8 < wf.heap.size := World.block_lt_of_cell? wf _ k_p8_0
    have z_p6 := fun k => (BW.2 _).trans ((BW0.2 ⟨p6, k, none⟩).symm.trans (f6 k))
    have z_p7 := fun k => (BW.2 _).trans ((BW0.2 ⟨p7, k, none⟩).symm.trans (f7 k))
    have z_p8 := fun k => (BW.2 _).trans ((BW0.2 ⟨p8, k, none⟩).symm.trans (f8 k))
    have B := hide BW
    clear BW BW0 hJ h6 h7 h8 f6 f7 f8 e0 e1 e2 e3 e4 e5 e6 e7 e8
    go_wp2
    go_region_held3 (fun w1 => w1.cell? ⟨p6, 0, none⟩ = some (.float .f64 X0) ∧ w1.cell? ⟨p6, 1, none⟩ = some (.float .f64 Y0) ∧ w1.cell? ⟨p6, 2, none⟩ = some (.complex .f64 a0 b0) ∧ w1.cell? ⟨p7, 0, none⟩ = some (.float .f64 X1) ∧ w1.cell? ⟨p7, 1, none⟩ = some (.float .f64 Y1) ∧ w1.cell? ⟨p7, 2, none⟩ = some (.complex .f64 a1 b1) ∧ w1.cell? ⟨p8, 0, none⟩ = some (.float .f64 x2) ∧ w1.cell? ⟨p8, 1, none⟩ = some (.float .f64 y2)) (first | ((try go_split_ands); refine ⟨?_, ?_, ?_, ?_, ?_, ?_, ?_, ?_⟩ <;> (first | ((repeat' (first | (with_reducible assumption) | (with_reducible refine up_drew ?_) | (with_reducible refine up_drewN ?_) | (with_reducible refine up_alloc ?_) | (with_reducible refine keep hb ?_) | (with_reducible refine up_set2 ?_ ?_) | omega)); done) | go_keep)))
    (first | (go_at_call 9; refine (gCheck_any _ _ _ _ _).mono ?_; rintro e w1 ⟨q1, hC1, rfl, hb⟩; have B := hide (bl_trans (a := w) (by repeat (first | exact unhide B | exact bl_refl _ | apply bl_drew | apply bl_drewN | apply bl_alloc | refine bl_set ?_ (by simp <;> omega))) hb)) | (go_at_call 21; refine (fCheck_any _ _ _ _ (by assumption) (by assumption) _).mono ?_; rintro e w1 ⟨q2, hC2, rfl, hb⟩; rw [← frErr_eq hC1 hC2]; have B := hide (bl_trans (a := w) (by repeat (first | exact unhide B | exact bl_refl _ | apply bl_drew | apply bl_drewN | apply bl_alloc | refine bl_set ?_ (by simp <;> omega))) hb)) | (go_at_call 14; have z := hMark; clear z; refine (gSame_self _ _ _ _ _).mono ?_; rintro e w1 ⟨rfl, hb⟩; have B := hide (bl_trans (a := w) (by repeat (first | exact unhide B | exact bl_refl _ | apply bl_drew | apply bl_drewN | apply bl_alloc | refine bl_set ?_ (by simp <;> omega))) hb)) | (go_at_call 14; refine (gSame_any _ _ _ _ _ _ _ _ _).mono ?_; rintro e w1 ⟨rfl, hb⟩; have hMark := True.intro; have B := hide (bl_trans (a := w) (by repeat (first | exact unhide B | exact bl_refl _ | apply bl_drew | apply bl_drewN | apply bl_alloc | refine bl_set ?_ (by simp <;> omega))) hb)) | (go_at_call 22; refine (fSame_any _ _ _ _ _ _ _ _ (by assumption) (by assumption) (by assumption) (by assumption) (by assumption) (by assumption) (by assumption) (by assumption) _).mono ?_; rintro e w1 ⟨rfl, hb⟩; have B := hide (bl_trans (a := w) (by repeat (first | exact unhide B | exact bl_refl _ | apply bl_drew | apply bl_drewN | apply bl_alloc | refine bl_set ?_ (by simp <;> omega))) hb)))
    all_goals go_wp2
    all_goals (go_region_held3 (fun w1 => w1.cell? ⟨p6, 0, none⟩ = some (.float .f64 X0) ∧ w1.cell? ⟨p6, 1, none⟩ = some (.float .f64 Y0) ∧ w1.cell? ⟨p6, 2, none⟩ = some (.complex .f64 a0 b0) ∧ w1.cell? ⟨p7, 0, none⟩ = some (.float .f64 X1) ∧ w1.cell? ⟨p7, 1, none⟩ = some (.float .f64 Y1) ∧ w1.cell? ⟨p7, 2, none⟩ = some (.complex .f64 a1 b1) ∧ w1.cell? ⟨p8, 0, none⟩ = some (.float .f64 x2) ∧ w1.cell? ⟨p8, 1, none⟩ = some (.float .f64 y2)) (first | ((try go_split_ands); refine ⟨?_, ?_, ?_, ?_, ?_, ?_, ?_, ?_⟩ <;> (first | ((repeat' (first | (with_reducible assumption) | (with_reducible refine up_drew ?_) | (with_reducible refine up_drewN ?_) | (with_reducible refine up_alloc ?_) | (with_reducible refine keep hb ?_) | (with_reducible refine up_set2 ?_ ?_) | omega)); done) | go_keep)))
    (first | (go_at_call 24; refine (gTo_any _ _ _ _ _ _ _).mono ?_; rintro e w1 ⟨t1, t2, hA1, rfl, hb⟩; have B := hide (bl_trans (a := w) (by repeat (first | exact unhide B | exact bl_refl _ | apply bl_drew | apply bl_drewN | apply bl_alloc | refine bl_set ?_ (by simp <;> omega))) hb)) | (go_at_call 25; refine (rTo_any _ _ _ _ _ _ _).mono ?_; rintro e w1 ⟨t3, t4, hA2, rfl, hb⟩; have B := hide (bl_trans (a := w) (by repeat (first | exact unhide B | exact bl_refl _ | apply bl_drew | apply bl_drewN | apply bl_alloc | refine bl_set ?_ (by simp <;> omega))) hb)) | (go_at_call 26; refine (gOwn_any _ _ _ _ _ _ (by assumption) _).mono ?_; rintro e w1 ⟨c1, c2, hU1, rfl, hb⟩; have B := hide (bl_trans (a := w) (by repeat (first | exact unhide B | exact bl_refl _ | apply bl_drew | apply bl_drewN | apply bl_alloc | refine bl_set ?_ (by simp <;> omega))) hb)) | (go_at_call 27; refine (rOwn_any _ _ _ _ _ _ _).mono ?_; rintro e w1 ⟨c3, c4, hU2, rfl, hb⟩; have B := hide (bl_trans (a := w) (by repeat (first | exact unhide B | exact bl_refl _ | apply bl_drew | apply bl_drewN | apply bl_alloc | refine bl_set ?_ (by simp <;> omega))) hb)) | (go_at_call 23; refine (fSameVec_true _ _ _ _ _ hA1.ok hA2.ok (hA1.sm hA2)).mono ?_; rintro e w1 ⟨rfl, hb⟩; clear hA1 hA2; have B := hide (bl_trans (a := w) (by repeat (first | exact unhide B | exact bl_refl _ | apply bl_drew | apply bl_drewN | apply bl_alloc | refine bl_set ?_ (by simp <;> omega))) hb)) | (go_at_call 23; refine (fSameVec_true _ _ _ _ _ hU1.ok hU2.ok (hU1.sm hU2)).mono ?_; rintro e w1 ⟨rfl, hb⟩; have B := hide (bl_trans (a := w) (by repeat (first | exact unhide B | exact bl_refl _ | apply bl_drew | apply bl_drewN | apply bl_alloc | refine bl_set ?_ (by simp <;> omega))) hb))))
    all_goals go_wp2
    all_goals (go_ret; exact ⟨rfl, (by repeat (first | exact unhide B | exact bl_refl _ | apply bl_drew | apply bl_drewN | apply bl_alloc | refine bl_set ?_ (by simp <;> omega)))⟩)

set_option maxRecDepth 100000 in
theorem lifted (os : Os) (started : os.Started) (H : Type) (enc : TypeId × Value → H) :
    ReturnsInHanded {} Try.checked os 4 .any (Rows.framePlacesSpec.pre6 enc Try.prog Try.f4 Rows.framePlacesRow.domain false) (Rows.framePlacesSpec.post enc Try.prog Try.f4 false true false false) := by
  refine returnsInHanded_of_change (C := Try.checked) own started (by kernel_rfl) Try.func4
    (ChangeSpec.witness6 (enc := enc) (C := Try.checked) false ⟨#[], #[.agg #[.int .u64 0, .int .u64 0, .int .u64 0, .int .u64 0], .agg #[.int .u64 0, .int .u64 0, .int .u64 0, .int .u64 0], .agg #[.int .u64 0, .int .u64 0]], []⟩ 8 (by kernel_rfl) (by kernel_rfl) (by kernel_rfl) (by kernel_rfl)) ?_
  intro W base args ds gs before hval0 hW hcnd _
  have hval : ∀ (j : Nat) t v, Try.f4.params[j]? = some t → args[j]? = some v → Value.okWide Try.prog W .any base t v := hval0
  have hW' := hW
  obtain ⟨p, q, hA0, hV, rfl, hfz, hnd⟩ := hW
  have hA : DataW.TrodAll enc Try.prog W 0 (fun _ => true) true Try.f4.params.toList args.toList ds p := hA0
  rw [Try.params4] at hA hval
  obtain ⟨v0, vs0, d0, ds0, p0, q0, hargs, rfl, rfl, h0, r0⟩ := trodAll_cons hA
  obtain ⟨v1, vs1, d1, ds1, p1, q1, rfl, rfl, rfl, h1, r1⟩ := trodAll_cons r0
  obtain ⟨v2, vs2, d2, ds2, p2, q2, rfl, rfl, rfl, h2, r2⟩ := trodAll_cons r1
  obtain ⟨rfl, rfl, rfl⟩ := trodAll_nil r2
  obtain rfl : args = #[v0, v1, v2] := by cases args; simp_all
  obtain ⟨rfl, rfl⟩ := trodVars_none hV
  obtain ⟨_, _, _, _, _, _, _, _, _, rfl, rfl, rfl, hz00, hz01, hz02, hz03⟩ := open_agg4 Try.underlying41 (by kernel_rfl) cellsQ (hval 0 41 v0 rfl rfl) h0
  obtain ⟨X0, e0, rfl, wX0⟩ := trod_in Try.underlying39 hz00
  simp at e0
  subst e0
  obtain ⟨X0, rfl⟩ := nat_u64 wX0
  obtain ⟨Y0, e0, rfl, wY0⟩ := trod_in Try.underlying39 hz01
  simp at e0
  subst e0
  obtain ⟨Y0, rfl⟩ := nat_u64 wY0
  obtain ⟨a0, e0, rfl, wa0⟩ := trod_in Try.underlying39 hz02
  simp at e0
  subst e0
  obtain ⟨a0, rfl⟩ := nat_u64 wa0
  obtain ⟨b0, e0, rfl, wb0⟩ := trod_in Try.underlying39 hz03
  simp at e0
  subst e0
  obtain ⟨b0, rfl⟩ := nat_u64 wb0
  obtain ⟨_, _, _, _, _, _, _, _, _, rfl, rfl, rfl, hz10, hz11, hz12, hz13⟩ := open_agg4 Try.underlying41 (by kernel_rfl) cellsQ (hval 1 41 v1 rfl rfl) h1
  obtain ⟨X1, e0, rfl, wX1⟩ := trod_in Try.underlying39 hz10
  simp at e0
  subst e0
  obtain ⟨X1, rfl⟩ := nat_u64 wX1
  obtain ⟨Y1, e0, rfl, wY1⟩ := trod_in Try.underlying39 hz11
  simp at e0
  subst e0
  obtain ⟨Y1, rfl⟩ := nat_u64 wY1
  obtain ⟨a1, e0, rfl, wa1⟩ := trod_in Try.underlying39 hz12
  simp at e0
  subst e0
  obtain ⟨a1, rfl⟩ := nat_u64 wa1
  obtain ⟨b1, e0, rfl, wb1⟩ := trod_in Try.underlying39 hz13
  simp at e0
  subst e0
  obtain ⟨b1, rfl⟩ := nat_u64 wb1
  obtain ⟨c2, k2, z2, u2, m2, rfl, rfl, rfl, hz2, hu2⟩ := open_agg2 Try.underlying43 (by kernel_rfl) cellsP (hval 2 43 v2 rfl rfl) h2
  obtain ⟨x2, e0, rfl, wx2⟩ := trod_in Try.underlying39 hz2
  obtain ⟨y2, e1, rfl, wy2⟩ := trod_in Try.underlying39 hu2
  simp at e0 e1
  subst e0 e1
  obtain ⟨x2, rfl⟩ := nat_u64 wx2
  obtain ⟨y2, rfl⟩ := nat_u64 wy2
  clear hA0 hval0
  simp only [List.append_nil] at hW'
  refine (walk X0 Y0 a0 b0 X1 Y1 a1 b1 x2 y2 (wf_u64 wX0) (wf_u64 wY0) (wf_u64 wa0) (wf_u64 wb0) (wf_u64 wX1) (wf_u64 wY1) (wf_u64 wa1) (wf_u64 wb1) (wf_u64 wx2) (wf_u64 wy2) W).mono fun e W' ⟨he, hg0⟩ => ?_
  have hg := hg0.grown
  subst he
  exact ⟨_, rfl, post_of_same (pa := []) (pv := []) hW' (fun _ _ _ => (trodAll_cons_mk (shut_bool Try.underlying4 _) trodAll_mk0)) (fun sp _ => (trodAll_cons_mk (shut_agg4 (y0 := (.lit (.int .u64 X0), [])) (y1 := (.lit (.int .u64 Y0), [])) (y2 := (.lit (.int .u64 a0), [])) (y3 := (.lit (.int .u64 b0), [])) Try.underlying41 (by kernel_rfl) cellsQ ⟨1, by simp [DataW.trod, Try.underlying39, wX0]⟩ ⟨1, by simp [DataW.trod, Try.underlying39, wY0]⟩ ⟨1, by simp [DataW.trod, Try.underlying39, wa0]⟩ ⟨1, by simp [DataW.trod, Try.underlying39, wb0]⟩) (trodAll_cons_mk (shut_agg4 (y0 := (.lit (.int .u64 X1), [])) (y1 := (.lit (.int .u64 Y1), [])) (y2 := (.lit (.int .u64 a1), [])) (y3 := (.lit (.int .u64 b1), [])) Try.underlying41 (by kernel_rfl) cellsQ ⟨1, by simp [DataW.trod, Try.underlying39, wX1]⟩ ⟨1, by simp [DataW.trod, Try.underlying39, wY1]⟩ ⟨1, by simp [DataW.trod, Try.underlying39, wa1]⟩ ⟨1, by simp [DataW.trod, Try.underlying39, wb1]⟩) (trodAll_cons_mk (shut_agg2 (y0 := (.lit (.int .u64 x2), [])) (y1 := (.lit (.int .u64 y2), [])) Try.underlying43 (by kernel_rfl) cellsP ⟨1, by simp [DataW.trod, Try.underlying39, wx2]⟩ ⟨1, by simp [DataW.trod, Try.underlying39, wy2]⟩) trodAll_mk0)))) (fun _ _ => rfl) rfl
    (hg.frame _) hg.2.1 (ok_one (by kernel_rfl) rfl (okWide_bool_mk Try.underlying4 _))⟩

theorem over : Rows.framePlacesRow.holds Try.pinned (OpenSpec.ofChange Rows.framePlacesSpec) :=
  OpenClaim.holds_of_wide 4 Try.f4 rfl rfl rfl rfl rfl rfl rfl ⟨rfl, rfl, rfl, rfl, rfl⟩ rfl rfl rfl rfl rfl (by kernel_rfl) Try.func4 (by kernel_rfl)
    (of_decide_eq_true (by kernel_rfl)) (by unfold Func.isWrapper; first | (rw [if_pos (by decide +kernel)]; kernel_rfl) | (rw [if_neg (by decide +kernel)]; exact ⟨rfl, rfl⟩))
    (fun os started H enc _ => lifted os started H enc)

theorem proved : Rows.FramePlacesSaid :=
  over
#print axioms proved
end Go.Proofs.Ytoljkokcgmigeaa.framePlaces
