/-
  'tumblelaw08.JointChecks' is true of every joint: joint.Check answers as the document says; no condition.
-/
import Derived.Test.YtfjlonnmhioleaaRows
import Derived.Test.YtfjlonnmhioleaaJe
import Derived.WalkKit
import Derived.ProofKit
import Derived.OpenShut
import Derived.WalkLawsBesides
import Derived.WalkSpells
import Derived.Lib.SmallJoins
import Derived.Laws.Cover2
import Derived.Laws.AppendOwn
import Derived.Laws.OwnMore
import Derived.Laws.AppendOwnNone
import Derived.Deep.RegionHeld3
import Derived.Deep.RegionWith
import Derived.Deep.SlicePairs
import Derived.Deep.Strs
import Derived.SizedLaws
import Derived.Below
import Derived.ChangeArms
import Derived.OpenShut
import Derived.Laws.IdiomArrays
import Derived.Laws.StructEq
namespace Go.Proofs.Ytfjlonnmhioleaa.jointChecks
open Go.ChangeShapes Go.WideShapes Go.ChangeAt Go.RowKit Go.Joins
set_option linter.unusedVariables false
set_option linter.unusedSimpArgs false

theorem own : ownKnob Try.prog.godebug = none := by kernel_rfl
theorem laidOut : laidOutB Try.prog = true := by kernel_rfl
theorem wf_f64 {x : Nat} (h : (Lit.float .f64 x).wf = true) : okK .f64 x := by
  rw [okK64]; simpa [Lit.wf] using h
section
variable {H : Type} {enc : TypeId × Value → H} {P : Program} {w : World} {base fuel : Nat} {spare : Nat → Bool} {held : Bool} {t : TypeId} {cs : List Value} {x : DataW H × List MemPlace}
theorem trod_fl {k : FloatKind} (ht : P.underlying t = some (.float k)) (h : DataW.trod enc P w base spare held fuel t cs = some x) : ∃ y, cs = [.float k y] ∧ (Lit.float k y).wf = true := by
  cases fuel with
  | zero => simp [DataW.trod] at h
  | succ n =>
    unfold DataW.trod at h
    rw [ht] at h
    split at h <;> simp_all
theorem trod_bo (ht : P.underlying t = some .bool) (h : DataW.trod enc P w base spare held fuel t cs = some x) : ∃ y, cs = [.bool y] := by
  cases fuel with
  | zero => simp [DataW.trod] at h
  | succ n =>
    unfold DataW.trod at h
    rw [ht] at h
    split at h <;> simp_all
theorem trod_in {k : IntKind} (ht : P.underlying t = some (.int k)) (h : DataW.trod enc P w base spare held fuel t cs = some x) : ∃ n, cs = [.int k n] ∧ (Lit.int k n).wf = true := by
  cases fuel with
  | zero => simp [DataW.trod] at h
  | succ n =>
    unfold DataW.trod at h
    rw [ht] at h
    split at h <;> simp_all
end
theorem cellsF : Try.prog.cellsOf 25 = 1 := by kernel_rfl
theorem cellsV : Try.prog.cellsOf 27 = 2 := by kernel_rfl
theorem cellsI : Try.prog.cellsOf 3 = 1 := by kernel_rfl
theorem cellsB : Try.prog.cellsOf 4 = 1 := by kernel_rfl
theorem cellsJ : Try.prog.cellsOf 30 = 22 := by kernel_rfl
theorem cellsH : Try.prog.cellsOf 24 = 2 := by kernel_rfl
theorem cellsA : Try.prog.cellsOf 28 = 3 := by kernel_rfl
theorem cells8 : Try.prog.cellsOf 5 = 1 := by kernel_rfl
theorem cells32 : Try.prog.cellsOf 22 = 1 := by kernel_rfl
theorem list3 {α : Type} {l : List α} (h : l.length = 3) : ∃ c0 c1 c2, l = [c0, c1, c2] := by
  obtain _ | ⟨c0, l⟩ := l
  · simp at h
  obtain _ | ⟨c1, l⟩ := l
  · simp at h
  obtain _ | ⟨c2, l⟩ := l
  · simp at h
  obtain _ | ⟨c, l⟩ := l
  · exact ⟨c0, c1, c2, rfl⟩
  · simp at h
theorem list22 {α : Type} {l : List α} (h : l.length = 22) : ∃ c0 c1 c2 c3 c4 c5 c6 c7 c8 c9 c10 c11 c12 c13 c14 c15 c16 c17 c18 c19 c20 c21, l = [c0, c1, c2, c3, c4, c5, c6, c7, c8, c9, c10, c11, c12, c13, c14, c15, c16, c17, c18, c19, c20, c21] := by
  obtain _ | ⟨c0, l⟩ := l
  · simp at h
  obtain _ | ⟨c1, l⟩ := l
  · simp at h
  obtain _ | ⟨c2, l⟩ := l
  · simp at h
  obtain _ | ⟨c3, l⟩ := l
  · simp at h
  obtain _ | ⟨c4, l⟩ := l
  · simp at h
  obtain _ | ⟨c5, l⟩ := l
  · simp at h
  obtain _ | ⟨c6, l⟩ := l
  · simp at h
  obtain _ | ⟨c7, l⟩ := l
  · simp at h
  obtain _ | ⟨c8, l⟩ := l
  · simp at h
  obtain _ | ⟨c9, l⟩ := l
  · simp at h
  obtain _ | ⟨c10, l⟩ := l
  · simp at h
  obtain _ | ⟨c11, l⟩ := l
  · simp at h
  obtain _ | ⟨c12, l⟩ := l
  · simp at h
  obtain _ | ⟨c13, l⟩ := l
  · simp at h
  obtain _ | ⟨c14, l⟩ := l
  · simp at h
  obtain _ | ⟨c15, l⟩ := l
  · simp at h
  obtain _ | ⟨c16, l⟩ := l
  · simp at h
  obtain _ | ⟨c17, l⟩ := l
  · simp at h
  obtain _ | ⟨c18, l⟩ := l
  · simp at h
  obtain _ | ⟨c19, l⟩ := l
  · simp at h
  obtain _ | ⟨c20, l⟩ := l
  · simp at h
  obtain _ | ⟨c21, l⟩ := l
  · simp at h
  obtain _ | ⟨c, l⟩ := l
  · exact ⟨c0, c1, c2, c3, c4, c5, c6, c7, c8, c9, c10, c11, c12, c13, c14, c15, c16, c17, c18, c19, c20, c21, rfl⟩
  · simp at h
theorem list15 {α : Type} {l : List α} (h : l.length = 15) : ∃ c0 c1 c2 c3 c4 c5 c6 c7 c8 c9 c10 c11 c12 c13 c14, l = [c0, c1, c2, c3, c4, c5, c6, c7, c8, c9, c10, c11, c12, c13, c14] := by
  obtain _ | ⟨c0, l⟩ := l
  · simp at h
  obtain _ | ⟨c1, l⟩ := l
  · simp at h
  obtain _ | ⟨c2, l⟩ := l
  · simp at h
  obtain _ | ⟨c3, l⟩ := l
  · simp at h
  obtain _ | ⟨c4, l⟩ := l
  · simp at h
  obtain _ | ⟨c5, l⟩ := l
  · simp at h
  obtain _ | ⟨c6, l⟩ := l
  · simp at h
  obtain _ | ⟨c7, l⟩ := l
  · simp at h
  obtain _ | ⟨c8, l⟩ := l
  · simp at h
  obtain _ | ⟨c9, l⟩ := l
  · simp at h
  obtain _ | ⟨c10, l⟩ := l
  · simp at h
  obtain _ | ⟨c11, l⟩ := l
  · simp at h
  obtain _ | ⟨c12, l⟩ := l
  · simp at h
  obtain _ | ⟨c13, l⟩ := l
  · simp at h
  obtain _ | ⟨c14, l⟩ := l
  · simp at h
  obtain _ | ⟨c, l⟩ := l
  · exact ⟨c0, c1, c2, c3, c4, c5, c6, c7, c8, c9, c10, c11, c12, c13, c14, rfl⟩
  · simp at h
set_option maxRecDepth 100000 in
set_option maxHeartbeats 2000000 in
theorem open_joint {H : Type} {enc : TypeId × Value → H} {w : World} {base fuel : Nat} {spare : Nat → Bool} {held : Bool} {l : List Value} {x : DataW H × List MemPlace} (hl : l.length = 22) (h : DataW.trod enc Try.prog w base spare held fuel 30 l = some x) :
    ∃ (kq : Int) (sa : Int) (ua : Int) (sb : Int) (ub : Int) (ax : Nat) (ay : Nat) (bx : Nat) (b_y : Nat) (ux : Nat) (uy : Nat) (rs : Nat) (rt : Nat) (mo : Bool) (sp : Nat) (mt : Nat) (li : Bool) (lo : Nat) (hi : Nat) (p0 : Nat) (p1 : Nat) (p2 : Nat), l = [.int .u8 kq, .int .u32 sa, .int .u32 ua, .int .u32 sb, .int .u32 ub, .float .f64 ax, .float .f64 ay, .float .f64 bx, .float .f64 b_y, .float .f64 ux, .float .f64 uy, .float .f64 rs, .float .f64 rt, .bool mo, .float .f64 sp, .float .f64 mt, .bool li, .float .f64 lo, .float .f64 hi, .float .f64 p0, .float .f64 p1, .float .f64 p2] ∧ okK .f64 ax ∧ okK .f64 ay ∧ okK .f64 bx ∧ okK .f64 b_y ∧ okK .f64 ux ∧ okK .f64 uy ∧ okK .f64 rs ∧ okK .f64 rt ∧ okK .f64 sp ∧ okK .f64 mt ∧ okK .f64 lo ∧ okK .f64 hi ∧ okK .f64 p0 ∧ okK .f64 p1 ∧ okK .f64 p2 := by
  obtain ⟨c0, c1, c2, c3, c4, c5, c6, c7, c8, c9, c10, c11, c12, c13, c14, c15, c16, c17, c18, c19, c20, c21, rfl⟩ := list22 hl
  obtain ⟨xs, n', _, _, _, hlx, hfd⟩ := DataW.trod_struct Try.underlying30 h
  obtain ⟨y0, y1, y2, y3, y4, y5, y6, y7, y8, y9, y10, y11, y12, y13, y14, rfl⟩ := list15 hlx
  have g0 := hfd 0 _ rfl
  simp [cells8] at g0
  obtain ⟨kq, e0, _⟩ := trod_in Try.underlying5 g0
  have g1 := hfd 1 _ rfl
  simp [cellsH] at g1
  obtain ⟨_, _, _, _, _, s1, s2⟩ := trod_struct2 Try.underlying24 g1
  simp [cells32] at s1 s2
  obtain ⟨sa, e1, _⟩ := trod_in Try.underlying22 s1
  obtain ⟨ua, e2, _⟩ := trod_in Try.underlying22 s2
  have g2 := hfd 2 _ rfl
  simp [cellsH] at g2
  obtain ⟨_, _, _, _, _, s3, s4⟩ := trod_struct2 Try.underlying24 g2
  simp [cells32] at s3 s4
  obtain ⟨sb, e3, _⟩ := trod_in Try.underlying22 s3
  obtain ⟨ub, e4, _⟩ := trod_in Try.underlying22 s4
  have g3 := hfd 3 _ rfl
  simp [cellsV] at g3
  obtain ⟨_, _, _, _, _, s5, s6⟩ := trod_struct2 Try.underlying27 g3
  simp [cellsF] at s5 s6
  obtain ⟨ax, e5, w5⟩ := trod_fl Try.underlying25 s5
  obtain ⟨ay, e6, w6⟩ := trod_fl Try.underlying25 s6
  have g4 := hfd 4 _ rfl
  simp [cellsV] at g4
  obtain ⟨_, _, _, _, _, s7, s8⟩ := trod_struct2 Try.underlying27 g4
  simp [cellsF] at s7 s8
  obtain ⟨bx, e7, w7⟩ := trod_fl Try.underlying25 s7
  obtain ⟨b_y, e8, w8⟩ := trod_fl Try.underlying25 s8
  have g5 := hfd 5 _ rfl
  simp [cellsV] at g5
  obtain ⟨_, _, _, _, _, s9, s10⟩ := trod_struct2 Try.underlying27 g5
  simp [cellsF] at s9 s10
  obtain ⟨ux, e9, w9⟩ := trod_fl Try.underlying25 s9
  obtain ⟨uy, e10, w10⟩ := trod_fl Try.underlying25 s10
  have g6 := hfd 6 _ rfl
  simp [cellsF] at g6
  obtain ⟨rs, e11, w11⟩ := trod_fl Try.underlying25 g6
  have g7 := hfd 7 _ rfl
  simp [cellsF] at g7
  obtain ⟨rt, e12, w12⟩ := trod_fl Try.underlying25 g7
  have g8 := hfd 8 _ rfl
  simp [cellsB] at g8
  obtain ⟨mo, e13⟩ := trod_bo Try.underlying4 g8
  have g9 := hfd 9 _ rfl
  simp [cellsF] at g9
  obtain ⟨sp, e14, w14⟩ := trod_fl Try.underlying25 g9
  have g10 := hfd 10 _ rfl
  simp [cellsF] at g10
  obtain ⟨mt, e15, w15⟩ := trod_fl Try.underlying25 g10
  have g11 := hfd 11 _ rfl
  simp [cellsB] at g11
  obtain ⟨li, e16⟩ := trod_bo Try.underlying4 g11
  have g12 := hfd 12 _ rfl
  simp [cellsF] at g12
  obtain ⟨lo, e17, w17⟩ := trod_fl Try.underlying25 g12
  have g13 := hfd 13 _ rfl
  simp [cellsF] at g13
  obtain ⟨hi, e18, w18⟩ := trod_fl Try.underlying25 g13
  have g14 := hfd 14 _ rfl
  simp [cellsA] at g14
  obtain ⟨az, n2, _, _, _, hla, hfa⟩ := DataW.trod_array Try.underlying28 g14
  obtain ⟨b0, b1, b2, rfl⟩ := list3 hla
  have s19 := hfa 0 (by decide)
  simp [cellsF] at s19
  obtain ⟨p0, e19, w19⟩ := trod_fl Try.underlying25 s19
  have s20 := hfa 1 (by decide)
  simp [cellsF] at s20
  obtain ⟨p1, e20, w20⟩ := trod_fl Try.underlying25 s20
  have s21 := hfa 2 (by decide)
  simp [cellsF] at s21
  obtain ⟨p2, e21, w21⟩ := trod_fl Try.underlying25 s21
  simp at e0 e1 e2 e3 e4 e5 e6 e7 e8 e9 e10 e11 e12 e13 e14 e15 e16 e17 e18 e19 e20 e21
  subst e0 e1 e2 e3 e4 e5 e6 e7 e8 e9 e10 e11 e12 e13 e14 e15 e16 e17 e18 e19 e20 e21
  exact ⟨_, _, _, _, _, _, _, _, _, _, _, _, _, _, _, _, _, _, _, _, _, _, rfl, wf_f64 w5, wf_f64 w6, wf_f64 w7, wf_f64 w8, wf_f64 w9, wf_f64 w10, wf_f64 w11, wf_f64 w12, wf_f64 w14, wf_f64 w15, wf_f64 w17, wf_f64 w18, wf_f64 w19, wf_f64 w20, wf_f64 w21⟩

set_option maxRecDepth 100000 in
set_option maxHeartbeats 2000000 in
theorem walk_any (kq sa ua sb ub : Int) (ax ay bx b_y ux uy rs rt : Nat) (mo : Bool) (sp mt : Nat) (li : Bool) (lo hi p0 p1 p2 : Nat) (oax : okK .f64 ax) (oay : okK .f64 ay) (obx : okK .f64 bx) (ob_y : okK .f64 b_y) (oux : okK .f64 ux) (ouy : okK .f64 uy) (ors : okK .f64 rs) (ort : okK .f64 rt) (osp : okK .f64 sp) (omt : okK .f64 mt) (olo : okK .f64 lo) (ohi : okK .f64 hi) (op0 : okK .f64 p0) (op1 : okK .f64 p1) (op2 : okK .f64 p2) (w : World) : Calls Try.prog 3 #[.agg #[.int .u8 kq, .int .u32 sa, .int .u32 ua, .int .u32 sb, .int .u32 ub, .float .f64 ax, .float .f64 ay, .float .f64 bx, .float .f64 b_y, .float .f64 ux, .float .f64 uy, .float .f64 rs, .float .f64 rt, .bool mo, .float .f64 sp, .float .f64 mt, .bool li, .float .f64 lo, .float .f64 hi, .float .f64 p0, .float .f64 p1, .float .f64 p2]] w fun e w' => e = .returned (.bool true) ∧ Below w.heap.size w w' := by
  have hR := rng_new w [.int .u8 kq, .int .u32 sa, .int .u32 ua, .int .u32 sb, .int .u32 ub, .float .f64 ax, .float .f64 ay, .float .f64 bx, .float .f64 b_y, .float .f64 ux, .float .f64 uy, .float .f64 rs, .float .f64 rt, .bool mo, .float .f64 sp, .float .f64 mt, .bool li, .float .f64 lo, .float .f64 hi, .float .f64 p0, .float .f64 p1, .float .f64 p2] 30
  have B0 := bl_alloc (bl_refl w) #[.int .u8 kq, .int .u32 sa, .int .u32 ua, .int .u32 sb, .int .u32 ub, .float .f64 ax, .float .f64 ay, .float .f64 bx, .float .f64 b_y, .float .f64 ux, .float .f64 uy, .float .f64 rs, .float .f64 rt, .bool mo, .float .f64 sp, .float .f64 mt, .bool li, .float .f64 lo, .float .f64 hi, .float .f64 p0, .float .f64 p1, .float .f64 p2] 30
  go_enter Try.func3, Try.ntmps3
  go_wp2
  refine wp_region_mono 6 rfl (fun i W v => match i with | 0 => v = .agg #[.int .u8 kq, .int .u32 sa, .int .u32 ua, .int .u32 sb, .int .u32 ub, .float .f64 ax, .float .f64 ay, .float .f64 bx, .float .f64 b_y, .float .f64 ux, .float .f64 uy, .float .f64 rs, .float .f64 rt, .bool mo, .float .f64 sp, .float .f64 mt, .bool li, .float .f64 lo, .float .f64 hi, .float .f64 p0, .float .f64 p1, .float .f64 p2] | 1 => v = .int .i64 (jE kq sa sb ax ay bx b_y ux uy rs rt sp mt lo hi p0 p1 p2 li) | 2 => v = .agg #[.int .u8 kq, .int .u32 sa, .int .u32 ua, .int .u32 sb, .int .u32 ub, .float .f64 ax, .float .f64 ay, .float .f64 bx, .float .f64 b_y, .float .f64 ux, .float .f64 uy, .float .f64 rs, .float .f64 rt, .bool mo, .float .f64 sp, .float .f64 mt, .bool li, .float .f64 lo, .float .f64 hi, .float .f64 p0, .float .f64 p1, .float .f64 p2] | 3 => v = .int .i64 (jE kq sa sb ax ay bx b_y ux uy rs rt sp mt lo hi p0 p1 p2 li) | 4 => v = .bool true | 5 => v = .bool true | _ => False) ?A_wm (by kernel_rfl) (by kernel_rfl) ?hA_wm ?hmo_wm ?hq_wm ?ht_wm
  case hA_wm =>
    intro s
    simp only [putL, dstO, Act.put, List.getElem?_toArray, List.getElem?_cons_zero, List.getElem?_cons_succ, Option.bind_some, List.setIfInBounds_toArray, List.set_cons_zero, List.set_cons_succ, if_true]
    all_goals exact rfl
  case hmo_wm =>
    intro i W W' v hi hb h
    rcases (show i = 0 ∨ i = 1 ∨ i = 2 ∨ i = 3 ∨ i = 4 ∨ i = 5 by omega) with rfl | rfl | rfl | rfl | rfl | rfl
    all_goals first | exact h
  case hq_wm =>
    intro i o hi ho s W hs hb K hK
    rcases (show i = 0 ∨ i = 1 ∨ i = 2 ∨ i = 3 ∨ i = 4 ∨ i = 5 by omega) with rfl | rfl | rfl | rfl | rfl | rfl
    · cases ho
      simp only [Act.put, List.setIfInBounds_toArray, List.set_cons_zero, List.set_cons_succ] at hK
      clear hs
      refine wp_load_mid (P := Try.prog) 30 _ rfl (w.heap.size) 0 rfl _ _ (rng_bel hR hb) Try.underlying30 rfl (by kernel_rfl) ?_
      exact hK.out _ _ rfl (bl_refl _)
    · cases ho
      have e0 : s 0 = _ := hs 0 (by decide) (by kernel_rfl)
      simp only [e0] at hK ⊢
      simp only [Act.put, List.setIfInBounds_toArray, List.set_cons_zero, List.set_cons_succ] at hK
      clear hs
      go_simp
      all_goals (try go_wp2_with (first | (go_at_call 5; refine (check_j _ _ _ _ _ _ _ _ _ _ _ _ _ _ _ _ _ _ _ _ _ _ _ ort).mono ?_; rintro e w' ⟨rfl, hb1⟩) | (go_at_call 6; refine (rcheck_j _ _ _ _ _ _ _ _ _ _ _ _ _ _ _ _ _ _ _ _ _ _ _ oax oay obx ob_y oux ouy ors ort osp omt olo ohi op0 op1 op2).mono ?_; rintro e w' ⟨rfl, hb1⟩)))
      all_goals first | with_reducible exact hK.out _ _ rfl (bl_refl _) | with_reducible exact hK.out _ _ rfl hb1 | exact hK.out _ _ rfl (bl_refl _) | exact hK.out _ _ rfl (by assumption) | exact hK.out _ _ (by assumption) (by assumption)
    · cases ho
      simp only [Act.put, List.setIfInBounds_toArray, List.set_cons_zero, List.set_cons_succ] at hK
      clear hs
      refine wp_load_mid (P := Try.prog) 30 _ rfl (w.heap.size) 0 rfl _ _ (rng_bel hR hb) Try.underlying30 rfl (by kernel_rfl) ?_
      exact hK.out _ _ rfl (bl_refl _)
    · cases ho
      have e2 : s 2 = _ := hs 2 (by decide) (by kernel_rfl)
      simp only [e2] at hK ⊢
      simp only [Act.put, List.setIfInBounds_toArray, List.set_cons_zero, List.set_cons_succ] at hK
      clear hs
      go_simp
      all_goals (try go_wp2_with (first | (go_at_call 5; refine (check_j _ _ _ _ _ _ _ _ _ _ _ _ _ _ _ _ _ _ _ _ _ _ _ ort).mono ?_; rintro e w' ⟨rfl, hb1⟩) | (go_at_call 6; refine (rcheck_j _ _ _ _ _ _ _ _ _ _ _ _ _ _ _ _ _ _ _ _ _ _ _ oax oay obx ob_y oux ouy ors ort osp omt olo ohi op0 op1 op2).mono ?_; rintro e w' ⟨rfl, hb1⟩)))
      all_goals first | with_reducible exact hK.out _ _ rfl (bl_refl _) | with_reducible exact hK.out _ _ rfl hb1 | exact hK.out _ _ rfl (bl_refl _) | exact hK.out _ _ rfl (by assumption) | exact hK.out _ _ (by assumption) (by assumption)
    · cases ho
      have e1 : s 1 = _ := hs 1 (by decide) (by kernel_rfl)
      have e3 : s 3 = _ := hs 3 (by decide) (by kernel_rfl)
      simp only [e1, e3] at hK ⊢
      simp only [Act.put, List.setIfInBounds_toArray, List.set_cons_zero, List.set_cons_succ] at hK
      clear hs
      go_simp
      all_goals (try go_wp2_with (first | (go_at_call 5; refine (check_j _ _ _ _ _ _ _ _ _ _ _ _ _ _ _ _ _ _ _ _ _ _ _ ort).mono ?_; rintro e w' ⟨rfl, hb1⟩) | (go_at_call 6; refine (rcheck_j _ _ _ _ _ _ _ _ _ _ _ _ _ _ _ _ _ _ _ _ _ _ _ oax oay obx ob_y oux ouy ors ort osp omt olo ohi op0 op1 op2).mono ?_; rintro e w' ⟨rfl, hb1⟩)))
      all_goals first | with_reducible exact hK.out _ _ rfl (bl_refl _) | with_reducible exact hK.out _ _ rfl hb1 | exact hK.out _ _ rfl (bl_refl _) | exact hK.out _ _ rfl (by assumption) | exact hK.out _ _ (by assumption) (by assumption)
    · cases ho
      have e4 : s 4 = _ := hs 4 (by decide) (by kernel_rfl)
      simp only [e4] at hK ⊢
      simp only [Act.put, List.setIfInBounds_toArray, List.set_cons_zero, List.set_cons_succ] at hK
      clear hs
      go_simp
      all_goals (try go_wp2_with (first | (go_at_call 5; refine (check_j _ _ _ _ _ _ _ _ _ _ _ _ _ _ _ _ _ _ _ _ _ _ _ ort).mono ?_; rintro e w' ⟨rfl, hb1⟩) | (go_at_call 6; refine (rcheck_j _ _ _ _ _ _ _ _ _ _ _ _ _ _ _ _ _ _ _ _ _ _ _ oax oay obx ob_y oux ouy ors ort osp omt olo ohi op0 op1 op2).mono ?_; rintro e w' ⟨rfl, hb1⟩)))
      all_goals first | with_reducible exact hK.out _ _ rfl (bl_refl _) | with_reducible exact hK.out _ _ rfl hb1 | exact hK.out _ _ rfl (bl_refl _) | exact hK.out _ _ rfl (by assumption) | exact hK.out _ _ (by assumption) (by assumption)
  case ht_wm =>
    intro s W hs hb
    have e0 : s 0 = _ := hs 0 (by decide)
    have e1 : s 1 = _ := hs 1 (by decide)
    have e2 : s 2 = _ := hs 2 (by decide)
    have e3 : s 3 = _ := hs 3 (by decide)
    have e4 : s 4 = _ := hs 4 (by decide)
    have e5 : s 5 = _ := hs 5 (by decide)
    simp only [e0, e1, e2, e3, e4, e5]
    clear hs e0 e1 e2 e3 e4 e5
    go_wp2
    go_ret
    exact ⟨rfl, (bl_trans B0 hb).1⟩

set_option maxRecDepth 100000 in
theorem lifted (os : Os) (started : os.Started) (H : Type) (enc : TypeId × Value → H) :
    ReturnsInHanded {} Try.checked os 3 .any (Rows.jointChecksSpec.pre6 enc Try.prog Try.f3 Rows.jointChecksRow.domain false) (Rows.jointChecksSpec.post enc Try.prog Try.f3 false true false false) := by
  refine returnsInHanded_of_change_sized (C := Try.checked) own started (by kernel_rfl) Try.func3
    (ChangeSpec.witness6 (enc := enc) (C := Try.checked) false ⟨#[], #[.agg #[.int .u8 0, .int .u32 0, .int .u32 0, .int .u32 0, .int .u32 0, .float .f64 0, .float .f64 0, .float .f64 0, .float .f64 0, .float .f64 0, .float .f64 0, .float .f64 0, .float .f64 0, .bool false, .float .f64 0, .float .f64 0, .bool false, .float .f64 0, .float .f64 0, .float .f64 0, .float .f64 0, .float .f64 0]], []⟩ 8 (by kernel_rfl) (by kernel_rfl) (by kernel_rfl) (by kernel_rfl)) ?_
  intro W base args ds gs before hval0 hW hcnd hsz0 _
  have hval : ∀ (j : Nat) t v, Try.f3.params[j]? = some t → args[j]? = some v → Value.okWide Try.prog W .any base t v := hval0
  have hW' := hW
  obtain ⟨p, q, hA0, hV, rfl, hfz, hnd⟩ := hW
  have hA : DataW.TrodAll enc Try.prog W 0 (fun _ => true) true Try.f3.params.toList args.toList ds p := hA0
  rw [Try.params3] at hA hval
  obtain ⟨v0, vs0, d0, ds0, p0, q0, hargs, rfl, rfl, h0, r0⟩ := trodAll_cons hA
  obtain ⟨rfl, rfl, rfl⟩ := trodAll_nil r0
  obtain rfl : args = #[v0] := by cases args; simp_all
  obtain ⟨rfl, rfl⟩ := trodVars_none hV
  have k0 := h0
  have lt0 : ∀ x ∈ p0, x.block < W.heap.size := by obtain ⟨m, hm⟩ := k0; exact DataW.trod_lt m _ _ _ hm
  obtain ⟨cs0, rfl, hsz0⟩ := okWide_struct Try.underlying30 (hval 0 30 v0 rfl rfl)
  obtain ⟨fu0, hf0⟩ := h0
  obtain ⟨kq, sa, ua, sb, ub, ax, ay, bx, b_y, ux, uy, rs, rt, mo, sp, mt, li, lo, hi, p0, p1, p2, hl0, oax, oay, obx, ob_y, oux, ouy, ors, ort, osp, omt, olo, ohi, op0, op1, op2⟩ := open_joint (l := cs0.toList) (by rw [Array.length_toList, hsz0]; exact cellsJ) hf0
  obtain rfl : cs0 = #[.int .u8 kq, .int .u32 sa, .int .u32 ua, .int .u32 sb, .int .u32 ub, .float .f64 ax, .float .f64 ay, .float .f64 bx, .float .f64 b_y, .float .f64 ux, .float .f64 uy, .float .f64 rs, .float .f64 rt, .bool mo, .float .f64 sp, .float .f64 mt, .bool li, .float .f64 lo, .float .f64 hi, .float .f64 p0, .float .f64 p1, .float .f64 p2] := by rw [← Array.toArray_toList (xs := cs0), hl0]
  clear hA0 hval0 hsz0
  refine (walk_any kq sa ua sb ub ax ay bx b_y ux uy rs rt mo sp mt li lo hi p0 p1 p2 oax oay obx ob_y oux ouy ors ort osp omt olo ohi op0 op1 op2 W).mono fun e W' ⟨he, bel0⟩ => ?_
  have bel := bel0
  subst he
  exact ⟨_, rfl, _, _, _, [], _, [], hW', trodAll_mk1 (shut_bool Try.underlying4 _), (trodAll_cons_mk (Below.trod laidOut (by kernel_rfl) (of_decide_eq_true (by kernel_rfl)) k0 bel lt0) trodAll_mk0), rfl, bel.frame _, fun h => by cases h⟩

theorem over : Rows.jointChecksRow.holds Try.pinned (OpenSpec.ofChange Rows.jointChecksSpec) :=
  OpenClaim.holds_of_wide 3 Try.f3 rfl rfl rfl rfl rfl rfl rfl ⟨rfl, rfl, rfl, rfl, rfl⟩ rfl rfl rfl rfl rfl (by kernel_rfl) Try.func3 (by kernel_rfl)
    (of_decide_eq_true (by kernel_rfl)) (by unfold Func.isWrapper; first | (rw [if_pos (by decide +kernel)]; kernel_rfl) | (rw [if_neg (by decide +kernel)]; exact ⟨rfl, rfl⟩))
    (fun os started H enc _ => lifted os started H enc)

theorem proved : Rows.JointChecksSaid :=
  over
#print axioms proved
end Go.Proofs.Ytfjlonnmhioleaa.jointChecks
