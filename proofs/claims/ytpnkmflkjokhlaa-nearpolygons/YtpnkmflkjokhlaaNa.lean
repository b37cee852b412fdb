/-
  What each function of package poly answers, and what the reference of its chapter answers: one contract a function, for every float: the answer stands in the relation of its formula to what was given; of the memory that was there nothing has turned.
-/
import Derived.Test.YtpnkmflkjokhlaaVec
import Derived.Test.YtpnkmflkjokhlaaPa
import Derived.Test.YtpnkmflkjokhlaaLsa
import Derived.Test.YtpnkmflkjokhlaaOnc5
import Derived.Below
import Derived.WalkKit
import Derived.WalkLawsBesides
import Derived.WalkSpells
import Derived.ProofKit
import Derived.OpenShut
import Derived.Deep.RegionHeld3
namespace Go.Proofs.Ytpnkmflkjokhlaa
open Go.ChangeShapes Go.WideShapes Go.ChangeAt Go.RowKit
set_option linter.unusedVariables false
set_option linter.unusedSimpArgs false


theorem put5_all {W : World} {n : Nat} {p q r s t p0 q0 r0 s0 t0 : Value} (h0 : W.cell? ⟨n, 0, none⟩ = some p0) (h1 : W.cell? ⟨n, 1, none⟩ = some q0) (h2 : W.cell? ⟨n, 2, none⟩ = some r0) (h3 : W.cell? ⟨n, 3, none⟩ = some s0) (h4 : W.cell? ⟨n, 4, none⟩ = some t0) : ∃ W', W' = ((((W.setCell ⟨n, 0, none⟩ p).setCell ⟨n, 1, none⟩ q).setCell ⟨n, 2, none⟩ r).setCell ⟨n, 3, none⟩ s).setCell ⟨n, 4, none⟩ t ∧ W'.cell? ⟨n, 0, none⟩ = some p ∧ W'.cell? ⟨n, 1, none⟩ = some q ∧ W'.cell? ⟨n, 2, none⟩ = some r ∧ W'.cell? ⟨n, 3, none⟩ = some s ∧ W'.cell? ⟨n, 4, none⟩ = some t ∧ (∀ b o, (b ≠ n ∨ 5 ≤ o) → W'.cell? ⟨b, o, none⟩ = W.cell? ⟨b, o, none⟩) ∧ (∀ w, Bel w W → w.heap.size ≤ n → Bel w W') := by
  obtain ⟨X, hX, a0, a1, a2, a3, aF, aB⟩ := put4_all (p := p) (q := q) (r := r) (s := s) h0 h1 h2 h3
  rw [← hX]
  refine ⟨_, rfl, ?_, ?_, ?_, ?_, ?_, fun b o h => (set_else (by omega)).trans (aF b o (by omega)), fun w hb hn => bl_set (aB w hb hn) hn⟩
  · rw [set_away (by decide)]; exact a0
  · rw [set_away (by decide)]; exact a1
  · rw [set_away (by decide)]; exact a2
  · rw [set_away (by decide)]; exact a3
  · exact World.cell?_setCell_same _ _ _ ((aF _ _ (by omega)).trans h4)

theorem vSub_n {ax ay bx b_y : Nat} {A B : Vp} (w : World) (ha : isP ax ay A) (hb_ : isP bx b_y B) : Calls Try.prog 32 #[.agg #[.float .f64 ax, .float .f64 ay], .agg #[.float .f64 bx, .float .f64 b_y]] w fun e w' => ∃ x y, isP x y (suF A B) ∧ e = .returned (.agg #[.float .f64 x, .float .f64 y]) ∧ Bel w w' :=
  (vSub_any _ _ _ _ w).mono fun e w' ⟨x, y, h, he, hb⟩ => ⟨x, y, h.is ha hb_, he, hb⟩
theorem vDot_n {ax ay bx b_y : Nat} {A B : Vp} (w : World) (ha : isP ax ay A) (hb_ : isP bx b_y B) : Calls Try.prog 38 #[.agg #[.float .f64 ax, .float .f64 ay], .agg #[.float .f64 bx, .float .f64 b_y]] w fun e w' => ∃ r, isF r (dtF A B) ∧ e = .returned (.float .f64 r) ∧ Bel w w' :=
  (vDot_any _ _ _ _ w).mono fun e w' ⟨r, h, he, hb⟩ => ⟨r, h.is ha hb_, he, hb⟩
theorem vCross_n {ax ay bx b_y : Nat} {A B : Vp} (w : World) (ha : isP ax ay A) (hb_ : isP bx b_y B) : Calls Try.prog 46 #[.agg #[.float .f64 ax, .float .f64 ay], .agg #[.float .f64 bx, .float .f64 b_y]] w fun e w' => ∃ r, isF r (crF A B) ∧ e = .returned (.float .f64 r) ∧ Bel w w' :=
  (vCross_any _ _ _ _ w).mono fun e w' ⟨r, h, he, hb⟩ => ⟨r, h.is ha hb_, he, hb⟩
theorem vSquare_n {ax ay : Nat} {A : Vp} (w : World) (ha : isP ax ay A) : Calls Try.prog 36 #[.agg #[.float .f64 ax, .float .f64 ay]] w fun e w' => ∃ r, isF r (dtF A A) ∧ e = .returned (.float .f64 r) ∧ Bel w w' :=
  (vSquare_any _ _ w).mono fun e w' ⟨r, h, he, hb⟩ => ⟨r, h.is ha ha, he, hb⟩
theorem vLength_n {ax ay : Nat} {A : Vp} (w : World) (ha : isP ax ay A) : Calls Try.prog 31 #[.agg #[.float .f64 ax, .float .f64 ay]] w fun e w' => ∃ r, isF r (lnF A) ∧ e = .returned (.float .f64 r) ∧ Bel w w' :=
  (vLength_any _ _ w).mono fun e w' ⟨r, h, he, hb⟩ => ⟨r, h.is ha, he, hb⟩
theorem vMore_n {ax ay q bx b_y Q : Nat} {A B : Vp} (w : World) (ha : isP ax ay A) (hq : isF q Q) (hb_ : isP bx b_y B) : Calls Try.prog 39 #[.agg #[.float .f64 ax, .float .f64 ay], .float .f64 q, .agg #[.float .f64 bx, .float .f64 b_y]] w fun e w' => ∃ x y, isP x y (moF A Q B) ∧ e = .returned (.agg #[.float .f64 x, .float .f64 y]) ∧ Bel w w' :=
  (vMore_any _ _ _ _ _ w).mono fun e w' ⟨x, y, h, he, hb⟩ => ⟨x, y, h.is ha hq hb_, he, hb⟩

theorem minus_n {ax ay bx b_y : Nat} {A B : Vp} (w : World) (ha : isP ax ay A) (hb_ : isP bx b_y B) : Calls Try.prog 40 #[.agg #[.float .f64 ax, .float .f64 ay], .agg #[.float .f64 bx, .float .f64 b_y]] w fun e w' => ∃ x y, isP x y (suF A B) ∧ e = .returned (.agg #[.float .f64 x, .float .f64 y]) ∧ Bel w w' := by
  have q3 := run_sub Try.prog
  go_enter Try.func40, Try.ntmps40
  go_wp2
  refine bodyPost_ret (v := .agg #[.float .f64 _, .float .f64 _]) (by simp [results, Try.results40, go_sem] <;> (first | exact ⟨rfl, rfl⟩ | rfl)) rfl ⟨_, _, (SubR.is (ax := ax) (ay := ay) (bx := bx) (b_y := b_y) ⟨fv_res .sub .f64 _ _ _, fv_res .sub .f64 _ _ _⟩ ha hb_), rfl, ?_⟩
  repeat (first | exact bl_refl _ | assumption | apply bl_drewN | apply bl_drew | apply bl_alloc | refine bl_set ?_ (by simp <;> omega) | refine bl_trans ?_ (by assumption))

set_option maxRecDepth 100000 in
theorem dot_n {ax ay bx b_y : Nat} {A B : Vp} (w : World) (ha : isP ax ay A) (hb_ : isP bx b_y B) : Calls Try.prog 41 #[.agg #[.float .f64 ax, .float .f64 ay], .agg #[.float .f64 bx, .float .f64 b_y]] w fun e w' => ∃ r, isF r (dtF A B) ∧ e = .returned (.float .f64 r) ∧ Bel w w' := by
  have q2 := run_add Try.prog
  have z0_0 : (w.alloc (.cells #[.float .f64 ax, .float .f64 ay] 24)).cell? ⟨w.heap.size, 0, none⟩ = some (.float .f64 ax) := by rw [World.cell?_alloc_new]; rfl
  replace z0_0 := up_alloc (o := .cells #[.float .f64 bx, .float .f64 b_y] 24) z0_0
  have z0_1 : (w.alloc (.cells #[.float .f64 ax, .float .f64 ay] 24)).cell? ⟨w.heap.size, 1, none⟩ = some (.float .f64 ay) := by rw [World.cell?_alloc_new]; rfl
  replace z0_1 := up_alloc (o := .cells #[.float .f64 bx, .float .f64 b_y] 24) z0_1
  have z1_0 : ((w.alloc (.cells #[.float .f64 ax, .float .f64 ay] 24)).alloc (.cells #[.float .f64 bx, .float .f64 b_y] 24)).cell? ⟨w.heap.size + 1, 0, none⟩ = some (.float .f64 bx) := by rw [← (show (w.alloc (.cells #[.float .f64 ax, .float .f64 ay] 24)).heap.size = w.heap.size + 1 by simp only [World.size_alloc]), World.cell?_alloc_new]; rfl
  have z1_1 : ((w.alloc (.cells #[.float .f64 ax, .float .f64 ay] 24)).alloc (.cells #[.float .f64 bx, .float .f64 b_y] 24)).cell? ⟨w.heap.size + 1, 1, none⟩ = some (.float .f64 b_y) := by rw [← (show (w.alloc (.cells #[.float .f64 ax, .float .f64 ay] 24)).heap.size = w.heap.size + 1 by simp only [World.size_alloc]), World.cell?_alloc_new]; rfl
  have B0 : Bel w ((w.alloc (.cells #[.float .f64 ax, .float .f64 ay] 24)).alloc (.cells #[.float .f64 bx, .float .f64 b_y] 24)) := bl_alloc (bl_alloc (bl_refl w) _ _) _ _
  go_enter Try.func41, Try.ntmps41
  go_wp2
  refine wp_region_mono 12 rfl (fun i W v => match i with | 0 => v = .pointer (some ⟨w.heap.size, 0, none⟩) | 1 => v = .float .f64 ax | 2 => v = .pointer (some ⟨w.heap.size + 1, 0, none⟩) | 3 => v = .float .f64 bx | 4 => ∃ p, resK .mul .f64 ax bx p ∧ v = .float .f64 p | 5 => v = .pointer (some ⟨w.heap.size, 1, none⟩) | 6 => v = .float .f64 ay | 7 => v = .pointer (some ⟨w.heap.size + 1, 1, none⟩) | 8 => v = .float .f64 b_y | 9 => ∃ p, resK .mul .f64 ay b_y p ∧ v = .float .f64 p | 10 => ∃ p, resK .mul .f64 ax bx p ∧ v = .float .f64 p | 11 => ∃ p, resK .mul .f64 ay b_y p ∧ v = .float .f64 p | _ => False) ?A_wm (by kernel_rfl) (by kernel_rfl) ?hA_wm ?hmo_wm ?hq_wm ?ht_wm
  case hA_wm =>
    intro s
    simp only [putL, dstO, Act.put, List.getElem?_toArray, List.getElem?_cons_zero, List.getElem?_cons_succ, Option.bind_some, List.setIfInBounds_toArray, List.set_cons_zero, List.set_cons_succ, if_true]
    all_goals exact rfl
  case hmo_wm =>
    intro i W W' v hi hb h
    rcases (show i = 0 ∨ i = 1 ∨ i = 2 ∨ i = 3 ∨ i = 4 ∨ i = 5 ∨ i = 6 ∨ i = 7 ∨ i = 8 ∨ i = 9 ∨ i = 10 ∨ i = 11 by omega) with rfl | rfl | rfl | rfl | rfl | rfl | rfl | rfl | rfl | rfl | rfl | rfl
    all_goals first | exact h
  case hq_wm =>
    intro i o hi ho s W hs hb K hK
    have q1 := run_mul Try.prog; have uz0_0 := keep hb z0_0; have uz0_1 := keep hb z0_1; have uz1_0 := keep hb z1_0; have uz1_1 := keep hb z1_1
    rcases (show i = 0 ∨ i = 1 ∨ i = 2 ∨ i = 3 ∨ i = 4 ∨ i = 5 ∨ i = 6 ∨ i = 7 ∨ i = 8 ∨ i = 9 ∨ i = 10 ∨ i = 11 by omega) with rfl | rfl | rfl | rfl | rfl | rfl | rfl | rfl | rfl | rfl | rfl | rfl
    · cases ho
      simp only [Act.put, List.setIfInBounds_toArray, List.set_cons_zero, List.set_cons_succ] at hK
      clear hs
      go_simp
      all_goals first | exact hK.out _ _ ⟨_, fv_res .mul .f64 _ _ _, rfl⟩ (by first | exact bl_refl _ | exact bl_drewN (bl_refl _) _) | exact hK.out _ _ ⟨_, h4, rfl⟩ (bl_refl _) | exact hK.out _ _ ⟨_, h9, rfl⟩ (bl_refl _) | exact hK.out _ _ rfl (bl_refl _) | exact hK.out _ _ rfl (by assumption) | exact hK.out _ _ (by assumption) (by assumption)
    · cases ho
      have e0 : s 0 = _ := hs 0 (by decide) (by kernel_rfl)
      simp only [e0] at hK ⊢
      simp only [Act.put, List.setIfInBounds_toArray, List.set_cons_zero, List.set_cons_succ] at hK
      clear hs
      go_simp
      all_goals first | exact hK.out _ _ ⟨_, fv_res .mul .f64 _ _ _, rfl⟩ (by first | exact bl_refl _ | exact bl_drewN (bl_refl _) _) | exact hK.out _ _ ⟨_, h4, rfl⟩ (bl_refl _) | exact hK.out _ _ ⟨_, h9, rfl⟩ (bl_refl _) | exact hK.out _ _ rfl (bl_refl _) | exact hK.out _ _ rfl (by assumption) | exact hK.out _ _ (by assumption) (by assumption)
    · cases ho
      simp only [Act.put, List.setIfInBounds_toArray, List.set_cons_zero, List.set_cons_succ] at hK
      clear hs
      go_simp
      all_goals first | exact hK.out _ _ ⟨_, fv_res .mul .f64 _ _ _, rfl⟩ (by first | exact bl_refl _ | exact bl_drewN (bl_refl _) _) | exact hK.out _ _ ⟨_, h4, rfl⟩ (bl_refl _) | exact hK.out _ _ ⟨_, h9, rfl⟩ (bl_refl _) | exact hK.out _ _ rfl (bl_refl _) | exact hK.out _ _ rfl (by assumption) | exact hK.out _ _ (by assumption) (by assumption)
    · cases ho
      have e2 : s 2 = _ := hs 2 (by decide) (by kernel_rfl)
      simp only [e2] at hK ⊢
      simp only [Act.put, List.setIfInBounds_toArray, List.set_cons_zero, List.set_cons_succ] at hK
      clear hs
      go_simp
      all_goals first | exact hK.out _ _ ⟨_, fv_res .mul .f64 _ _ _, rfl⟩ (by first | exact bl_refl _ | exact bl_drewN (bl_refl _) _) | exact hK.out _ _ ⟨_, h4, rfl⟩ (bl_refl _) | exact hK.out _ _ ⟨_, h9, rfl⟩ (bl_refl _) | exact hK.out _ _ rfl (bl_refl _) | exact hK.out _ _ rfl (by assumption) | exact hK.out _ _ (by assumption) (by assumption)
    · cases ho
      have e1 : s 1 = _ := hs 1 (by decide) (by kernel_rfl)
      have e3 : s 3 = _ := hs 3 (by decide) (by kernel_rfl)
      simp only [e1, e3] at hK ⊢
      simp only [Act.put, List.setIfInBounds_toArray, List.set_cons_zero, List.set_cons_succ] at hK
      clear hs
      go_simp
      all_goals first | exact hK.out _ _ ⟨_, fv_res .mul .f64 _ _ _, rfl⟩ (by first | exact bl_refl _ | exact bl_drewN (bl_refl _) _) | exact hK.out _ _ ⟨_, h4, rfl⟩ (bl_refl _) | exact hK.out _ _ ⟨_, h9, rfl⟩ (bl_refl _) | exact hK.out _ _ rfl (bl_refl _) | exact hK.out _ _ rfl (by assumption) | exact hK.out _ _ (by assumption) (by assumption)
    · cases ho
      simp only [Act.put, List.setIfInBounds_toArray, List.set_cons_zero, List.set_cons_succ] at hK
      clear hs
      go_simp
      all_goals first | exact hK.out _ _ ⟨_, fv_res .mul .f64 _ _ _, rfl⟩ (by first | exact bl_refl _ | exact bl_drewN (bl_refl _) _) | exact hK.out _ _ ⟨_, h4, rfl⟩ (bl_refl _) | exact hK.out _ _ ⟨_, h9, rfl⟩ (bl_refl _) | exact hK.out _ _ rfl (bl_refl _) | exact hK.out _ _ rfl (by assumption) | exact hK.out _ _ (by assumption) (by assumption)
    · cases ho
      have e5 : s 5 = _ := hs 5 (by decide) (by kernel_rfl)
      simp only [e5] at hK ⊢
      simp only [Act.put, List.setIfInBounds_toArray, List.set_cons_zero, List.set_cons_succ] at hK
      clear hs
      go_simp
      all_goals first | exact hK.out _ _ ⟨_, fv_res .mul .f64 _ _ _, rfl⟩ (by first | exact bl_refl _ | exact bl_drewN (bl_refl _) _) | exact hK.out _ _ ⟨_, h4, rfl⟩ (bl_refl _) | exact hK.out _ _ ⟨_, h9, rfl⟩ (bl_refl _) | exact hK.out _ _ rfl (bl_refl _) | exact hK.out _ _ rfl (by assumption) | exact hK.out _ _ (by assumption) (by assumption)
    · cases ho
      simp only [Act.put, List.setIfInBounds_toArray, List.set_cons_zero, List.set_cons_succ] at hK
      clear hs
      go_simp
      all_goals first | exact hK.out _ _ ⟨_, fv_res .mul .f64 _ _ _, rfl⟩ (by first | exact bl_refl _ | exact bl_drewN (bl_refl _) _) | exact hK.out _ _ ⟨_, h4, rfl⟩ (bl_refl _) | exact hK.out _ _ ⟨_, h9, rfl⟩ (bl_refl _) | exact hK.out _ _ rfl (bl_refl _) | exact hK.out _ _ rfl (by assumption) | exact hK.out _ _ (by assumption) (by assumption)
    · cases ho
      have e7 : s 7 = _ := hs 7 (by decide) (by kernel_rfl)
      simp only [e7] at hK ⊢
      simp only [Act.put, List.setIfInBounds_toArray, List.set_cons_zero, List.set_cons_succ] at hK
      clear hs
      go_simp
      all_goals first | exact hK.out _ _ ⟨_, fv_res .mul .f64 _ _ _, rfl⟩ (by first | exact bl_refl _ | exact bl_drewN (bl_refl _) _) | exact hK.out _ _ ⟨_, h4, rfl⟩ (bl_refl _) | exact hK.out _ _ ⟨_, h9, rfl⟩ (bl_refl _) | exact hK.out _ _ rfl (bl_refl _) | exact hK.out _ _ rfl (by assumption) | exact hK.out _ _ (by assumption) (by assumption)
    · cases ho
      have e6 : s 6 = _ := hs 6 (by decide) (by kernel_rfl)
      have e8 : s 8 = _ := hs 8 (by decide) (by kernel_rfl)
      simp only [e6, e8] at hK ⊢
      simp only [Act.put, List.setIfInBounds_toArray, List.set_cons_zero, List.set_cons_succ] at hK
      clear hs
      go_simp
      all_goals first | exact hK.out _ _ ⟨_, fv_res .mul .f64 _ _ _, rfl⟩ (by first | exact bl_refl _ | exact bl_drewN (bl_refl _) _) | exact hK.out _ _ ⟨_, h4, rfl⟩ (bl_refl _) | exact hK.out _ _ ⟨_, h9, rfl⟩ (bl_refl _) | exact hK.out _ _ rfl (bl_refl _) | exact hK.out _ _ rfl (by assumption) | exact hK.out _ _ (by assumption) (by assumption)
    · cases ho
      obtain ⟨p4, h4, e4⟩ := hs 4 (by decide) (by kernel_rfl)
      simp only [e4] at hK ⊢
      simp only [Act.put, List.setIfInBounds_toArray, List.set_cons_zero, List.set_cons_succ] at hK
      clear hs
      go_simp
      all_goals first | exact hK.out _ _ ⟨_, fv_res .mul .f64 _ _ _, rfl⟩ (by first | exact bl_refl _ | exact bl_drewN (bl_refl _) _) | exact hK.out _ _ ⟨_, h4, rfl⟩ (bl_refl _) | exact hK.out _ _ ⟨_, h9, rfl⟩ (bl_refl _) | exact hK.out _ _ rfl (bl_refl _) | exact hK.out _ _ rfl (by assumption) | exact hK.out _ _ (by assumption) (by assumption)
    · cases ho
      obtain ⟨p9, h9, e9⟩ := hs 9 (by decide) (by kernel_rfl)
      simp only [e9] at hK ⊢
      simp only [Act.put, List.setIfInBounds_toArray, List.set_cons_zero, List.set_cons_succ] at hK
      clear hs
      go_simp
      all_goals first | exact hK.out _ _ ⟨_, fv_res .mul .f64 _ _ _, rfl⟩ (by first | exact bl_refl _ | exact bl_drewN (bl_refl _) _) | exact hK.out _ _ ⟨_, h4, rfl⟩ (bl_refl _) | exact hK.out _ _ ⟨_, h9, rfl⟩ (bl_refl _) | exact hK.out _ _ rfl (bl_refl _) | exact hK.out _ _ rfl (by assumption) | exact hK.out _ _ (by assumption) (by assumption)
  case ht_wm =>
    intro s W hs hb
    have e0 : s 0 = _ := hs 0 (by decide)
    have e1 : s 1 = _ := hs 1 (by decide)
    have e2 : s 2 = _ := hs 2 (by decide)
    have e3 : s 3 = _ := hs 3 (by decide)
    obtain ⟨p4, h4, e4⟩ := hs 4 (by decide)
    have e5 : s 5 = _ := hs 5 (by decide)
    have e6 : s 6 = _ := hs 6 (by decide)
    have e7 : s 7 = _ := hs 7 (by decide)
    have e8 : s 8 = _ := hs 8 (by decide)
    obtain ⟨p9, h9, e9⟩ := hs 9 (by decide)
    obtain ⟨p10, h10, e10⟩ := hs 10 (by decide)
    obtain ⟨p11, h11, e11⟩ := hs 11 (by decide)
    simp only [e0, e1, e2, e3, e4, e5, e6, e7, e8, e9, e10, e11]
    clear hs e0 e1 e2 e3 e4 e5 e6 e7 e8 e9 e10 e11
    go_wp2
    go_ret
    refine ⟨_, (DotR.is (ax := ax) (ay := ay) (bx := bx) (b_y := b_y) ⟨_, _, h10, h11, fv_res .add .f64 _ _ _⟩ ha hb_), rfl, ?_⟩
    refine bl_trans B0 ?_
    repeat (first | exact bl_refl _ | assumption | apply bl_drewN | apply bl_drew | apply bl_alloc | refine bl_set ?_ (by simp <;> omega) | refine bl_trans ?_ (by assumption))

set_option maxRecDepth 100000 in
theorem cross_n {ax ay bx b_y : Nat} {A B : Vp} (w : World) (ha : isP ax ay A) (hb_ : isP bx b_y B) : Calls Try.prog 49 #[.agg #[.float .f64 ax, .float .f64 ay], .agg #[.float .f64 bx, .float .f64 b_y]] w fun e w' => ∃ r, isF r (crF A B) ∧ e = .returned (.float .f64 r) ∧ Bel w w' := by
  have q2 := run_sub Try.prog
  have z0_0 : (w.alloc (.cells #[.float .f64 ax, .float .f64 ay] 24)).cell? ⟨w.heap.size, 0, none⟩ = some (.float .f64 ax) := by rw [World.cell?_alloc_new]; rfl
  replace z0_0 := up_alloc (o := .cells #[.float .f64 bx, .float .f64 b_y] 24) z0_0
  have z0_1 : (w.alloc (.cells #[.float .f64 ax, .float .f64 ay] 24)).cell? ⟨w.heap.size, 1, none⟩ = some (.float .f64 ay) := by rw [World.cell?_alloc_new]; rfl
  replace z0_1 := up_alloc (o := .cells #[.float .f64 bx, .float .f64 b_y] 24) z0_1
  have z1_0 : ((w.alloc (.cells #[.float .f64 ax, .float .f64 ay] 24)).alloc (.cells #[.float .f64 bx, .float .f64 b_y] 24)).cell? ⟨w.heap.size + 1, 0, none⟩ = some (.float .f64 bx) := by rw [← (show (w.alloc (.cells #[.float .f64 ax, .float .f64 ay] 24)).heap.size = w.heap.size + 1 by simp only [World.size_alloc]), World.cell?_alloc_new]; rfl
  have z1_1 : ((w.alloc (.cells #[.float .f64 ax, .float .f64 ay] 24)).alloc (.cells #[.float .f64 bx, .float .f64 b_y] 24)).cell? ⟨w.heap.size + 1, 1, none⟩ = some (.float .f64 b_y) := by rw [← (show (w.alloc (.cells #[.float .f64 ax, .float .f64 ay] 24)).heap.size = w.heap.size + 1 by simp only [World.size_alloc]), World.cell?_alloc_new]; rfl
  have B0 : Bel w ((w.alloc (.cells #[.float .f64 ax, .float .f64 ay] 24)).alloc (.cells #[.float .f64 bx, .float .f64 b_y] 24)) := bl_alloc (bl_alloc (bl_refl w) _ _) _ _
  go_enter Try.func49, Try.ntmps49
  go_wp2
  refine wp_region_mono 12 rfl (fun i W v => match i with | 0 => v = .pointer (some ⟨w.heap.size, 0, none⟩) | 1 => v = .float .f64 ax | 2 => v = .pointer (some ⟨w.heap.size + 1, 1, none⟩) | 3 => v = .float .f64 b_y | 4 => ∃ p, resK .mul .f64 ax b_y p ∧ v = .float .f64 p | 5 => v = .pointer (some ⟨w.heap.size, 1, none⟩) | 6 => v = .float .f64 ay | 7 => v = .pointer (some ⟨w.heap.size + 1, 0, none⟩) | 8 => v = .float .f64 bx | 9 => ∃ p, resK .mul .f64 ay bx p ∧ v = .float .f64 p | 10 => ∃ p, resK .mul .f64 ax b_y p ∧ v = .float .f64 p | 11 => ∃ p, resK .mul .f64 ay bx p ∧ v = .float .f64 p | _ => False) ?A_wm (by kernel_rfl) (by kernel_rfl) ?hA_wm ?hmo_wm ?hq_wm ?ht_wm
  case hA_wm =>
    intro s
    simp only [putL, dstO, Act.put, List.getElem?_toArray, List.getElem?_cons_zero, List.getElem?_cons_succ, Option.bind_some, List.setIfInBounds_toArray, List.set_cons_zero, List.set_cons_succ, if_true]
    all_goals exact rfl
  case hmo_wm =>
    intro i W W' v hi hb h
    rcases (show i = 0 ∨ i = 1 ∨ i = 2 ∨ i = 3 ∨ i = 4 ∨ i = 5 ∨ i = 6 ∨ i = 7 ∨ i = 8 ∨ i = 9 ∨ i = 10 ∨ i = 11 by omega) with rfl | rfl | rfl | rfl | rfl | rfl | rfl | rfl | rfl | rfl | rfl | rfl
    all_goals first | exact h
  case hq_wm =>
    intro i o hi ho s W hs hb K hK
    have q1 := run_mul Try.prog; have uz0_0 := keep hb z0_0; have uz0_1 := keep hb z0_1; have uz1_0 := keep hb z1_0; have uz1_1 := keep hb z1_1
    rcases (show i = 0 ∨ i = 1 ∨ i = 2 ∨ i = 3 ∨ i = 4 ∨ i = 5 ∨ i = 6 ∨ i = 7 ∨ i = 8 ∨ i = 9 ∨ i = 10 ∨ i = 11 by omega) with rfl | rfl | rfl | rfl | rfl | rfl | rfl | rfl | rfl | rfl | rfl | rfl
    · cases ho
      simp only [Act.put, List.setIfInBounds_toArray, List.set_cons_zero, List.set_cons_succ] at hK
      clear hs
      go_simp
      all_goals first | exact hK.out _ _ ⟨_, fv_res .mul .f64 _ _ _, rfl⟩ (by first | exact bl_refl _ | exact bl_drewN (bl_refl _) _) | exact hK.out _ _ ⟨_, h4, rfl⟩ (bl_refl _) | exact hK.out _ _ ⟨_, h9, rfl⟩ (bl_refl _) | exact hK.out _ _ rfl (bl_refl _) | exact hK.out _ _ rfl (by assumption) | exact hK.out _ _ (by assumption) (by assumption)
    · cases ho
      have e0 : s 0 = _ := hs 0 (by decide) (by kernel_rfl)
      simp only [e0] at hK ⊢
      simp only [Act.put, List.setIfInBounds_toArray, List.set_cons_zero, List.set_cons_succ] at hK
      clear hs
      go_simp
      all_goals first | exact hK.out _ _ ⟨_, fv_res .mul .f64 _ _ _, rfl⟩ (by first | exact bl_refl _ | exact bl_drewN (bl_refl _) _) | exact hK.out _ _ ⟨_, h4, rfl⟩ (bl_refl _) | exact hK.out _ _ ⟨_, h9, rfl⟩ (bl_refl _) | exact hK.out _ _ rfl (bl_refl _) | exact hK.out _ _ rfl (by assumption) | exact hK.out _ _ (by assumption) (by assumption)
    · cases ho
      simp only [Act.put, List.setIfInBounds_toArray, List.set_cons_zero, List.set_cons_succ] at hK
      clear hs
      go_simp
      all_goals first | exact hK.out _ _ ⟨_, fv_res .mul .f64 _ _ _, rfl⟩ (by first | exact bl_refl _ | exact bl_drewN (bl_refl _) _) | exact hK.out _ _ ⟨_, h4, rfl⟩ (bl_refl _) | exact hK.out _ _ ⟨_, h9, rfl⟩ (bl_refl _) | exact hK.out _ _ rfl (bl_refl _) | exact hK.out _ _ rfl (by assumption) | exact hK.out _ _ (by assumption) (by assumption)
    · cases ho
      have e2 : s 2 = _ := hs 2 (by decide) (by kernel_rfl)
      simp only [e2] at hK ⊢
      simp only [Act.put, List.setIfInBounds_toArray, List.set_cons_zero, List.set_cons_succ] at hK
      clear hs
      go_simp
      all_goals first | exact hK.out _ _ ⟨_, fv_res .mul .f64 _ _ _, rfl⟩ (by first | exact bl_refl _ | exact bl_drewN (bl_refl _) _) | exact hK.out _ _ ⟨_, h4, rfl⟩ (bl_refl _) | exact hK.out _ _ ⟨_, h9, rfl⟩ (bl_refl _) | exact hK.out _ _ rfl (bl_refl _) | exact hK.out _ _ rfl (by assumption) | exact hK.out _ _ (by assumption) (by assumption)
    · cases ho
      have e1 : s 1 = _ := hs 1 (by decide) (by kernel_rfl)
      have e3 : s 3 = _ := hs 3 (by decide) (by kernel_rfl)
      simp only [e1, e3] at hK ⊢
      simp only [Act.put, List.setIfInBounds_toArray, List.set_cons_zero, List.set_cons_succ] at hK
      clear hs
      go_simp
      all_goals first | exact hK.out _ _ ⟨_, fv_res .mul .f64 _ _ _, rfl⟩ (by first | exact bl_refl _ | exact bl_drewN (bl_refl _) _) | exact hK.out _ _ ⟨_, h4, rfl⟩ (bl_refl _) | exact hK.out _ _ ⟨_, h9, rfl⟩ (bl_refl _) | exact hK.out _ _ rfl (bl_refl _) | exact hK.out _ _ rfl (by assumption) | exact hK.out _ _ (by assumption) (by assumption)
    · cases ho
      simp only [Act.put, List.setIfInBounds_toArray, List.set_cons_zero, List.set_cons_succ] at hK
      clear hs
      go_simp
      all_goals first | exact hK.out _ _ ⟨_, fv_res .mul .f64 _ _ _, rfl⟩ (by first | exact bl_refl _ | exact bl_drewN (bl_refl _) _) | exact hK.out _ _ ⟨_, h4, rfl⟩ (bl_refl _) | exact hK.out _ _ ⟨_, h9, rfl⟩ (bl_refl _) | exact hK.out _ _ rfl (bl_refl _) | exact hK.out _ _ rfl (by assumption) | exact hK.out _ _ (by assumption) (by assumption)
    · cases ho
      have e5 : s 5 = _ := hs 5 (by decide) (by kernel_rfl)
      simp only [e5] at hK ⊢
      simp only [Act.put, List.setIfInBounds_toArray, List.set_cons_zero, List.set_cons_succ] at hK
      clear hs
      go_simp
      all_goals first | exact hK.out _ _ ⟨_, fv_res .mul .f64 _ _ _, rfl⟩ (by first | exact bl_refl _ | exact bl_drewN (bl_refl _) _) | exact hK.out _ _ ⟨_, h4, rfl⟩ (bl_refl _) | exact hK.out _ _ ⟨_, h9, rfl⟩ (bl_refl _) | exact hK.out _ _ rfl (bl_refl _) | exact hK.out _ _ rfl (by assumption) | exact hK.out _ _ (by assumption) (by assumption)
    · cases ho
      simp only [Act.put, List.setIfInBounds_toArray, List.set_cons_zero, List.set_cons_succ] at hK
      clear hs
      go_simp
      all_goals first | exact hK.out _ _ ⟨_, fv_res .mul .f64 _ _ _, rfl⟩ (by first | exact bl_refl _ | exact bl_drewN (bl_refl _) _) | exact hK.out _ _ ⟨_, h4, rfl⟩ (bl_refl _) | exact hK.out _ _ ⟨_, h9, rfl⟩ (bl_refl _) | exact hK.out _ _ rfl (bl_refl _) | exact hK.out _ _ rfl (by assumption) | exact hK.out _ _ (by assumption) (by assumption)
    · cases ho
      have e7 : s 7 = _ := hs 7 (by decide) (by kernel_rfl)
      simp only [e7] at hK ⊢
      simp only [Act.put, List.setIfInBounds_toArray, List.set_cons_zero, List.set_cons_succ] at hK
      clear hs
      go_simp
      all_goals first | exact hK.out _ _ ⟨_, fv_res .mul .f64 _ _ _, rfl⟩ (by first | exact bl_refl _ | exact bl_drewN (bl_refl _) _) | exact hK.out _ _ ⟨_, h4, rfl⟩ (bl_refl _) | exact hK.out _ _ ⟨_, h9, rfl⟩ (bl_refl _) | exact hK.out _ _ rfl (bl_refl _) | exact hK.out _ _ rfl (by assumption) | exact hK.out _ _ (by assumption) (by assumption)
    · cases ho
      have e6 : s 6 = _ := hs 6 (by decide) (by kernel_rfl)
      have e8 : s 8 = _ := hs 8 (by decide) (by kernel_rfl)
      simp only [e6, e8] at hK ⊢
      simp only [Act.put, List.setIfInBounds_toArray, List.set_cons_zero, List.set_cons_succ] at hK
      clear hs
      go_simp
      all_goals first | exact hK.out _ _ ⟨_, fv_res .mul .f64 _ _ _, rfl⟩ (by first | exact bl_refl _ | exact bl_drewN (bl_refl _) _) | exact hK.out _ _ ⟨_, h4, rfl⟩ (bl_refl _) | exact hK.out _ _ ⟨_, h9, rfl⟩ (bl_refl _) | exact hK.out _ _ rfl (bl_refl _) | exact hK.out _ _ rfl (by assumption) | exact hK.out _ _ (by assumption) (by assumption)
    · cases ho
      obtain ⟨p4, h4, e4⟩ := hs 4 (by decide) (by kernel_rfl)
      simp only [e4] at hK ⊢
      simp only [Act.put, List.setIfInBounds_toArray, List.set_cons_zero, List.set_cons_succ] at hK
      clear hs
      go_simp
      all_goals first | exact hK.out _ _ ⟨_, fv_res .mul .f64 _ _ _, rfl⟩ (by first | exact bl_refl _ | exact bl_drewN (bl_refl _) _) | exact hK.out _ _ ⟨_, h4, rfl⟩ (bl_refl _) | exact hK.out _ _ ⟨_, h9, rfl⟩ (bl_refl _) | exact hK.out _ _ rfl (bl_refl _) | exact hK.out _ _ rfl (by assumption) | exact hK.out _ _ (by assumption) (by assumption)
    · cases ho
      obtain ⟨p9, h9, e9⟩ := hs 9 (by decide) (by kernel_rfl)
      simp only [e9] at hK ⊢
      simp only [Act.put, List.setIfInBounds_toArray, List.set_cons_zero, List.set_cons_succ] at hK
      clear hs
      go_simp
      all_goals first | exact hK.out _ _ ⟨_, fv_res .mul .f64 _ _ _, rfl⟩ (by first | exact bl_refl _ | exact bl_drewN (bl_refl _) _) | exact hK.out _ _ ⟨_, h4, rfl⟩ (bl_refl _) | exact hK.out _ _ ⟨_, h9, rfl⟩ (bl_refl _) | exact hK.out _ _ rfl (bl_refl _) | exact hK.out _ _ rfl (by assumption) | exact hK.out _ _ (by assumption) (by assumption)
  case ht_wm =>
    intro s W hs hb
    have e0 : s 0 = _ := hs 0 (by decide)
    have e1 : s 1 = _ := hs 1 (by decide)
    have e2 : s 2 = _ := hs 2 (by decide)
    have e3 : s 3 = _ := hs 3 (by decide)
    obtain ⟨p4, h4, e4⟩ := hs 4 (by decide)
    have e5 : s 5 = _ := hs 5 (by decide)
    have e6 : s 6 = _ := hs 6 (by decide)
    have e7 : s 7 = _ := hs 7 (by decide)
    have e8 : s 8 = _ := hs 8 (by decide)
    obtain ⟨p9, h9, e9⟩ := hs 9 (by decide)
    obtain ⟨p10, h10, e10⟩ := hs 10 (by decide)
    obtain ⟨p11, h11, e11⟩ := hs 11 (by decide)
    simp only [e0, e1, e2, e3, e4, e5, e6, e7, e8, e9, e10, e11]
    clear hs e0 e1 e2 e3 e4 e5 e6 e7 e8 e9 e10 e11
    go_wp2
    go_ret
    refine ⟨_, (CrossR.is (ax := ax) (ay := ay) (bx := bx) (b_y := b_y) ⟨_, _, h10, h11, fv_res .sub .f64 _ _ _⟩ ha hb_), rfl, ?_⟩
    refine bl_trans B0 ?_
    repeat (first | exact bl_refl _ | assumption | apply bl_drewN | apply bl_drew | apply bl_alloc | refine bl_set ?_ (by simp <;> omega) | refine bl_trans ?_ (by assumption))

set_option maxRecDepth 100000 in
theorem more_n {ax ay q bx b_y Q : Nat} {A B : Vp} (w : World) (ha : isP ax ay A) (hq : isF q Q) (hb_ : isP bx b_y B) : Calls Try.prog 43 #[.agg #[.float .f64 ax, .float .f64 ay], .float .f64 q, .agg #[.float .f64 bx, .float .f64 b_y]] w fun e w' => ∃ x y, isP x y (moF A Q B) ∧ e = .returned (.agg #[.float .f64 x, .float .f64 y]) ∧ Bel w w' := by
  have q2 := run_add Try.prog
  have z0_0 : (w.alloc (.cells #[.float .f64 ax, .float .f64 ay] 24)).cell? ⟨w.heap.size, 0, none⟩ = some (.float .f64 ax) := by rw [World.cell?_alloc_new]; rfl
  replace z0_0 := up_alloc (o := .cells #[.float .f64 bx, .float .f64 b_y] 24) z0_0
  replace z0_0 := up_alloc (o := .cells #[.float .f64 0, .float .f64 0] 24) z0_0
  have z0_1 : (w.alloc (.cells #[.float .f64 ax, .float .f64 ay] 24)).cell? ⟨w.heap.size, 1, none⟩ = some (.float .f64 ay) := by rw [World.cell?_alloc_new]; rfl
  replace z0_1 := up_alloc (o := .cells #[.float .f64 bx, .float .f64 b_y] 24) z0_1
  replace z0_1 := up_alloc (o := .cells #[.float .f64 0, .float .f64 0] 24) z0_1
  have z1_0 : ((w.alloc (.cells #[.float .f64 ax, .float .f64 ay] 24)).alloc (.cells #[.float .f64 bx, .float .f64 b_y] 24)).cell? ⟨w.heap.size + 1, 0, none⟩ = some (.float .f64 bx) := by rw [← (show (w.alloc (.cells #[.float .f64 ax, .float .f64 ay] 24)).heap.size = w.heap.size + 1 by simp only [World.size_alloc]), World.cell?_alloc_new]; rfl
  replace z1_0 := up_alloc (o := .cells #[.float .f64 0, .float .f64 0] 24) z1_0
  have z1_1 : ((w.alloc (.cells #[.float .f64 ax, .float .f64 ay] 24)).alloc (.cells #[.float .f64 bx, .float .f64 b_y] 24)).cell? ⟨w.heap.size + 1, 1, none⟩ = some (.float .f64 b_y) := by rw [← (show (w.alloc (.cells #[.float .f64 ax, .float .f64 ay] 24)).heap.size = w.heap.size + 1 by simp only [World.size_alloc]), World.cell?_alloc_new]; rfl
  replace z1_1 := up_alloc (o := .cells #[.float .f64 0, .float .f64 0] 24) z1_1
  have z2_0 : (((w.alloc (.cells #[.float .f64 ax, .float .f64 ay] 24)).alloc (.cells #[.float .f64 bx, .float .f64 b_y] 24)).alloc (.cells #[.float .f64 0, .float .f64 0] 24)).cell? ⟨w.heap.size + 1 + 1, 0, none⟩ = some (.float .f64 0) := by rw [← (show ((w.alloc (.cells #[.float .f64 ax, .float .f64 ay] 24)).alloc (.cells #[.float .f64 bx, .float .f64 b_y] 24)).heap.size = w.heap.size + 1 + 1 by simp only [World.size_alloc]), World.cell?_alloc_new]; rfl
  have z2_1 : (((w.alloc (.cells #[.float .f64 ax, .float .f64 ay] 24)).alloc (.cells #[.float .f64 bx, .float .f64 b_y] 24)).alloc (.cells #[.float .f64 0, .float .f64 0] 24)).cell? ⟨w.heap.size + 1 + 1, 1, none⟩ = some (.float .f64 0) := by rw [← (show ((w.alloc (.cells #[.float .f64 ax, .float .f64 ay] 24)).alloc (.cells #[.float .f64 bx, .float .f64 b_y] 24)).heap.size = w.heap.size + 1 + 1 by simp only [World.size_alloc]), World.cell?_alloc_new]; rfl
  have B0 : Bel w (((w.alloc (.cells #[.float .f64 ax, .float .f64 ay] 24)).alloc (.cells #[.float .f64 bx, .float .f64 b_y] 24)).alloc (.cells #[.float .f64 0, .float .f64 0] 24)) := bl_alloc (bl_alloc (bl_alloc (bl_refl w) _ _) _ _) _ _
  have fR : ∀ o, (((w.alloc (.cells #[.float .f64 ax, .float .f64 ay] 24)).alloc (.cells #[.float .f64 bx, .float .f64 b_y] 24)).alloc (.cells #[.float .f64 0, .float .f64 0] 24)).frozen? ⟨w.heap.size + 1 + 1, o, none⟩ = false := fun o => ((show Bel ((w.alloc (.cells #[.float .f64 ax, .float .f64 ay] 24)).alloc (.cells #[.float .f64 bx, .float .f64 b_y] 24)) (((w.alloc (.cells #[.float .f64 ax, .float .f64 ay] 24)).alloc (.cells #[.float .f64 bx, .float .f64 b_y] 24)).alloc (.cells #[.float .f64 0, .float .f64 0] 24)) by repeat (first | exact bl_refl _ | apply bl_alloc)).2 _).trans (fresh_frozen (by simp only [World.size_alloc]; exact Nat.le_refl _))
  go_enter Try.func43, Try.ntmps43
  go_wp2
  refine wp_region_mono 10 rfl (fun i W v => match i with | 0 => v = .float .f64 q | 1 => v = .pointer (some ⟨w.heap.size + 1, 0, none⟩) | 2 => v = .float .f64 bx | 3 => ∃ p, resK .mul .f64 q bx p ∧ v = .float .f64 p | 4 => v = .float .f64 q | 5 => v = .pointer (some ⟨w.heap.size + 1, 1, none⟩) | 6 => v = .float .f64 b_y | 7 => ∃ p, resK .mul .f64 q b_y p ∧ v = .float .f64 p | 8 => ∃ p, resK .mul .f64 q bx p ∧ v = .float .f64 p | 9 => ∃ p, resK .mul .f64 q b_y p ∧ v = .float .f64 p | _ => False) ?A_wm (by kernel_rfl) (by kernel_rfl) ?hA_wm ?hmo_wm ?hq_wm ?ht_wm
  case hA_wm =>
    intro s
    simp only [putL, dstO, Act.put, List.getElem?_toArray, List.getElem?_cons_zero, List.getElem?_cons_succ, Option.bind_some, List.setIfInBounds_toArray, List.set_cons_zero, List.set_cons_succ, if_true]
    all_goals exact rfl
  case hmo_wm =>
    intro i W W' v hi hb h
    rcases (show i = 0 ∨ i = 1 ∨ i = 2 ∨ i = 3 ∨ i = 4 ∨ i = 5 ∨ i = 6 ∨ i = 7 ∨ i = 8 ∨ i = 9 by omega) with rfl | rfl | rfl | rfl | rfl | rfl | rfl | rfl | rfl | rfl
    all_goals first | exact h
  case hq_wm =>
    intro i o hi ho s W hs hb K hK
    have q1 := run_mul Try.prog; have uz0_0 := keep hb z0_0; have uz0_1 := keep hb z0_1; have uz1_0 := keep hb z1_0; have uz1_1 := keep hb z1_1; have uz2_0 := keep hb z2_0; have uz2_1 := keep hb z2_1
    rcases (show i = 0 ∨ i = 1 ∨ i = 2 ∨ i = 3 ∨ i = 4 ∨ i = 5 ∨ i = 6 ∨ i = 7 ∨ i = 8 ∨ i = 9 by omega) with rfl | rfl | rfl | rfl | rfl | rfl | rfl | rfl | rfl | rfl
    · cases ho
      simp only [Act.put, List.setIfInBounds_toArray, List.set_cons_zero, List.set_cons_succ] at hK
      clear hs
      go_simp
      all_goals first | exact hK.out _ _ ⟨_, fv_res .mul .f64 _ _ _, rfl⟩ (by first | exact bl_refl _ | exact bl_drewN (bl_refl _) _) | exact hK.out _ _ ⟨_, h3, rfl⟩ (bl_refl _) | exact hK.out _ _ ⟨_, h7, rfl⟩ (bl_refl _) | exact hK.out _ _ rfl (bl_refl _) | exact hK.out _ _ rfl (by assumption) | exact hK.out _ _ (by assumption) (by assumption)
    · cases ho
      simp only [Act.put, List.setIfInBounds_toArray, List.set_cons_zero, List.set_cons_succ] at hK
      clear hs
      go_simp
      all_goals first | exact hK.out _ _ ⟨_, fv_res .mul .f64 _ _ _, rfl⟩ (by first | exact bl_refl _ | exact bl_drewN (bl_refl _) _) | exact hK.out _ _ ⟨_, h3, rfl⟩ (bl_refl _) | exact hK.out _ _ ⟨_, h7, rfl⟩ (bl_refl _) | exact hK.out _ _ rfl (bl_refl _) | exact hK.out _ _ rfl (by assumption) | exact hK.out _ _ (by assumption) (by assumption)
    · cases ho
      have e1 : s 1 = _ := hs 1 (by decide) (by kernel_rfl)
      simp only [e1] at hK ⊢
      simp only [Act.put, List.setIfInBounds_toArray, List.set_cons_zero, List.set_cons_succ] at hK
      clear hs
      go_simp
      all_goals first | exact hK.out _ _ ⟨_, fv_res .mul .f64 _ _ _, rfl⟩ (by first | exact bl_refl _ | exact bl_drewN (bl_refl _) _) | exact hK.out _ _ ⟨_, h3, rfl⟩ (bl_refl _) | exact hK.out _ _ ⟨_, h7, rfl⟩ (bl_refl _) | exact hK.out _ _ rfl (bl_refl _) | exact hK.out _ _ rfl (by assumption) | exact hK.out _ _ (by assumption) (by assumption)
    · cases ho
      have e0 : s 0 = _ := hs 0 (by decide) (by kernel_rfl)
      have e2 : s 2 = _ := hs 2 (by decide) (by kernel_rfl)
      simp only [e0, e2] at hK ⊢
      simp only [Act.put, List.setIfInBounds_toArray, List.set_cons_zero, List.set_cons_succ] at hK
      clear hs
      go_simp
      all_goals first | exact hK.out _ _ ⟨_, fv_res .mul .f64 _ _ _, rfl⟩ (by first | exact bl_refl _ | exact bl_drewN (bl_refl _) _) | exact hK.out _ _ ⟨_, h3, rfl⟩ (bl_refl _) | exact hK.out _ _ ⟨_, h7, rfl⟩ (bl_refl _) | exact hK.out _ _ rfl (bl_refl _) | exact hK.out _ _ rfl (by assumption) | exact hK.out _ _ (by assumption) (by assumption)
    · cases ho
      simp only [Act.put, List.setIfInBounds_toArray, List.set_cons_zero, List.set_cons_succ] at hK
      clear hs
      go_simp
      all_goals first | exact hK.out _ _ ⟨_, fv_res .mul .f64 _ _ _, rfl⟩ (by first | exact bl_refl _ | exact bl_drewN (bl_refl _) _) | exact hK.out _ _ ⟨_, h3, rfl⟩ (bl_refl _) | exact hK.out _ _ ⟨_, h7, rfl⟩ (bl_refl _) | exact hK.out _ _ rfl (bl_refl _) | exact hK.out _ _ rfl (by assumption) | exact hK.out _ _ (by assumption) (by assumption)
    · cases ho
      simp only [Act.put, List.setIfInBounds_toArray, List.set_cons_zero, List.set_cons_succ] at hK
      clear hs
      go_simp
      all_goals first | exact hK.out _ _ ⟨_, fv_res .mul .f64 _ _ _, rfl⟩ (by first | exact bl_refl _ | exact bl_drewN (bl_refl _) _) | exact hK.out _ _ ⟨_, h3, rfl⟩ (bl_refl _) | exact hK.out _ _ ⟨_, h7, rfl⟩ (bl_refl _) | exact hK.out _ _ rfl (bl_refl _) | exact hK.out _ _ rfl (by assumption) | exact hK.out _ _ (by assumption) (by assumption)
    · cases ho
      have e5 : s 5 = _ := hs 5 (by decide) (by kernel_rfl)
      simp only [e5] at hK ⊢
      simp only [Act.put, List.setIfInBounds_toArray, List.set_cons_zero, List.set_cons_succ] at hK
      clear hs
      go_simp
      all_goals first | exact hK.out _ _ ⟨_, fv_res .mul .f64 _ _ _, rfl⟩ (by first | exact bl_refl _ | exact bl_drewN (bl_refl _) _) | exact hK.out _ _ ⟨_, h3, rfl⟩ (bl_refl _) | exact hK.out _ _ ⟨_, h7, rfl⟩ (bl_refl _) | exact hK.out _ _ rfl (bl_refl _) | exact hK.out _ _ rfl (by assumption) | exact hK.out _ _ (by assumption) (by assumption)
    · cases ho
      have e4 : s 4 = _ := hs 4 (by decide) (by kernel_rfl)
      have e6 : s 6 = _ := hs 6 (by decide) (by kernel_rfl)
      simp only [e4, e6] at hK ⊢
      simp only [Act.put, List.setIfInBounds_toArray, List.set_cons_zero, List.set_cons_succ] at hK
      clear hs
      go_simp
      all_goals first | exact hK.out _ _ ⟨_, fv_res .mul .f64 _ _ _, rfl⟩ (by first | exact bl_refl _ | exact bl_drewN (bl_refl _) _) | exact hK.out _ _ ⟨_, h3, rfl⟩ (bl_refl _) | exact hK.out _ _ ⟨_, h7, rfl⟩ (bl_refl _) | exact hK.out _ _ rfl (bl_refl _) | exact hK.out _ _ rfl (by assumption) | exact hK.out _ _ (by assumption) (by assumption)
    · cases ho
      obtain ⟨p3, h3, e3⟩ := hs 3 (by decide) (by kernel_rfl)
      simp only [e3] at hK ⊢
      simp only [Act.put, List.setIfInBounds_toArray, List.set_cons_zero, List.set_cons_succ] at hK
      clear hs
      go_simp
      all_goals first | exact hK.out _ _ ⟨_, fv_res .mul .f64 _ _ _, rfl⟩ (by first | exact bl_refl _ | exact bl_drewN (bl_refl _) _) | exact hK.out _ _ ⟨_, h3, rfl⟩ (bl_refl _) | exact hK.out _ _ ⟨_, h7, rfl⟩ (bl_refl _) | exact hK.out _ _ rfl (bl_refl _) | exact hK.out _ _ rfl (by assumption) | exact hK.out _ _ (by assumption) (by assumption)
    · cases ho
      obtain ⟨p7, h7, e7⟩ := hs 7 (by decide) (by kernel_rfl)
      simp only [e7] at hK ⊢
      simp only [Act.put, List.setIfInBounds_toArray, List.set_cons_zero, List.set_cons_succ] at hK
      clear hs
      go_simp
      all_goals first | exact hK.out _ _ ⟨_, fv_res .mul .f64 _ _ _, rfl⟩ (by first | exact bl_refl _ | exact bl_drewN (bl_refl _) _) | exact hK.out _ _ ⟨_, h3, rfl⟩ (bl_refl _) | exact hK.out _ _ ⟨_, h7, rfl⟩ (bl_refl _) | exact hK.out _ _ rfl (bl_refl _) | exact hK.out _ _ rfl (by assumption) | exact hK.out _ _ (by assumption) (by assumption)
  case ht_wm =>
    intro s W hs hb
    have e0 : s 0 = _ := hs 0 (by decide)
    have e1 : s 1 = _ := hs 1 (by decide)
    have e2 : s 2 = _ := hs 2 (by decide)
    obtain ⟨p3, h3, e3⟩ := hs 3 (by decide)
    have e4 : s 4 = _ := hs 4 (by decide)
    have e5 : s 5 = _ := hs 5 (by decide)
    have e6 : s 6 = _ := hs 6 (by decide)
    obtain ⟨p7, h7, e7⟩ := hs 7 (by decide)
    obtain ⟨p8, h8, e8⟩ := hs 8 (by decide)
    obtain ⟨p9, h9, e9⟩ := hs 9 (by decide)
    simp only [e0, e1, e2, e3, e4, e5, e6, e7, e8, e9]
    clear hs e0 e1 e2 e3 e4 e5 e6 e7 e8 e9
    have fR : ∀ o, W.frozen? ⟨w.heap.size + 1 + 1, o, none⟩ = false := fun o => (hb.2 _).trans (fR o)
    replace z0_0 := keep hb z0_0; replace z0_1 := keep hb z0_1; replace z1_0 := keep hb z1_0; replace z1_1 := keep hb z1_1; replace z2_0 := keep hb z2_0; replace z2_1 := keep hb z2_1
    have B1 := bl_trans B0 hb
    go_wp2
    refine bodyPost_ret (v := .agg #[.float .f64 _, .float .f64 _]) (by simp [z2_0, z2_1, results, Try.results43, go_sem] <;> (first | exact ⟨rfl, rfl⟩ | rfl)) rfl ⟨_, _, (MoreR.is (ax := ax) (ay := ay) (s := q) (bx := bx) (b_y := b_y) ⟨_, _, h8, h9, fv_res .add .f64 _ _ _, fv_res .add .f64 _ _ _⟩ ha hq hb_), rfl, ?_⟩
    repeat (first | exact bl_refl _ | assumption | apply bl_drewN | apply bl_drew | apply bl_alloc | refine bl_set ?_ (by simp <;> omega) | refine bl_trans ?_ (by assumption))
theorem length_n {ax ay : Nat} {A : Vp} (w : World) (ha : isP ax ay A) : Calls Try.prog 51 #[.agg #[.float .f64 ax, .float .f64 ay]] w fun e w' => ∃ r, isF r (lnF A) ∧ e = .returned (.float .f64 r) ∧ Bel w w' := by
  go_enter Try.func51, Try.ntmps51
  go_wp2_with (first | (go_at_call 41; refine (dot_n _ ha ha).mono ?_; rintro e w' ⟨r, hr, rfl, hb⟩) | (go_at_call 67; refine (sqrt_any _ _).mono ?_; rintro e w' ⟨r2, n, hr2, rfl, rfl⟩))
  go_ret
  refine ⟨_, ⟨hr2.1, by rw [sq_n hr2, hr.2]; rfl⟩, rfl, ?_⟩
  repeat (first | exact bl_refl _ | assumption | apply bl_drewN | apply bl_drew | apply bl_alloc | refine bl_set ?_ (by simp <;> omega) | refine bl_trans ?_ (by assumption))

end Go.Proofs.Ytpnkmflkjokhlaa
