/-
  What each function of package poly answers, and what the reference of its chapter answers: one contract a function, for every float: the answer stands in the relation of its formula to what was given; of the memory that was there nothing has turned.
-/
import Derived.Test.YtpedpgpgcmhnoaaVec
import Derived.Test.YtpedpgpgcmhnoaaDe
import Derived.Test.YtpedpgpgcmhnoaaOnc5
import Derived.Below
import Derived.OwnWalk
import Derived.Laws.AppendOwn
import Derived.Laws.StructEq
import Derived.LoopN
import Derived.WalkKit
import Derived.WalkLawsBesides
import Derived.WalkSpells
import Derived.ProofKit
import Derived.OpenShut
import Derived.Deep.RegionHeld3
namespace Go.Proofs.Ytpedpgpgcmhnoaa
open Go.ChangeShapes Go.WideShapes Go.ChangeAt Go.RowKit
set_option linter.unusedVariables false
set_option linter.unusedSimpArgs false


set_option maxRecDepth 100000 in
set_option maxHeartbeats 4000000 in
theorem awake9 (w : World) : Calls Try.prog 9 #[] w fun e w' => e = .returned (.bool true) ∧ Bel w w' := by
  have o1 : okK .f64 4607182418800017408 := by rw [okK64]; decide
  have o0 : okK .f64 0 := by rw [okK64]; decide
  have c1 := cmp_eq .f64
  have qe := run_eqv
  have e1 : eqK .f64 4611686018427387904 4611686018427387904 = true := by decide +kernel
  have e2 : eqK .f64 4607182418800017408 4607182418800017408 = true := by decide +kernel
  have z0 : (w.alloc (.cells #[.float .f64 4607182418800017408, .float .f64 0, .float .f64 4607182418800017408] 26)).cell? ⟨w.heap.size, 0, none⟩ = some (.float .f64 4607182418800017408) := by rw [World.cell?_alloc_new]; rfl
  have z1 : (w.alloc (.cells #[.float .f64 4607182418800017408, .float .f64 0, .float .f64 4607182418800017408] 26)).cell? ⟨w.heap.size, 1, none⟩ = some (.float .f64 0) := by rw [World.cell?_alloc_new]; rfl
  have z2 : (w.alloc (.cells #[.float .f64 4607182418800017408, .float .f64 0, .float .f64 4607182418800017408] 26)).cell? ⟨w.heap.size, 2, none⟩ = some (.float .f64 4607182418800017408) := by rw [World.cell?_alloc_new]; rfl
  have B0 : Bel w (w.alloc (.cells #[.float .f64 4607182418800017408, .float .f64 0, .float .f64 4607182418800017408] 26)) := bl_alloc (bl_refl w) _ _
  have FD := fun W => cfar_d 4607182418800017408 0 4607182418800017408 4613937818241073152 4621256167635550208 W o1 o0 o1 (by rw [okK64]; decide) (by rw [okK64]; decide)
  rw [k9_far.1, k9_far.2] at FD
  have SD := fun W => seg_10 4607182418800017408 0 4607182418800017408 0 0 4616189618054758400 4616189618054758400 W o1 o0 o1 o0 o0 (by rw [okK64]; decide) (by rw [okK64]; decide) k9_seg.1 k9_seg.2.1 k9_seg.2.2.1
  rw [k9_seg.2.2.2] at SD
  go_enter Try.func9, Try.ntmps9
  go_wp2_with (first | (go_at_call 16; refine (FD _).mono ?_; rintro e w_1 ⟨rfl, hb1⟩; replace z0 := keep hb1 z0; replace z1 := keep hb1 z1; replace z2 := keep hb1 z2; have B1 := bl_trans B0 hb1) | (go_at_call 13; refine (SD _).mono ?_; rintro e w_2 ⟨v, g2, rfl, hF, hg2, hvg, f0, f1, hfz, hb2⟩; obtain ⟨g1, rfl, h11, S1, h13⟩ := hF; replace z0 := keep hb2 z0; replace z1 := keep hb2 z1; replace z2 := keep hb2 z2; have B2 := bl_trans B1 hb2))
  have B3 := B2
  have S1 : Sl w_2 g1 0 2 (px [(0, 0), (4607182418800017408, 4607182418800017408)]) (py [(0, 0), (4607182418800017408, 4607182418800017408)]) := S1
  refine wp_region_mono 8 rfl (fun i W v => match i with | 0 => v = .agg #[.float .f64 4607182418800017408, .float .f64 0, .float .f64 4607182418800017408] | 1 => ∃ b, v = .slice (some ⟨b, 0, none⟩) 4 4 ∧ Sl W b 0 4 (px sq9) (py sq9) | 2 => ∃ u, v = .tuple #[u, .int .i64 0] ∧ NewS w.heap.size W u lf9 | 3 => ∃ u, v = .tuple #[u, .int .i64 0] ∧ NewS w.heap.size W u lf9 | 4 => ∃ u, v = u ∧ NewS w.heap.size W u lf9 | 5 => v = .int .i64 0 | 6 => ∃ u, v = u ∧ NewS w.heap.size W u lf9 | 7 => v = .int .i64 0 | _ => False) ?A_w4 (by kernel_rfl) (by kernel_rfl) ?hA_w4 ?hmo_w4 ?hq_w4 ?ht_w4
  case hA_w4 =>
    intro s
    simp only [putL, dstO, Act.put, List.getElem?_toArray, List.getElem?_cons_zero, List.getElem?_cons_succ, Option.bind_some, List.setIfInBounds_toArray, List.set_cons_zero, List.set_cons_succ, if_true]
    all_goals exact rfl
  case hmo_w4 =>
    intro i W W' v hi hb h
    rcases (show i = 0 ∨ i = 1 ∨ i = 2 ∨ i = 3 ∨ i = 4 ∨ i = 5 ∨ i = 6 ∨ i = 7 by omega) with rfl | rfl | rfl | rfl | rfl | rfl | rfl | rfl
    all_goals first | exact h | (obtain ⟨b, e4, hS⟩ := h; exact ⟨b, e4, hS.bel hb⟩)
  case hq_w4 =>
    intro i o hi ho s W hs hb K hK
    have u0 := keep hb z0; have u1 := keep hb z1; have u2 := keep hb z2; have zW := (bl_trans B3 hb).size
    rcases (show i = 0 ∨ i = 1 ∨ i = 2 ∨ i = 3 ∨ i = 4 ∨ i = 5 ∨ i = 6 ∨ i = 7 by omega) with rfl | rfl | rfl | rfl | rfl | rfl | rfl | rfl
    · cases ho
      simp only [Act.put, List.setIfInBounds_toArray, List.set_cons_zero, List.set_cons_succ] at hK
      clear hs
      go_simp
      all_goals (try go_wp2_with (first | (go_at_call 44; refine (square9 _).mono ?_; rintro e w_q ⟨bq, rfl, hSq, hb1⟩) | (go_at_call 15; have PD := polygon_d 4607182418800017408 0 4607182418800017408 (.slice (some ⟨bq, 0, none⟩) 4 4) 4 (px sq9) (py sq9) W o1 o0 o1 ⟨_, 4, rfl, Nat.le_refl _, by unfold maxLen; omega, by decide, sq9_ok, .inr ⟨by decide, bq, 0, rfl, hSq⟩⟩; rw [k9_pol.1, k9_pol.2] at PD; refine PD.mono ?_; rintro e w_p ⟨u, rfl, hN, hb1⟩)))
      all_goals first | exact hK.out _ _ ⟨_, rfl, hSq⟩ hb1 | exact hK.out _ _ ⟨_, rfl, hN.low zW⟩ hb1 | exact hK.out _ _ ⟨_, rfl, hN⟩ (bl_refl _) | exact hK.out _ _ rfl (bl_refl _) | exact hK.out _ _ rfl (bl_refl _) | exact hK.out _ _ rfl (by assumption) | exact hK.out _ _ (by assumption) (by assumption)
    · cases ho
      simp only [Act.put, List.setIfInBounds_toArray, List.set_cons_zero, List.set_cons_succ] at hK
      clear hs
      go_simp
      all_goals (try go_wp2_with (first | (go_at_call 44; refine (square9 _).mono ?_; rintro e w_q ⟨bq, rfl, hSq, hb1⟩) | (go_at_call 15; have PD := polygon_d 4607182418800017408 0 4607182418800017408 (.slice (some ⟨bq, 0, none⟩) 4 4) 4 (px sq9) (py sq9) W o1 o0 o1 ⟨_, 4, rfl, Nat.le_refl _, by unfold maxLen; omega, by decide, sq9_ok, .inr ⟨by decide, bq, 0, rfl, hSq⟩⟩; rw [k9_pol.1, k9_pol.2] at PD; refine PD.mono ?_; rintro e w_p ⟨u, rfl, hN, hb1⟩)))
      all_goals first | exact hK.out _ _ ⟨_, rfl, hSq⟩ hb1 | exact hK.out _ _ ⟨_, rfl, hN.low zW⟩ hb1 | exact hK.out _ _ ⟨_, rfl, hN⟩ (bl_refl _) | exact hK.out _ _ rfl (bl_refl _) | exact hK.out _ _ rfl (bl_refl _) | exact hK.out _ _ rfl (by assumption) | exact hK.out _ _ (by assumption) (by assumption)
    · cases ho
      have e0 : s 0 = _ := hs 0 (by decide) (by kernel_rfl)
      obtain ⟨bq, e1, hSq⟩ := hs 1 (by decide) (by kernel_rfl)
      simp only [e0, e1] at hK ⊢
      simp only [Act.put, List.setIfInBounds_toArray, List.set_cons_zero, List.set_cons_succ] at hK
      clear hs
      go_simp
      all_goals (try go_wp2_with (first | (go_at_call 44; refine (square9 _).mono ?_; rintro e w_q ⟨bq, rfl, hSq, hb1⟩) | (go_at_call 15; have PD := polygon_d 4607182418800017408 0 4607182418800017408 (.slice (some ⟨bq, 0, none⟩) 4 4) 4 (px sq9) (py sq9) W o1 o0 o1 ⟨_, 4, rfl, Nat.le_refl _, by unfold maxLen; omega, by decide, sq9_ok, .inr ⟨by decide, bq, 0, rfl, hSq⟩⟩; rw [k9_pol.1, k9_pol.2] at PD; refine PD.mono ?_; rintro e w_p ⟨u, rfl, hN, hb1⟩)))
      all_goals first | exact hK.out _ _ ⟨_, rfl, hSq⟩ hb1 | exact hK.out _ _ ⟨_, rfl, hN.low zW⟩ hb1 | exact hK.out _ _ ⟨_, rfl, hN⟩ (bl_refl _) | exact hK.out _ _ rfl (bl_refl _) | exact hK.out _ _ rfl (bl_refl _) | exact hK.out _ _ rfl (by assumption) | exact hK.out _ _ (by assumption) (by assumption)
    · cases ho
      obtain ⟨u, e2, hN⟩ := hs 2 (by decide) (by kernel_rfl)
      simp only [e2] at hK ⊢
      simp only [Act.put, List.setIfInBounds_toArray, List.set_cons_zero, List.set_cons_succ] at hK
      clear hs
      go_simp
      all_goals (try go_wp2_with (first | (go_at_call 44; refine (square9 _).mono ?_; rintro e w_q ⟨bq, rfl, hSq, hb1⟩) | (go_at_call 15; have PD := polygon_d 4607182418800017408 0 4607182418800017408 (.slice (some ⟨bq, 0, none⟩) 4 4) 4 (px sq9) (py sq9) W o1 o0 o1 ⟨_, 4, rfl, Nat.le_refl _, by unfold maxLen; omega, by decide, sq9_ok, .inr ⟨by decide, bq, 0, rfl, hSq⟩⟩; rw [k9_pol.1, k9_pol.2] at PD; refine PD.mono ?_; rintro e w_p ⟨u, rfl, hN, hb1⟩)))
      all_goals first | exact hK.out _ _ ⟨_, rfl, hSq⟩ hb1 | exact hK.out _ _ ⟨_, rfl, hN.low zW⟩ hb1 | exact hK.out _ _ ⟨_, rfl, hN⟩ (bl_refl _) | exact hK.out _ _ rfl (bl_refl _) | exact hK.out _ _ rfl (bl_refl _) | exact hK.out _ _ rfl (by assumption) | exact hK.out _ _ (by assumption) (by assumption)
    · cases ho
      obtain ⟨u, e3, hN⟩ := hs 3 (by decide) (by kernel_rfl)
      simp only [e3] at hK ⊢
      simp only [Act.put, List.setIfInBounds_toArray, List.set_cons_zero, List.set_cons_succ] at hK
      clear hs
      go_simp
      all_goals (try go_wp2_with (first | (go_at_call 44; refine (square9 _).mono ?_; rintro e w_q ⟨bq, rfl, hSq, hb1⟩) | (go_at_call 15; have PD := polygon_d 4607182418800017408 0 4607182418800017408 (.slice (some ⟨bq, 0, none⟩) 4 4) 4 (px sq9) (py sq9) W o1 o0 o1 ⟨_, 4, rfl, Nat.le_refl _, by unfold maxLen; omega, by decide, sq9_ok, .inr ⟨by decide, bq, 0, rfl, hSq⟩⟩; rw [k9_pol.1, k9_pol.2] at PD; refine PD.mono ?_; rintro e w_p ⟨u, rfl, hN, hb1⟩)))
      all_goals first | exact hK.out _ _ ⟨_, rfl, hSq⟩ hb1 | exact hK.out _ _ ⟨_, rfl, hN.low zW⟩ hb1 | exact hK.out _ _ ⟨_, rfl, hN⟩ (bl_refl _) | exact hK.out _ _ rfl (bl_refl _) | exact hK.out _ _ rfl (bl_refl _) | exact hK.out _ _ rfl (by assumption) | exact hK.out _ _ (by assumption) (by assumption)
    · cases ho
      obtain ⟨u, e3, hN⟩ := hs 3 (by decide) (by kernel_rfl)
      simp only [e3] at hK ⊢
      simp only [Act.put, List.setIfInBounds_toArray, List.set_cons_zero, List.set_cons_succ] at hK
      clear hs
      go_simp
      all_goals (try go_wp2_with (first | (go_at_call 44; refine (square9 _).mono ?_; rintro e w_q ⟨bq, rfl, hSq, hb1⟩) | (go_at_call 15; have PD := polygon_d 4607182418800017408 0 4607182418800017408 (.slice (some ⟨bq, 0, none⟩) 4 4) 4 (px sq9) (py sq9) W o1 o0 o1 ⟨_, 4, rfl, Nat.le_refl _, by unfold maxLen; omega, by decide, sq9_ok, .inr ⟨by decide, bq, 0, rfl, hSq⟩⟩; rw [k9_pol.1, k9_pol.2] at PD; refine PD.mono ?_; rintro e w_p ⟨u, rfl, hN, hb1⟩)))
      all_goals first | exact hK.out _ _ ⟨_, rfl, hSq⟩ hb1 | exact hK.out _ _ ⟨_, rfl, hN.low zW⟩ hb1 | exact hK.out _ _ ⟨_, rfl, hN⟩ (bl_refl _) | exact hK.out _ _ rfl (bl_refl _) | exact hK.out _ _ rfl (bl_refl _) | exact hK.out _ _ rfl (by assumption) | exact hK.out _ _ (by assumption) (by assumption)
    · cases ho
      obtain ⟨u, e4, hN⟩ := hs 4 (by decide) (by kernel_rfl)
      simp only [e4] at hK ⊢
      simp only [Act.put, List.setIfInBounds_toArray, List.set_cons_zero, List.set_cons_succ] at hK
      clear hs
      go_simp
      all_goals (try go_wp2_with (first | (go_at_call 44; refine (square9 _).mono ?_; rintro e w_q ⟨bq, rfl, hSq, hb1⟩) | (go_at_call 15; have PD := polygon_d 4607182418800017408 0 4607182418800017408 (.slice (some ⟨bq, 0, none⟩) 4 4) 4 (px sq9) (py sq9) W o1 o0 o1 ⟨_, 4, rfl, Nat.le_refl _, by unfold maxLen; omega, by decide, sq9_ok, .inr ⟨by decide, bq, 0, rfl, hSq⟩⟩; rw [k9_pol.1, k9_pol.2] at PD; refine PD.mono ?_; rintro e w_p ⟨u, rfl, hN, hb1⟩)))
      all_goals first | exact hK.out _ _ ⟨_, rfl, hSq⟩ hb1 | exact hK.out _ _ ⟨_, rfl, hN.low zW⟩ hb1 | exact hK.out _ _ ⟨_, rfl, hN⟩ (bl_refl _) | exact hK.out _ _ rfl (bl_refl _) | exact hK.out _ _ rfl (bl_refl _) | exact hK.out _ _ rfl (by assumption) | exact hK.out _ _ (by assumption) (by assumption)
    · cases ho
      have e5 : s 5 = _ := hs 5 (by decide) (by kernel_rfl)
      simp only [e5] at hK ⊢
      simp only [Act.put, List.setIfInBounds_toArray, List.set_cons_zero, List.set_cons_succ] at hK
      clear hs
      go_simp
      all_goals (try go_wp2_with (first | (go_at_call 44; refine (square9 _).mono ?_; rintro e w_q ⟨bq, rfl, hSq, hb1⟩) | (go_at_call 15; have PD := polygon_d 4607182418800017408 0 4607182418800017408 (.slice (some ⟨bq, 0, none⟩) 4 4) 4 (px sq9) (py sq9) W o1 o0 o1 ⟨_, 4, rfl, Nat.le_refl _, by unfold maxLen; omega, by decide, sq9_ok, .inr ⟨by decide, bq, 0, rfl, hSq⟩⟩; rw [k9_pol.1, k9_pol.2] at PD; refine PD.mono ?_; rintro e w_p ⟨u, rfl, hN, hb1⟩)))
      all_goals first | exact hK.out _ _ ⟨_, rfl, hSq⟩ hb1 | exact hK.out _ _ ⟨_, rfl, hN.low zW⟩ hb1 | exact hK.out _ _ ⟨_, rfl, hN⟩ (bl_refl _) | exact hK.out _ _ rfl (bl_refl _) | exact hK.out _ _ rfl (bl_refl _) | exact hK.out _ _ rfl (by assumption) | exact hK.out _ _ (by assumption) (by assumption)
  case ht_w4 =>
    intro s W4 hs hb4
    have e0 : s 0 = _ := hs 0 (by decide)
    obtain ⟨_, e1, _⟩ := hs 1 (by decide)
    obtain ⟨_, e2, _⟩ := hs 2 (by decide)
    obtain ⟨_, e3, _⟩ := hs 3 (by decide)
    obtain ⟨_, e4, _⟩ := hs 4 (by decide)
    have e5 : s 5 = _ := hs 5 (by decide)
    obtain ⟨u7, e6, hN7⟩ := hs 6 (by decide)
    have e7 : s 7 = _ := hs 7 (by decide)
    simp only [e0, e1, e2, e3, e4, e5, e6, e7]
    clear hs e0 e1 e2 e3 e4 e5 e6 e7
    obtain ⟨g7, rfl, h71, h72, h73⟩ := hN7.some (by decide)
    have B4 := bl_trans B3 hb4
    replace S1 := S1.bel hb4
    replace f1 := keep hb4 f1
    clear hb4
    go_wp2_with (first | (have zn := m5; clear zn; go_at_call 44; refine (square9 _).mono ?_; rintro e w_6 ⟨b6, rfl, hS6, hb6⟩; have B6 := bl_trans B5 hb6; have OTS := ot9_laid w_6; have m6 := hide True.intro) | (go_at_call 44; refine (square9 _).mono ?_; rintro e w_5 ⟨b5, rfl, hS5, hb5⟩; have B5 := bl_trans B4 hb5; replace S1 := S1.bel hb5; replace f1 := keep hb5 f1; replace h72 := h72.bel hb5) | (go_at_call 19; refine (sides_ok b5 0 4 4 (px sq9) (py sq9) w_5 hS5 sq9_ok (by decide) (by unfold maxLen; omega) (Nat.le_refl _) k9_chk.1).mono ?_; rintro e w_5s ⟨r5, rfl, hr5, hP5, hb5s⟩; have B5 := bl_trans B5 hb5s; replace S1 := S1.bel hb5s; replace f1 := keep hb5s f1; replace h72 := h72.bel hb5s; have m5 := hide True.intro) | (go_at_call 20; have BD := both_ok b6 0 4 4 w_6.heap.size 0 4 4 (px sq9) (py sq9) (px ot9) (py ot9) (w_6.alloc (.cells #[.float .f64 4617315517961601024, .float .f64 0, .float .f64 4619567317775286272, .float .f64 0, .float .f64 4619567317775286272, .float .f64 4611686018427387904, .float .f64 4617315517961601024, .float .f64 4611686018427387904] 24)) (hS6.bel (bl_alloc (bl_refl _) _ _)) sq9_ok (by decide) (by unfold maxLen; omega) (Nat.le_refl _) k9_chk.1 OTS ot9_ok (by decide) (by unfold maxLen; omega) (Nat.le_refl _) k9_chk.2; rw [k9_bot] at BD; refine BD.mono ?_; rintro e w_7 ⟨u8, rfl, hN8, hb8⟩; obtain ⟨_, rfl⟩ := hN8.none; have hb67 := bl_trans (bl_alloc (bl_refl w_6) #[.float .f64 4617315517961601024, .float .f64 0, .float .f64 4619567317775286272, .float .f64 0, .float .f64 4619567317775286272, .float .f64 4611686018427387904, .float .f64 4617315517961601024, .float .f64 4611686018427387904] 24) hb8; have B7 := bl_trans B6 hb67; replace S1 := (S1.bel hb6).bel hb67; replace f1 := keep hb67 (keep hb6 f1); replace h72 := (h72.bel hb6).bel hb67; replace hP5 := (hP5.bel hb6).bel hb67; obtain ⟨p10, p11, p12⟩ := hP5 1 (by decide); rw [k9_sid] at p12; obtain ⟨s10, s11⟩ := S1 1 (by decide)) | (go_at_call 17; refine (same_eq g7 0 4 w_7.heap.size 0 4 4 (px lf9) (py lf9) _ (h72.bel (bl_alloc (bl_refl _) _ _)) (lf9_laid w_7) (by unfold maxLen; omega) (Nat.le_refl _) (Nat.le_refl _)).mono ?_; rintro e w_8 ⟨rfl, hb9⟩; have hb79 := bl_trans (bl_alloc (bl_refl w_7) #[.float .f64 0, .float .f64 0, .float .f64 4607182418800017408, .float .f64 0, .float .f64 4607182418800017408, .float .f64 4611686018427387904, .float .f64 0, .float .f64 4611686018427387904] 24) hb9; have B8 := bl_trans B7 hb79; replace p12 := keep hb79 p12) | (go_at_call 10; refine (cchk_any _ _ _ _ o1 o1 o0).mono ?_; rintro e w_9 ⟨rfl, hb10⟩; rw [k9_pl]; have B9 := bl_trans B8 hb10))
    go_ret
    exact ⟨rfl, B9⟩

end Go.Proofs.Ytpedpgpgcmhnoaa
