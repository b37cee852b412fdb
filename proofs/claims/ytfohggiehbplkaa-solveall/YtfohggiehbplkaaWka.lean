/-
  What each function of package poly answers, and what the reference of its chapter answers: one contract a function, for every float: the answer stands in the relation of its formula to what was given; of the memory that was there nothing has turned.
-/
import Derived.Test.YtfohggiehbplkaaVec
import Derived.Test.YtfohggiehbplkaaWk
import Derived.Below
import Derived.WalkKit
import Derived.WalkLawsBesides
import Derived.WalkSpells
import Derived.ProofKit
import Derived.OpenShut
import Derived.Deep.RegionHeld3
namespace Go.Proofs.Ytfohggiehbplkaa
open Go.ChangeShapes Go.WideShapes Go.ChangeAt Go.RowKit
set_option linter.unusedVariables false
set_option linter.unusedSimpArgs false



def slB (R : RD) (a b : SD) : Bool := okB R a b && fiB R a b
set_option maxRecDepth 100000 in
set_option maxHeartbeats 64000000 in
theorem rone_same (R : RD) (a b : SD) (w : World) (oR : rok R) (oa : sok a) (ob : sok b) (hal : alB R a b = true) (g : slB R a b = false) : Calls Try.prog 77 #[.agg #[.int .i64 R.ra, .int .i64 R.rb, .float .f64 R.r2, .float .f64 R.r3, .float .f64 R.r4, .float .f64 R.r5, .float .f64 R.r6, .float .f64 R.r7, .float .f64 R.r8, .float .f64 R.r9, .float .f64 R.r10, .float .f64 R.r11, .int .i64 R.ro, .float .f64 R.r13], .agg #[.float .f64 a.sm, .float .f64 a.si, .float .f64 a.sx, .float .f64 a.sy, .float .f64 a.ss], .agg #[.float .f64 b.sm, .float .f64 b.si, .float .f64 b.sx, .float .f64 b.sy, .float .f64 b.ss]] w fun e w' => e = .returned (.tuple #[.agg #[.int .i64 R.ra, .int .i64 R.rb, .float .f64 R.r2, .float .f64 R.r3, .float .f64 R.r4, .float .f64 R.r5, .float .f64 R.r6, .float .f64 R.r7, .float .f64 R.r8, .float .f64 R.r9, .float .f64 R.r10, .float .f64 R.r11, .int .i64 R.ro, .float .f64 R.r13], .agg #[.float .f64 a.sm, .float .f64 a.si, .float .f64 a.sx, .float .f64 a.sy, .float .f64 a.ss], .agg #[.float .f64 b.sm, .float .f64 b.si, .float .f64 b.sx, .float .f64 b.sy, .float .f64 b.ss], .int .i64 0]) ∧ Bel w w' := by
 have ways : (ltK .f64 0 (wtF R a b) = false ∧ finK .f64 (wtF R a b) = false ∧ finK .f64 (quF R a b) = false) ∨ (ltK .f64 0 (wtF R a b) = false ∧ finK .f64 (wtF R a b) = false ∧ finK .f64 (quF R a b) = true ∧ finK .f64 (dfF R a b) = false) ∨ (ltK .f64 0 (wtF R a b) = false ∧ finK .f64 (wtF R a b) = false ∧ finK .f64 (quF R a b) = true ∧ finK .f64 (dfF R a b) = true) ∨ (ltK .f64 0 (wtF R a b) = false ∧ finK .f64 (wtF R a b) = true ∧ finK .f64 (lkF R a b) = false ∧ finK .f64 (quF R a b) = false) ∨ (ltK .f64 0 (wtF R a b) = false ∧ finK .f64 (wtF R a b) = true ∧ finK .f64 (lkF R a b) = false ∧ finK .f64 (quF R a b) = true ∧ finK .f64 (dfF R a b) = false) ∨ (ltK .f64 0 (wtF R a b) = false ∧ finK .f64 (wtF R a b) = true ∧ finK .f64 (lkF R a b) = false ∧ finK .f64 (quF R a b) = true ∧ finK .f64 (dfF R a b) = true) ∨ (ltK .f64 0 (wtF R a b) = false ∧ finK .f64 (wtF R a b) = true ∧ finK .f64 (lkF R a b) = true ∧ finK .f64 (quF R a b) = false) ∨ (ltK .f64 0 (wtF R a b) = false ∧ finK .f64 (wtF R a b) = true ∧ finK .f64 (lkF R a b) = true ∧ finK .f64 (quF R a b) = true ∧ finK .f64 (dfF R a b) = false) ∨ (ltK .f64 0 (wtF R a b) = false ∧ finK .f64 (wtF R a b) = true ∧ finK .f64 (lkF R a b) = true ∧ finK .f64 (quF R a b) = true ∧ finK .f64 (dfF R a b) = true) ∨ (ltK .f64 0 (wtF R a b) = true ∧ finK .f64 (wtF R a b) = false ∧ finK .f64 (quF R a b) = false) ∨ (ltK .f64 0 (wtF R a b) = true ∧ finK .f64 (wtF R a b) = false ∧ finK .f64 (quF R a b) = true ∧ finK .f64 (dfF R a b) = false) ∨ (ltK .f64 0 (wtF R a b) = true ∧ finK .f64 (wtF R a b) = false ∧ finK .f64 (quF R a b) = true ∧ finK .f64 (dfF R a b) = true) ∨ (ltK .f64 0 (wtF R a b) = true ∧ finK .f64 (wtF R a b) = true ∧ finK .f64 (lkF R a b) = false ∧ finK .f64 (quF R a b) = false) ∨ (ltK .f64 0 (wtF R a b) = true ∧ finK .f64 (wtF R a b) = true ∧ finK .f64 (lkF R a b) = false ∧ finK .f64 (quF R a b) = true ∧ finK .f64 (dfF R a b) = false) ∨ (ltK .f64 0 (wtF R a b) = true ∧ finK .f64 (wtF R a b) = true ∧ finK .f64 (lkF R a b) = false ∧ finK .f64 (quF R a b) = true ∧ finK .f64 (dfF R a b) = true) ∨ (ltK .f64 0 (wtF R a b) = true ∧ finK .f64 (wtF R a b) = true ∧ finK .f64 (lkF R a b) = true ∧ finK .f64 (quF R a b) = false) ∨ (ltK .f64 0 (wtF R a b) = true ∧ finK .f64 (wtF R a b) = true ∧ finK .f64 (lkF R a b) = true ∧ finK .f64 (quF R a b) = true ∧ finK .f64 (dfF R a b) = false) := by
  unfold slB okB fiB at g
  revert g
  cases ltK .f64 0 (wtF R a b) <;> cases finK .f64 (wtF R a b) <;> cases finK .f64 (lkF R a b) <;> cases finK .f64 (quF R a b) <;> cases finK .f64 (dfF R a b) <;> simp
 have hE := may_ends (R := R) (by unfold alB at hal; rw [Bool.and_eq_true] at hal; exact hal.1)
 have c1 := cmp_gt .f64
 have q1 := run_quo Try.prog
 have q2 := run_add Try.prog
 have q3 := run_sub Try.prog
 obtain ⟨_, rfl, hR, hRt, hA, hAt, hBb, hBbt, hX3, hX3t, hX4, hX4t, hX5, hX5t, B0, hz0⟩ := frm3 R a b w
 rcases ways with ⟨h0, g1, g3⟩ | ⟨h0, g1, g3, g4⟩ | ⟨h0, g1, g3, g4⟩ | ⟨h0, g1, g2, g3⟩ | ⟨h0, g1, g2, g3, g4⟩ | ⟨h0, g1, g2, g3, g4⟩ | ⟨h0, g1, g2, g3⟩ | ⟨h0, g1, g2, g3, g4⟩ | ⟨h0, g1, g2, g3, g4⟩ | ⟨h0, g1, g3⟩ | ⟨h0, g1, g3, g4⟩ | ⟨h0, g1, g3, g4⟩ | ⟨h0, g1, g2, g3⟩ | ⟨h0, g1, g2, g3, g4⟩ | ⟨h0, g1, g2, g3, g4⟩ | ⟨h0, g1, g2, g3⟩ | ⟨h0, g1, g2, g3, g4⟩
 all_goals as_aux_lemma =>
  go_enter Try.func77, Try.ntmps77
  repeat (first | (with_reducible show Oper.wp _ _ _ _ _ _; refine wp_load_mid (P := Try.prog) 43 _ rfl (w.heap.size) 0 rfl [.int .i64 R.ra, .int .i64 R.rb, .float .f64 R.r2, .float .f64 R.r3, .float .f64 R.r4, .float .f64 R.r5, .float .f64 R.r6, .float .f64 R.r7, .float .f64 R.r8, .float .f64 R.r9, .float .f64 R.r10, .float .f64 R.r11, .int .i64 R.ro, .float .f64 R.r13] _ (by with_reducible assumption) Try.underlying43 rfl (by kernel_rfl) ?_; simp only [go_sem]) | (with_reducible show Oper.wp _ _ _ _ _ _; refine wp_load_mid (P := Try.prog) 45 _ rfl (w.heap.size + 1) 0 rfl [.float .f64 a.sm, .float .f64 a.si, .float .f64 a.sx, .float .f64 a.sy, .float .f64 a.ss] _ (by with_reducible assumption) Try.underlying45 rfl (by kernel_rfl) ?_; simp only [go_sem]) | (with_reducible show Oper.wp _ _ _ _ _ _; refine wp_load_mid (P := Try.prog) 45 _ rfl (w.heap.size + 1 + 1) 0 rfl [.float .f64 b.sm, .float .f64 b.si, .float .f64 b.sx, .float .f64 b.sy, .float .f64 b.ss] _ (by with_reducible assumption) Try.underlying45 rfl (by kernel_rfl) ?_; simp only [go_sem]) | (go_at_call 122; (with_reducible refine (rall_w R a b _).mono ?_); rintro e w' ⟨rfl, hb⟩; rw [hal]; have hR1 := rng_bel hR hb; have hA1 := rng_bel hA hb; have hB1 := rng_bel hBb hb; have BV := bl_trans B0 hb; have hz5 := hb.size; clear hR hA hBb B0) | (go_at_call 124; (with_reducible refine (rspeed_w R a b _ oR oa ob).mono ?_); rintro e w2 ⟨s, hs, rfl, hb2⟩; have hl : ∀ W, isF (fv .sub .f64 R.r8 s W) (lkF R a b) := fun W => o_is W (isF_r oR.2.2.2.2.2.2.1) hs; have hR2 := rng_bel hR1 hb2; have hA2 := rng_bel hA1 hb2; have hB2 := rng_bel hB1 hb2; have BV2 := bl_trans BV hb2; clear hR1 hA1 hB1 BV) | (go_at_call 125; (with_reducible refine (rweight_w R a b _ oR oa ob).mono ?_); rintro e w3 ⟨p, hp, rfl, hb3⟩; have hR3 := rng_bel hR2 hb3; have hA3 := rng_bel hA2 hb3; have hB3 := rng_bel hB2 hb3; have BV3 := bl_trans BV2 hb3; clear hR2 hA2 hB2 BV2; have g0 := (lt0_is hp).trans h0; (have k8 : w3.cell? ⟨w.heap.size, 8, none⟩ = some (.float .f64 R.r8) := by have h := hR3 8 _ rfl; rwa [Nat.zero_add] at h); (have k9 : w3.cell? ⟨w.heap.size, 9, none⟩ = some (.float .f64 R.r9) := by have h := hR3 9 _ rfl; rwa [Nat.zero_add] at h); (have k10 : w3.cell? ⟨w.heap.size, 10, none⟩ = some (.float .f64 R.r10) := by have h := hR3 10 _ rfl; rwa [Nat.zero_add] at h); (have k11 : w3.cell? ⟨w.heap.size, 11, none⟩ = some (.float .f64 R.r11) := by have h := hR3 11 _ rfl; rwa [Nat.zero_add] at h)) | (go_at_call 126; refine (rclamp_q _ (o_is _ (isF_r oR.2.2.2.2.2.2.2.2.2.1) (o_is _ (o_is _ (isF_r oR.2.2.2.2.2.2.1) hs) hp)) oR.2.2.2.2.2.2.2.1 oR.2.2.2.2.2.2.2.2.1 hE.1 hE.2).mono ?_; rintro e w4 ⟨q, hq0, rfl, rfl⟩; have hq : isF q (quF R a b) := hq0; clear hq0; have hd : ∀ W, isF (fv .sub .f64 q R.r11 W) (dfF R a b) := fun W => o_is W hq (isF_r oR.2.2.2.2.2.2.2.2.2.1)) | (go_at_call 127; (with_reducible refine (rend_i _ (hp)).mono ?_); rintro e w9 ⟨n, rfl, rfl⟩; rw [g1]) | (go_at_call 127; (with_reducible refine (rend_i _ (hq)).mono ?_); rintro e w9 ⟨n, rfl, rfl⟩; rw [g3]) | (go_at_call 127; (with_reducible refine (rend_i _ (hd _)).mono ?_); rintro e w9 ⟨n, rfl, rfl⟩; rw [g4]) | (go_at_call 127; (with_reducible refine (rend_i _ (hl _)).mono ?_); rintro e w9 ⟨n, rfl, rfl⟩; rw [g2]) | go_values | go_skip | go_guarded | go_step | go_upon | go_back | dsimp only)
  refine at_world (fun Z => Bel w3 Z) (by repeat (first | exact bl_refl _ | assumption | apply bl_drewN | apply bl_drew | apply bl_alloc | refine bl_set ?_ (by simp <;> omega) | refine bl_trans ?_ (by assumption))) ?_
  intro Z bZ
  have hRr := rng_bel hR3 bZ
  have hAr := rng_bel hA3 bZ
  have hBr := rng_bel hB3 bZ
  have hB9 := bl_trans BV3 bZ
  have hth3 := bel_there (bel_there (bel_there (bel_there hX3t hb) hb2) hb3) bZ
  have hth4 := bel_there (bel_there (bel_there (bel_there hX4t hb) hb2) hb3) bZ
  have hth5 := bel_there (bel_there (bel_there (bel_there hX5t hb) hb2) hb3) bZ
  refine wp_region_outs (w0 := w) 7 rfl (fun i v => match i with | 0 => v = .agg #[.int .i64 R.ra, .int .i64 R.rb, .float .f64 R.r2, .float .f64 R.r3, .float .f64 R.r4, .float .f64 R.r5, .float .f64 R.r6, .float .f64 R.r7, .float .f64 R.r8, .float .f64 R.r9, .float .f64 R.r10, .float .f64 R.r11, .int .i64 R.ro, .float .f64 R.r13] | 1 => v = .agg #[.float .f64 a.sm, .float .f64 a.si, .float .f64 a.sx, .float .f64 a.sy, .float .f64 a.ss] | 2 => v = .agg #[.float .f64 b.sm, .float .f64 b.si, .float .f64 b.sx, .float .f64 b.sy, .float .f64 b.ss] | 6 => v = .int .i64 0 | _ => False) (so3 3 (w.heap.size + 1 + 1 + 1) 0 4 (w.heap.size + 1 + 1 + 1 + 1) 1 5 (w.heap.size + 1 + 1 + 1 + 1 + 1) 2) ?_ (by kernel_rfl) (by kernel_rfl) ?_ ?_ ?_ ?_ ?_ ?_ ?_ ?_
  rotate_left
  ·
   intro s
   simp only [putL, dstO, Act.put, List.getElem?_toArray, List.getElem?_cons_zero, List.getElem?_cons_succ, Option.bind_some, List.setIfInBounds_toArray, List.set_cons_zero, List.set_cons_succ, if_true]
   all_goals exact rfl
  ·exact hB9
  ·
   intro i b d hi h
   rcases so3_some h with ⟨rfl, rfl, rfl⟩ | ⟨rfl, rfl, rfl⟩ | ⟨rfl, rfl, rfl⟩
   all_goals exact ⟨by decide, by simp [so3], by kernel_rfl⟩
  ·exact so3_ne (by omega) (by omega) (by omega)
  ·
   intro i b d h
   rcases so3_some h with ⟨rfl, rfl, rfl⟩ | ⟨rfl, rfl, rfl⟩ | ⟨rfl, rfl, rfl⟩
   all_goals omega
  ·
   intro i o hi ho hso s hs W hb K hK
   rcases (show i = 0 ∨ i = 1 ∨ i = 2 ∨ i = 3 ∨ i = 4 ∨ i = 5 ∨ i = 6 by omega) with rfl | rfl | rfl | rfl | rfl | rfl | rfl
   ·cases ho
    simp only [Act.put, List.setIfInBounds_toArray, List.set_cons_zero, List.set_cons_succ] at hK
    clear hs hso
    refine wp_load_mid (P := Try.prog) 43 _ rfl (w.heap.size) 0 rfl [.int .i64 R.ra, .int .i64 R.rb, .float .f64 R.r2, .float .f64 R.r3, .float .f64 R.r4, .float .f64 R.r5, .float .f64 R.r6, .float .f64 R.r7, .float .f64 R.r8, .float .f64 R.r9, .float .f64 R.r10, .float .f64 R.r11, .int .i64 R.ro, .float .f64 R.r13] _ (Bo.rng hb hRr (so3_far (by omega) (by omega) (by omega))) Try.underlying43 rfl (by kernel_rfl) ?_; exact hK.out _ _ rfl (bl_refl _)
   ·cases ho
    simp only [Act.put, List.setIfInBounds_toArray, List.set_cons_zero, List.set_cons_succ] at hK
    clear hs hso
    refine wp_load_mid (P := Try.prog) 45 _ rfl (w.heap.size + 1) 0 rfl [.float .f64 a.sm, .float .f64 a.si, .float .f64 a.sx, .float .f64 a.sy, .float .f64 a.ss] _ (Bo.rng hb hAr (so3_far (by omega) (by omega) (by omega))) Try.underlying45 rfl (by kernel_rfl) ?_; exact hK.out _ _ rfl (bl_refl _)
   ·cases ho
    simp only [Act.put, List.setIfInBounds_toArray, List.set_cons_zero, List.set_cons_succ] at hK
    clear hs hso
    refine wp_load_mid (P := Try.prog) 45 _ rfl (w.heap.size + 1 + 1) 0 rfl [.float .f64 b.sm, .float .f64 b.si, .float .f64 b.sx, .float .f64 b.sy, .float .f64 b.ss] _ (Bo.rng hb hBr (so3_far (by omega) (by omega) (by omega))) Try.underlying45 rfl (by kernel_rfl) ?_; exact hK.out _ _ rfl (bl_refl _)
   ·simp [so3] at hso
   ·simp [so3] at hso
   ·simp [so3] at hso
   ·cases ho
    simp only [Act.put, List.setIfInBounds_toArray, List.set_cons_zero, List.set_cons_succ] at hK
    clear hs hso
    go_simp
    all_goals first | with_reducible exact hK.out _ _ rfl (bl_refl _) | exact hK.out _ _ rfl (bl_refl _)
  ·
   intro i o b d hi ho hso s hs W hb K hK
   rcases so3_some hso with ⟨rfl, rfl, rfl⟩ | ⟨rfl, rfl, rfl⟩ | ⟨rfl, rfl, rfl⟩
   ·cases ho
    have e0 : s 0 = _ := hs 0 (by decide) (by simp [so3]) (by kernel_rfl)
    simp only [e0] at hK ⊢
    have hth := hb.2.2.2 _ _ _ hth3
    refine wp_store_mid (P := Try.prog) 43 _ _ rfl _ 0 #[.int .i64 R.ra, .int .i64 R.rb, .float .f64 R.r2, .float .f64 R.r3, .float .f64 R.r4, .float .f64 R.r5, .float .f64 R.r6, .float .f64 R.r7, .float .f64 R.r8, .float .f64 R.r9, .float .f64 R.r10, .float .f64 R.r11, .int .i64 R.ro, .float .f64 R.r13] rfl rfl hth (by kernel_rfl) (by kernel_rfl) ?_
    exact hK.out [.int .i64 R.ra, .int .i64 R.rb, .float .f64 R.r2, .float .f64 R.r3, .float .f64 R.r4, .float .f64 R.r5, .float .f64 R.r6, .float .f64 R.r7, .float .f64 R.r8, .float .f64 R.r9, .float .f64 R.r10, .float .f64 R.r11, .int .i64 R.ro, .float .f64 R.r13] rfl hth
   ·cases ho
    have e1 : s 1 = _ := hs 1 (by decide) (by simp [so3]) (by kernel_rfl)
    simp only [e1] at hK ⊢
    have hth := hb.2.2.2 _ _ _ hth4
    refine wp_store_mid (P := Try.prog) 45 _ _ rfl _ 0 #[.float .f64 a.sm, .float .f64 a.si, .float .f64 a.sx, .float .f64 a.sy, .float .f64 a.ss] rfl rfl hth (by kernel_rfl) (by kernel_rfl) ?_
    exact hK.out [.float .f64 a.sm, .float .f64 a.si, .float .f64 a.sx, .float .f64 a.sy, .float .f64 a.ss] rfl hth
   ·cases ho
    have e2 : s 2 = _ := hs 2 (by decide) (by simp [so3]) (by kernel_rfl)
    simp only [e2] at hK ⊢
    have hth := hb.2.2.2 _ _ _ hth5
    refine wp_store_mid (P := Try.prog) 45 _ _ rfl _ 0 #[.float .f64 b.sm, .float .f64 b.si, .float .f64 b.sx, .float .f64 b.sy, .float .f64 b.ss] rfl rfl hth (by kernel_rfl) (by kernel_rfl) ?_
    exact hK.out [.float .f64 b.sm, .float .f64 b.si, .float .f64 b.sx, .float .f64 b.sy, .float .f64 b.ss] rfl hth
  ·
   intro s hs W hB9 hb hout
   have e0 : s 0 = _ := hs 0 (by decide) (by simp [so3])
   have e1 : s 1 = _ := hs 1 (by decide) (by simp [so3])
   have e2 : s 2 = _ := hs 2 (by decide) (by simp [so3])
   have e6 : s 6 = _ := hs 6 (by decide) (by simp [so3])
   have hr3 : W.rangeAt (w.heap.size + 1 + 1 + 1) 0 [.int .i64 R.ra, .int .i64 R.rb, .float .f64 R.r2, .float .f64 R.r3, .float .f64 R.r4, .float .f64 R.r5, .float .f64 R.r6, .float .f64 R.r7, .float .f64 R.r8, .float .f64 R.r9, .float .f64 R.r10, .float .f64 R.r11, .int .i64 R.ro, .float .f64 R.r13] := by obtain ⟨cs, g1, g2⟩ := hout 3 _ _ (by decide) (so3_at0 (by decide)); rw [e0] at g1; injection g1 with g1; have g3 := congrArg Array.toList g1; simp only [List.toList_toArray] at g3; rw [← g3] at g2; exact g2
   have hr4 : W.rangeAt (w.heap.size + 1 + 1 + 1 + 1) 0 [.float .f64 a.sm, .float .f64 a.si, .float .f64 a.sx, .float .f64 a.sy, .float .f64 a.ss] := by obtain ⟨cs, g1, g2⟩ := hout 4 _ _ (by decide) (so3_at1 (by decide)); rw [e1] at g1; injection g1 with g1; have g3 := congrArg Array.toList g1; simp only [List.toList_toArray] at g3; rw [← g3] at g2; exact g2
   have hr5 : W.rangeAt (w.heap.size + 1 + 1 + 1 + 1 + 1) 0 [.float .f64 b.sm, .float .f64 b.si, .float .f64 b.sx, .float .f64 b.sy, .float .f64 b.ss] := by obtain ⟨cs, g1, g2⟩ := hout 5 _ _ (by decide) (so3_at2 (by decide)); rw [e2] at g1; injection g1 with g1; have g3 := congrArg Array.toList g1; simp only [List.toList_toArray] at g3; rw [← g3] at g2; exact g2
   simp only [e0, e1, e2, e6]
   clear hs hout e0 e1 e2 e6
   repeat (first | go_values | go_skip | go_guarded | go_step | go_upon | go_back | dsimp only)
   refine bodyPost_ret (results_ccct (c := 6) (d := 7) (g := 8) (r := 9) (ty := 43) (ty2 := 45) (ty3 := 45) rfl rfl (run_loadVar_mid _ (w.heap.size + 1 + 1 + 1) 0 43 [.int .i64 R.ra, .int .i64 R.rb, .float .f64 R.r2, .float .f64 R.r3, .float .f64 R.r4, .float .f64 R.r5, .float .f64 R.r6, .float .f64 R.r7, .float .f64 R.r8, .float .f64 R.r9, .float .f64 R.r10, .float .f64 R.r11, .int .i64 R.ro, .float .f64 R.r13] _ (hr3) Try.underlying43 rfl (by kernel_rfl)) rfl (run_loadVar_mid _ (w.heap.size + 1 + 1 + 1 + 1) 0 45 [.float .f64 a.sm, .float .f64 a.si, .float .f64 a.sx, .float .f64 a.sy, .float .f64 a.ss] _ (hr4) Try.underlying45 rfl (by kernel_rfl)) rfl (run_loadVar_mid _ (w.heap.size + 1 + 1 + 1 + 1 + 1) 0 45 [.float .f64 b.sm, .float .f64 b.si, .float .f64 b.sx, .float .f64 b.sy, .float .f64 b.ss] _ (hr5) Try.underlying45 rfl (by kernel_rfl)) rfl) rfl ⟨rfl, hB9⟩
end Go.Proofs.Ytfohggiehbplkaa
