/-
  What each function of package poly answers, and what the reference of its chapter answers: one contract a function, for every float: the answer stands in the relation of its formula to what was given; of the memory that was there nothing has turned.
-/
import Derived.Test.YtfohggiehbplkaaVec
import Derived.Test.YtfohggiehbplkaaWk
import Derived.Below
import Derived.WalkKit
import Derived.WalkLawsBesides
import Derived.WalkSpells
import Derived.ProofKit
import Derived.OpenShut
import Derived.Deep.RegionHeld3
namespace Go.Proofs.Ytfohggiehbplkaa
open Go.ChangeShapes Go.WideShapes Go.ChangeAt Go.RowKit
set_option linter.unusedVariables false
set_option linter.unusedSimpArgs false


set_option maxRecDepth 100000 in
set_option maxHeartbeats 4000000 in
theorem rone_ok (R : RD) (a b : SD) (w : World) (oR : rok R) (oa : sok a) (ob : sok b) (hal : alB R a b = true) (h1 : okB R a b = true) (h2 : fiB R a b = true) : Calls Try.prog 77 #[.agg #[.int .i64 R.ra, .int .i64 R.rb, .float .f64 R.r2, .float .f64 R.r3, .float .f64 R.r4, .float .f64 R.r5, .float .f64 R.r6, .float .f64 R.r7, .float .f64 R.r8, .float .f64 R.r9, .float .f64 R.r10, .float .f64 R.r11, .int .i64 R.ro, .float .f64 R.r13], .agg #[.float .f64 a.sm, .float .f64 a.si, .float .f64 a.sx, .float .f64 a.sy, .float .f64 a.ss], .agg #[.float .f64 b.sm, .float .f64 b.si, .float .f64 b.sx, .float .f64 b.sy, .float .f64 b.ss]] w fun e w' => ∃ q x y u x2 y2 u2, isF q (quF R a b) ∧ isF x (puX a.sm a.sx R.r2 (dfF R a b)) ∧ isF y (puX a.sm a.sy R.r3 (dfF R a b)) ∧ isF u (puT a.si a.ss R.r6 (dfF R a b)) ∧ isF x2 (puX b.sm b.sx R.r4 (dfF R a b)) ∧ isF y2 (puX b.sm b.sy R.r5 (dfF R a b)) ∧ isF u2 (puT b.si b.ss R.r7 (dfF R a b)) ∧ e = .returned (.tuple #[.agg #[.int .i64 R.ra, .int .i64 R.rb, .float .f64 R.r2, .float .f64 R.r3, .float .f64 R.r4, .float .f64 R.r5, .float .f64 R.r6, .float .f64 R.r7, .float .f64 R.r8, .float .f64 R.r9, .float .f64 R.r10, .float .f64 q, .int .i64 R.ro, .float .f64 R.r13], .agg #[.float .f64 a.sm, .float .f64 a.si, .float .f64 x, .float .f64 y, .float .f64 u], .agg #[.float .f64 b.sm, .float .f64 b.si, .float .f64 x2, .float .f64 y2, .float .f64 u2], .int .i64 0]) ∧ Bel w w' := by
 unfold okB at h1
 unfold fiB at h2
 simp only [Bool.and_eq_true] at h1 h2
 have h0 := h1.1
 have g1 := h1.2.1
 have g2 := h1.2.2
 have g3 := h2.1
 have g4 := h2.2
 clear h1 h2
 have hsa : stB a = true := by unfold alB at hal; simp only [Bool.and_eq_true] at hal; exact hal.2.1
 have hsb : stB b = true := by unfold alB at hal; simp only [Bool.and_eq_true] at hal; exact hal.2.2
 have hE := may_ends (R := R) (by unfold alB at hal; rw [Bool.and_eq_true] at hal; exact hal.1)
 have c1 := cmp_gt .f64
 have q1 := run_quo Try.prog
 have q2 := run_add Try.prog
 have q3 := run_sub Try.prog
 obtain ⟨_, rfl, hR, hRt, hA, hAt, hBb, hBbt, hX3, hX3t, hX4, hX4t, hX5, hX5t, B0, hz0⟩ := frm3 R a b w
 go_enter Try.func77, Try.ntmps77
 repeat (first | (with_reducible show Oper.wp _ _ _ _ _ _; refine wp_load_mid (P := Try.prog) 43 _ rfl (w.heap.size) 0 rfl [.int .i64 R.ra, .int .i64 R.rb, .float .f64 R.r2, .float .f64 R.r3, .float .f64 R.r4, .float .f64 R.r5, .float .f64 R.r6, .float .f64 R.r7, .float .f64 R.r8, .float .f64 R.r9, .float .f64 R.r10, .float .f64 R.r11, .int .i64 R.ro, .float .f64 R.r13] _ (by with_reducible assumption) Try.underlying43 rfl (by kernel_rfl) ?_; simp only [go_sem]) | (with_reducible show Oper.wp _ _ _ _ _ _; refine wp_load_mid (P := Try.prog) 45 _ rfl (w.heap.size + 1) 0 rfl [.float .f64 a.sm, .float .f64 a.si, .float .f64 a.sx, .float .f64 a.sy, .float .f64 a.ss] _ (by with_reducible assumption) Try.underlying45 rfl (by kernel_rfl) ?_; simp only [go_sem]) | (with_reducible show Oper.wp _ _ _ _ _ _; refine wp_load_mid (P := Try.prog) 45 _ rfl (w.heap.size + 1 + 1) 0 rfl [.float .f64 b.sm, .float .f64 b.si, .float .f64 b.sx, .float .f64 b.sy, .float .f64 b.ss] _ (by with_reducible assumption) Try.underlying45 rfl (by kernel_rfl) ?_; simp only [go_sem]) | (go_at_call 122; (with_reducible refine (rall_w R a b _).mono ?_); rintro e w' ⟨rfl, hb⟩; rw [hal]; have hR1 := rng_bel hR hb; have hA1 := rng_bel hA hb; have hB1 := rng_bel hBb hb; have BV := bl_trans B0 hb; have hz5 := hb.size; clear hR hA hBb B0) | (go_at_call 124; (with_reducible refine (rspeed_w R a b _ oR oa ob).mono ?_); rintro e w2 ⟨s, hs, rfl, hb2⟩; have hl : ∀ W, isF (fv .sub .f64 R.r8 s W) (lkF R a b) := fun W => o_is W (isF_r oR.2.2.2.2.2.2.1) hs; have hR2 := rng_bel hR1 hb2; have hA2 := rng_bel hA1 hb2; have hB2 := rng_bel hB1 hb2; have BV2 := bl_trans BV hb2; clear hR1 hA1 hB1 BV) | (go_at_call 125; (with_reducible refine (rweight_w R a b _ oR oa ob).mono ?_); rintro e w3 ⟨p, hp, rfl, hb3⟩; have hR3 := rng_bel hR2 hb3; have hA3 := rng_bel hA2 hb3; have hB3 := rng_bel hB2 hb3; have BV3 := bl_trans BV2 hb3; clear hR2 hA2 hB2 BV2; have g0 := (lt0_is hp).trans h0; (have k8 : w3.cell? ⟨w.heap.size, 8, none⟩ = some (.float .f64 R.r8) := by have h := hR3 8 _ rfl; rwa [Nat.zero_add] at h); (have k9 : w3.cell? ⟨w.heap.size, 9, none⟩ = some (.float .f64 R.r9) := by have h := hR3 9 _ rfl; rwa [Nat.zero_add] at h); (have k10 : w3.cell? ⟨w.heap.size, 10, none⟩ = some (.float .f64 R.r10) := by have h := hR3 10 _ rfl; rwa [Nat.zero_add] at h); (have k11 : w3.cell? ⟨w.heap.size, 11, none⟩ = some (.float .f64 R.r11) := by have h := hR3 11 _ rfl; rwa [Nat.zero_add] at h)) | (go_at_call 126; refine (rclamp_q _ (o_is _ (isF_r oR.2.2.2.2.2.2.2.2.2.1) (o_is _ (o_is _ (isF_r oR.2.2.2.2.2.2.1) hs) hp)) oR.2.2.2.2.2.2.2.1 oR.2.2.2.2.2.2.2.2.1 hE.1 hE.2).mono ?_; rintro e w4 ⟨q, hq0, rfl, rfl⟩; have hq : isF q (quF R a b) := hq0; clear hq0; have hd : ∀ W, isF (fv .sub .f64 q R.r11 W) (dfF R a b) := fun W => o_is W hq (isF_r oR.2.2.2.2.2.2.2.2.2.1); (have f11 : w3.frozen? ⟨w.heap.size, 11, none⟩ = false := by have h := ((bel_there (bel_there (bel_there hRt hb) hb2) hb3) 11 (by decide)).2; rwa [Nat.zero_add] at h)) | (go_at_call 127; (with_reducible refine (rend_i _ (hp)).mono ?_); rintro e w9 ⟨n, rfl, rfl⟩; rw [g1]) | (go_at_call 127; (with_reducible refine (rend_i _ (hq)).mono ?_); rintro e w9 ⟨n, rfl, rfl⟩; rw [g3]) | (go_at_call 127; (with_reducible refine (rend_i _ (hd _)).mono ?_); rintro e w9 ⟨n, rfl, rfl⟩; rw [g4]) | (go_at_call 127; (with_reducible refine (rend_i _ (hl _)).mono ?_); rintro e w9 ⟨n, rfl, rfl⟩; rw [g2]) | go_values | go_skip | go_guarded | go_step | go_upon | go_back | dsimp only)
 refine at_world (fun Z => Bel w Z ∧ Z.rangeAt (w.heap.size) 0 [.int .i64 R.ra, .int .i64 R.rb, .float .f64 R.r2, .float .f64 R.r3, .float .f64 R.r4, .float .f64 R.r5, .float .f64 R.r6, .float .f64 R.r7, .float .f64 R.r8, .float .f64 R.r9, .float .f64 R.r10, .float .f64 q, .int .i64 R.ro, .float .f64 R.r13] ∧ Z.rangeAt (w.heap.size + 1) 0 [.float .f64 a.sm, .float .f64 a.si, .float .f64 a.sx, .float .f64 a.sy, .float .f64 a.ss] ∧ Z.rangeAt (w.heap.size + 1 + 1) 0 [.float .f64 b.sm, .float .f64 b.si, .float .f64 b.sx, .float .f64 b.sy, .float .f64 b.ss] ∧ Z.there (w.heap.size + 1 + 1 + 1) 0 14 ∧ Z.there (w.heap.size + 1 + 1 + 1 + 1) 0 5 ∧ Z.there (w.heap.size + 1 + 1 + 1 + 1 + 1) 0 5) ⟨bl_drewN (bl_set BV3 (Nat.le_refl _)) _, rng_bel (rng_upd (k := 11) (v := .float .f64 q) hR3 (by simp)) (bl_drewN (bl_refl _) _), rng_bel (rng_set_far hA3 (by simp only; omega)) (bl_drewN (bl_refl _) _), rng_bel (rng_set_far hB3 (by simp only; omega)) (bl_drewN (bl_refl _) _), bel_there (there_set (bel_there (bel_there (bel_there hX3t hb) hb2) hb3)) (bl_drewN (bl_refl _) _), bel_there (there_set (bel_there (bel_there (bel_there hX4t hb) hb2) hb3)) (bl_drewN (bl_refl _) _), bel_there (there_set (bel_there (bel_there (bel_there hX5t hb) hb2) hb3)) (bl_drewN (bl_refl _) _)⟩ ?_
 rintro Z ⟨hB9, hRr, hAr, hBr, hth15, hth16, hth17⟩
 refine wp_region_outs (w0 := w) 19 rfl (fun i v => match i with | 0 => v = .agg #[.int .i64 R.ra, .int .i64 R.rb, .float .f64 R.r2, .float .f64 R.r3, .float .f64 R.r4, .float .f64 R.r5, .float .f64 R.r6, .float .f64 R.r7, .float .f64 R.r8, .float .f64 R.r9, .float .f64 R.r10, .float .f64 q, .int .i64 R.ro, .float .f64 R.r13] | 1 => v = .agg #[.float .f64 a.sm, .float .f64 a.si, .float .f64 a.sx, .float .f64 a.sy, .float .f64 a.ss] | 2 => v = .pointer (some ⟨w.heap.size, 2, none⟩) | 3 => v = .agg #[.float .f64 R.r2, .float .f64 R.r3] | 4 => v = .pointer (some ⟨w.heap.size, 6, none⟩) | 5 => v = .float .f64 R.r6 | 6 => ∃ p, isF p (dfF R a b) ∧ v = .float .f64 p | 7 => ∃ x y u, isF x (puX a.sm a.sx R.r2 (dfF R a b)) ∧ isF y (puX a.sm a.sy R.r3 (dfF R a b)) ∧ isF u (puT a.si a.ss R.r6 (dfF R a b)) ∧ v = .agg #[.float .f64 a.sm, .float .f64 a.si, .float .f64 x, .float .f64 y, .float .f64 u] | 8 => v = .agg #[.float .f64 b.sm, .float .f64 b.si, .float .f64 b.sx, .float .f64 b.sy, .float .f64 b.ss] | 9 => v = .pointer (some ⟨w.heap.size, 4, none⟩) | 10 => v = .agg #[.float .f64 R.r4, .float .f64 R.r5] | 11 => v = .pointer (some ⟨w.heap.size, 7, none⟩) | 12 => v = .float .f64 R.r7 | 13 => ∃ p, isF p (dfF R a b) ∧ v = .float .f64 p | 14 => ∃ x y u, isF x (puX b.sm b.sx R.r4 (dfF R a b)) ∧ isF y (puX b.sm b.sy R.r5 (dfF R a b)) ∧ isF u (puT b.si b.ss R.r7 (dfF R a b)) ∧ v = .agg #[.float .f64 b.sm, .float .f64 b.si, .float .f64 x, .float .f64 y, .float .f64 u] | 18 => v = .int .i64 0 | _ => False) (so3 15 (w.heap.size + 1 + 1 + 1) 0 16 (w.heap.size + 1 + 1 + 1 + 1) 7 17 (w.heap.size + 1 + 1 + 1 + 1 + 1) 14) ?A_ro (by kernel_rfl) (by kernel_rfl) ?hA_ro ?hb_ro ?hd_ro ?hn_ro ?hS_ro ?hq_ro ?hst_ro ?ht_ro
 case hA_ro =>
  intro s
  simp only [putL, dstO, Act.put, List.getElem?_toArray, List.getElem?_cons_zero, List.getElem?_cons_succ, Option.bind_some, List.setIfInBounds_toArray, List.set_cons_zero, List.set_cons_succ, if_true]
  all_goals exact rfl
 case hb_ro => exact hB9
 case hd_ro =>
  intro i b d hi h
  rcases so3_some h with ⟨rfl, rfl, rfl⟩ | ⟨rfl, rfl, rfl⟩ | ⟨rfl, rfl, rfl⟩
  all_goals exact ⟨by decide, by simp [so3], by kernel_rfl⟩
 case hn_ro => exact so3_ne (by omega) (by omega) (by omega)
 case hS_ro =>
  intro i b d h
  rcases so3_some h with ⟨rfl, rfl, rfl⟩ | ⟨rfl, rfl, rfl⟩ | ⟨rfl, rfl, rfl⟩
  all_goals omega
 case hq_ro =>
  intro i o hi ho hso s hs W hb K hK
  (have k2 : W.cell? ⟨w.heap.size, 2, none⟩ = some (.float .f64 R.r2) := by have h := (Bo.rng hb hRr (so3_far (by omega) (by omega) (by omega))) 2 _ rfl; rwa [Nat.zero_add] at h); (have k3 : W.cell? ⟨w.heap.size, 3, none⟩ = some (.float .f64 R.r3) := by have h := (Bo.rng hb hRr (so3_far (by omega) (by omega) (by omega))) 3 _ rfl; rwa [Nat.zero_add] at h); (have k4 : W.cell? ⟨w.heap.size, 4, none⟩ = some (.float .f64 R.r4) := by have h := (Bo.rng hb hRr (so3_far (by omega) (by omega) (by omega))) 4 _ rfl; rwa [Nat.zero_add] at h); (have k5 : W.cell? ⟨w.heap.size, 5, none⟩ = some (.float .f64 R.r5) := by have h := (Bo.rng hb hRr (so3_far (by omega) (by omega) (by omega))) 5 _ rfl; rwa [Nat.zero_add] at h); (have k6 : W.cell? ⟨w.heap.size, 6, none⟩ = some (.float .f64 R.r6) := by have h := (Bo.rng hb hRr (so3_far (by omega) (by omega) (by omega))) 6 _ rfl; rwa [Nat.zero_add] at h); (have k7 : W.cell? ⟨w.heap.size, 7, none⟩ = some (.float .f64 R.r7) := by have h := (Bo.rng hb hRr (so3_far (by omega) (by omega) (by omega))) 7 _ rfl; rwa [Nat.zero_add] at h); (have k11 : W.cell? ⟨w.heap.size, 11, none⟩ = some (.float .f64 q) := by have h := (Bo.rng hb hRr (so3_far (by omega) (by omega) (by omega))) 11 _ rfl; rwa [Nat.zero_add] at h)
  rcases (show i = 0 ∨ i = 1 ∨ i = 2 ∨ i = 3 ∨ i = 4 ∨ i = 5 ∨ i = 6 ∨ i = 7 ∨ i = 8 ∨ i = 9 ∨ i = 10 ∨ i = 11 ∨ i = 12 ∨ i = 13 ∨ i = 14 ∨ i = 15 ∨ i = 16 ∨ i = 17 ∨ i = 18 by omega) with rfl | rfl | rfl | rfl | rfl | rfl | rfl | rfl | rfl | rfl | rfl | rfl | rfl | rfl | rfl | rfl | rfl | rfl | rfl
  ·cases ho
   simp only [Act.put, List.setIfInBounds_toArray, List.set_cons_zero, List.set_cons_succ] at hK
   clear hs hso
   refine wp_load_mid (P := Try.prog) 43 _ rfl (w.heap.size) 0 rfl [.int .i64 R.ra, .int .i64 R.rb, .float .f64 R.r2, .float .f64 R.r3, .float .f64 R.r4, .float .f64 R.r5, .float .f64 R.r6, .float .f64 R.r7, .float .f64 R.r8, .float .f64 R.r9, .float .f64 R.r10, .float .f64 q, .int .i64 R.ro, .float .f64 R.r13] _ (Bo.rng hb hRr (so3_far (by omega) (by omega) (by omega))) Try.underlying43 rfl (by kernel_rfl) ?_; exact hK.out _ _ rfl (bl_refl _)
  ·cases ho
   simp only [Act.put, List.setIfInBounds_toArray, List.set_cons_zero, List.set_cons_succ] at hK
   clear hs hso
   refine wp_load_mid (P := Try.prog) 45 _ rfl (w.heap.size + 1) 0 rfl [.float .f64 a.sm, .float .f64 a.si, .float .f64 a.sx, .float .f64 a.sy, .float .f64 a.ss] _ (Bo.rng hb hAr (so3_far (by omega) (by omega) (by omega))) Try.underlying45 rfl (by kernel_rfl) ?_; exact hK.out _ _ rfl (bl_refl _)
  rotate_left 1
  cases ho
  have e2 : s 2 = _ := hs 2 (by decide) (by simp [so3]) (by kernel_rfl)
  simp only [e2] at hK ⊢
  rotate_left 2
  cases ho
  have e4 : s 4 = _ := hs 4 (by decide) (by simp [so3]) (by kernel_rfl)
  simp only [e4] at hK ⊢
  rotate_left 1
  ·cases ho
   simp only [Act.put, List.setIfInBounds_toArray, List.set_cons_zero, List.set_cons_succ] at hK
   clear hs hso
   go_simp
   all_goals first | with_reducible exact hK.out _ _ ⟨_, hd _, rfl⟩ (bl_refl _) | exact hK.out _ _ ⟨_, hd _, rfl⟩ (bl_refl _) | with_reducible exact hK.out _ _ rfl (bl_refl _) | exact hK.out _ _ rfl (bl_refl _)
  ·cases ho
   have e1 : s 1 = _ := hs 1 (by decide) (by simp [so3]) (by kernel_rfl)
   have e3 : s 3 = _ := hs 3 (by decide) (by simp [so3]) (by kernel_rfl)
   have e5 : s 5 = _ := hs 5 (by decide) (by simp [so3]) (by kernel_rfl)
   obtain ⟨p6, h6, e6⟩ := hs 6 (by decide) (by simp [so3]) (by kernel_rfl)
   simp only [e1, e3, e5, e6] at hK ⊢
   simp only [Act.put, List.setIfInBounds_toArray, List.set_cons_zero, List.set_cons_succ] at hK
   clear hs hso
   go_simp
   all_goals (try go_wp2_with (first | (go_at_call 123; (refine (rpushed_w a _ _ _ _ oa oR.1 oR.2.1 oR.2.2.2.2.1 hsa (h6)).mono ?_); rintro e w' ⟨x1, y1, u1, hx1, hy1, hu1, rfl, hb1⟩)))
   all_goals first | with_reducible exact hK.out _ _ ⟨_, _, _, hx1, hy1, hu1, rfl⟩ hb1 | exact hK.out _ _ ⟨_, _, _, hx1, hy1, hu1, rfl⟩ hb1 | with_reducible exact hK.out _ _ rfl (bl_refl _) | exact hK.out _ _ rfl (bl_refl _)
  ·cases ho
   simp only [Act.put, List.setIfInBounds_toArray, List.set_cons_zero, List.set_cons_succ] at hK
   clear hs hso
   refine wp_load_mid (P := Try.prog) 45 _ rfl (w.heap.size + 1 + 1) 0 rfl [.float .f64 b.sm, .float .f64 b.si, .float .f64 b.sx, .float .f64 b.sy, .float .f64 b.ss] _ (Bo.rng hb hBr (so3_far (by omega) (by omega) (by omega))) Try.underlying45 rfl (by kernel_rfl) ?_; exact hK.out _ _ rfl (bl_refl _)
  rotate_left 1
  cases ho
  have e9 : s 9 = _ := hs 9 (by decide) (by simp [so3]) (by kernel_rfl)
  simp only [e9] at hK ⊢
  rotate_left 2
  cases ho
  have e11 : s 11 = _ := hs 11 (by decide) (by simp [so3]) (by kernel_rfl)
  simp only [e11] at hK ⊢
  rotate_left 1
  ·cases ho
   simp only [Act.put, List.setIfInBounds_toArray, List.set_cons_zero, List.set_cons_succ] at hK
   clear hs hso
   go_simp
   all_goals first | with_reducible exact hK.out _ _ ⟨_, hd _, rfl⟩ (bl_refl _) | exact hK.out _ _ ⟨_, hd _, rfl⟩ (bl_refl _) | with_reducible exact hK.out _ _ rfl (bl_refl _) | exact hK.out _ _ rfl (bl_refl _)
  ·cases ho
   have e8 : s 8 = _ := hs 8 (by decide) (by simp [so3]) (by kernel_rfl)
   have e10 : s 10 = _ := hs 10 (by decide) (by simp [so3]) (by kernel_rfl)
   have e12 : s 12 = _ := hs 12 (by decide) (by simp [so3]) (by kernel_rfl)
   obtain ⟨p13, h13, e13⟩ := hs 13 (by decide) (by simp [so3]) (by kernel_rfl)
   simp only [e8, e10, e12, e13] at hK ⊢
   simp only [Act.put, List.setIfInBounds_toArray, List.set_cons_zero, List.set_cons_succ] at hK
   clear hs hso
   go_simp
   all_goals (try go_wp2_with (first | (go_at_call 123; (refine (rpushed_w b _ _ _ _ ob oR.2.2.1 oR.2.2.2.1 oR.2.2.2.2.2.1 hsb (h13)).mono ?_); rintro e w' ⟨x1, y1, u1, hx1, hy1, hu1, rfl, hb1⟩)))
   all_goals first | with_reducible exact hK.out _ _ ⟨_, _, _, hx1, hy1, hu1, rfl⟩ hb1 | exact hK.out _ _ ⟨_, _, _, hx1, hy1, hu1, rfl⟩ hb1 | with_reducible exact hK.out _ _ rfl (bl_refl _) | exact hK.out _ _ rfl (bl_refl _)
  ·simp [so3] at hso
  ·simp [so3] at hso
  ·simp [so3] at hso
  rotate_left 1
  all_goals
   try cases ho
   simp only [Act.put, List.setIfInBounds_toArray, List.set_cons_zero, List.set_cons_succ] at hK
   clear hs hso
   go_simp
   all_goals first | with_reducible exact hK.out _ _ rfl (bl_refl _) | exact hK.out _ _ rfl (bl_refl _)
 case hst_ro =>
  intro i o b d hi ho hso s hs W hb K hK
  rcases so3_some hso with ⟨rfl, rfl, rfl⟩ | ⟨rfl, rfl, rfl⟩ | ⟨rfl, rfl, rfl⟩
  ·cases ho
   have e0 : s 0 = _ := hs 0 (by decide) (by simp [so3]) (by kernel_rfl)
   simp only [e0] at hK ⊢
   have hth := hb.2.2.2 _ _ _ hth15
   refine wp_store_mid (P := Try.prog) 43 _ _ rfl _ 0 #[.int .i64 R.ra, .int .i64 R.rb, .float .f64 R.r2, .float .f64 R.r3, .float .f64 R.r4, .float .f64 R.r5, .float .f64 R.r6, .float .f64 R.r7, .float .f64 R.r8, .float .f64 R.r9, .float .f64 R.r10, .float .f64 q, .int .i64 R.ro, .float .f64 R.r13] rfl rfl hth (by kernel_rfl) (by kernel_rfl) ?_
   exact hK.out [.int .i64 R.ra, .int .i64 R.rb, .float .f64 R.r2, .float .f64 R.r3, .float .f64 R.r4, .float .f64 R.r5, .float .f64 R.r6, .float .f64 R.r7, .float .f64 R.r8, .float .f64 R.r9, .float .f64 R.r10, .float .f64 q, .int .i64 R.ro, .float .f64 R.r13] rfl hth
  ·cases ho
   obtain ⟨x, y, u, hx, hy, hu, e7⟩ := hs 7 (by decide) (by simp [so3]) (by kernel_rfl)
   simp only [e7] at hK ⊢
   have hth := hb.2.2.2 _ _ _ hth16
   refine wp_store_mid (P := Try.prog) 45 _ _ rfl _ 0 #[.float .f64 a.sm, .float .f64 a.si, .float .f64 x, .float .f64 y, .float .f64 u] rfl rfl hth (by kernel_rfl) (by kernel_rfl) ?_
   exact hK.out [.float .f64 a.sm, .float .f64 a.si, .float .f64 x, .float .f64 y, .float .f64 u] rfl hth
  ·cases ho
   obtain ⟨x2, y2, u2, hx2, hy2, hu2, e14⟩ := hs 14 (by decide) (by simp [so3]) (by kernel_rfl)
   simp only [e14] at hK ⊢
   have hth := hb.2.2.2 _ _ _ hth17
   refine wp_store_mid (P := Try.prog) 45 _ _ rfl _ 0 #[.float .f64 b.sm, .float .f64 b.si, .float .f64 x2, .float .f64 y2, .float .f64 u2] rfl rfl hth (by kernel_rfl) (by kernel_rfl) ?_
   exact hK.out [.float .f64 b.sm, .float .f64 b.si, .float .f64 x2, .float .f64 y2, .float .f64 u2] rfl hth
 case ht_ro =>
  intro s hs W hB9 hb hout
  have e0 : s 0 = _ := hs 0 (by decide) (by simp [so3])
  have e1 : s 1 = _ := hs 1 (by decide) (by simp [so3])
  have e2 : s 2 = _ := hs 2 (by decide) (by simp [so3])
  have e3 : s 3 = _ := hs 3 (by decide) (by simp [so3])
  have e4 : s 4 = _ := hs 4 (by decide) (by simp [so3])
  have e5 : s 5 = _ := hs 5 (by decide) (by simp [so3])
  obtain ⟨p6, h6, e6⟩ := hs 6 (by decide) (by simp [so3])
  obtain ⟨x, y, u, hx, hy, hu, e7⟩ := hs 7 (by decide) (by simp [so3])
  have e8 : s 8 = _ := hs 8 (by decide) (by simp [so3])
  have e9 : s 9 = _ := hs 9 (by decide) (by simp [so3])
  have e10 : s 10 = _ := hs 10 (by decide) (by simp [so3])
  have e11 : s 11 = _ := hs 11 (by decide) (by simp [so3])
  have e12 : s 12 = _ := hs 12 (by decide) (by simp [so3])
  obtain ⟨p13, h13, e13⟩ := hs 13 (by decide) (by simp [so3])
  obtain ⟨x2, y2, u2, hx2, hy2, hu2, e14⟩ := hs 14 (by decide) (by simp [so3])
  have e18 : s 18 = _ := hs 18 (by decide) (by simp [so3])
  have hr15 : W.rangeAt (w.heap.size + 1 + 1 + 1) 0 [.int .i64 R.ra, .int .i64 R.rb, .float .f64 R.r2, .float .f64 R.r3, .float .f64 R.r4, .float .f64 R.r5, .float .f64 R.r6, .float .f64 R.r7, .float .f64 R.r8, .float .f64 R.r9, .float .f64 R.r10, .float .f64 q, .int .i64 R.ro, .float .f64 R.r13] := by obtain ⟨cs, g1, g2⟩ := hout 15 _ _ (by decide) (so3_at0 (by decide)); rw [e0] at g1; injection g1 with g1; have g3 := congrArg Array.toList g1; simp only [List.toList_toArray] at g3; rw [← g3] at g2; exact g2
  have hr16 : W.rangeAt (w.heap.size + 1 + 1 + 1 + 1) 0 [.float .f64 a.sm, .float .f64 a.si, .float .f64 x, .float .f64 y, .float .f64 u] := by obtain ⟨cs, g1, g2⟩ := hout 16 _ _ (by decide) (so3_at1 (by decide)); rw [e7] at g1; injection g1 with g1; have g3 := congrArg Array.toList g1; simp only [List.toList_toArray] at g3; rw [← g3] at g2; exact g2
  have hr17 : W.rangeAt (w.heap.size + 1 + 1 + 1 + 1 + 1) 0 [.float .f64 b.sm, .float .f64 b.si, .float .f64 x2, .float .f64 y2, .float .f64 u2] := by obtain ⟨cs, g1, g2⟩ := hout 17 _ _ (by decide) (so3_at2 (by decide)); rw [e14] at g1; injection g1 with g1; have g3 := congrArg Array.toList g1; simp only [List.toList_toArray] at g3; rw [← g3] at g2; exact g2
  simp only [e0, e1, e2, e3, e4, e5, e6, e7, e8, e9, e10, e11, e12, e13, e14, e18]
  clear hs hout e0 e1 e2 e3 e4 e5 e6 e7 e8 e9 e10 e11 e12 e13 e14 e18
  repeat (first | go_values | go_skip | go_guarded | go_step | go_upon | go_back | dsimp only)
  refine bodyPost_ret (results_ccct (c := 6) (d := 7) (g := 8) (r := 9) (ty := 43) (ty2 := 45) (ty3 := 45) rfl rfl (run_loadVar_mid _ (w.heap.size + 1 + 1 + 1) 0 43 [.int .i64 R.ra, .int .i64 R.rb, .float .f64 R.r2, .float .f64 R.r3, .float .f64 R.r4, .float .f64 R.r5, .float .f64 R.r6, .float .f64 R.r7, .float .f64 R.r8, .float .f64 R.r9, .float .f64 R.r10, .float .f64 q, .int .i64 R.ro, .float .f64 R.r13] _ (hr15) Try.underlying43 rfl (by kernel_rfl)) rfl (run_loadVar_mid _ (w.heap.size + 1 + 1 + 1 + 1) 0 45 [.float .f64 a.sm, .float .f64 a.si, .float .f64 x, .float .f64 y, .float .f64 u] _ (hr16) Try.underlying45 rfl (by kernel_rfl)) rfl (run_loadVar_mid _ (w.heap.size + 1 + 1 + 1 + 1 + 1) 0 45 [.float .f64 b.sm, .float .f64 b.si, .float .f64 x2, .float .f64 y2, .float .f64 u2] _ (hr17) Try.underlying45 rfl (by kernel_rfl)) rfl) rfl ⟨q, x, y, u, x2, y2, u2, hq, hx, hy, hu, hx2, hy2, hu2, rfl, hB9⟩

end Go.Proofs.Ytfohggiehbplkaa
