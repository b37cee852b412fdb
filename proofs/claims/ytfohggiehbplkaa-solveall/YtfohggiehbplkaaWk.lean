/-
  What each function of package poly answers, and what the reference of its chapter answers: one contract a function, for every float: the answer stands in the relation of its formula to what was given; of the memory that was there nothing has turned.
-/
import Derived.Test.YtfohggiehbplkaaVec
import Derived.Test.YtfohggiehbplkaaWi
import Derived.Test.YtfohggiehbplkaaWj
import Derived.Below
import Derived.WalkKit
import Derived.WalkLawsBesides
import Derived.WalkSpells
import Derived.ProofKit
import Derived.OpenShut
import Derived.Deep.RegionHeld3
namespace Go.Proofs.Ytfohggiehbplkaa
open Go.ChangeShapes Go.WideShapes Go.ChangeAt Go.RowKit
set_option linter.unusedVariables false
set_option linter.unusedSimpArgs false


set_option maxRecDepth 100000 in
set_option maxHeartbeats 4000000 in
theorem rspd_ok (R : RD) (a b : SD) (w : World) (oR : rok R) (oa : sok a) (ob : sok b) (hal : alB R a b = true) : Calls Try.prog 132 #[.agg #[.int .i64 R.ra, .int .i64 R.rb, .float .f64 R.r2, .float .f64 R.r3, .float .f64 R.r4, .float .f64 R.r5, .float .f64 R.r6, .float .f64 R.r7, .float .f64 R.r8, .float .f64 R.r9, .float .f64 R.r10, .float .f64 R.r11, .int .i64 R.ro, .float .f64 R.r13], .agg #[.float .f64 a.sm, .float .f64 a.si, .float .f64 a.sx, .float .f64 a.sy, .float .f64 a.ss], .agg #[.float .f64 b.sm, .float .f64 b.si, .float .f64 b.sx, .float .f64 b.sy, .float .f64 b.ss]] w fun e w' => ∃ r, isF r (spF R a b) ∧ e = .returned (.tuple #[.float .f64 r, .int .i64 0]) ∧ Bel w w' := by
 obtain ⟨_, rfl, hR, hRt, hA, hAt, hBb, hBbt, B0, hz0⟩ := frm0 R a b w
 go_enter Try.func132, Try.ntmps132
 repeat (first | (with_reducible show Oper.wp _ _ _ _ _ _; refine wp_load_mid (P := Try.prog) 43 _ rfl (w.heap.size) 0 rfl [.int .i64 R.ra, .int .i64 R.rb, .float .f64 R.r2, .float .f64 R.r3, .float .f64 R.r4, .float .f64 R.r5, .float .f64 R.r6, .float .f64 R.r7, .float .f64 R.r8, .float .f64 R.r9, .float .f64 R.r10, .float .f64 R.r11, .int .i64 R.ro, .float .f64 R.r13] _ (by with_reducible assumption) Try.underlying43 rfl (by kernel_rfl) ?_; simp only [go_sem]) | (with_reducible show Oper.wp _ _ _ _ _ _; refine wp_load_mid (P := Try.prog) 45 _ rfl (w.heap.size + 1) 0 rfl [.float .f64 a.sm, .float .f64 a.si, .float .f64 a.sx, .float .f64 a.sy, .float .f64 a.ss] _ (by with_reducible assumption) Try.underlying45 rfl (by kernel_rfl) ?_; simp only [go_sem]) | (with_reducible show Oper.wp _ _ _ _ _ _; refine wp_load_mid (P := Try.prog) 45 _ rfl (w.heap.size + 1 + 1) 0 rfl [.float .f64 b.sm, .float .f64 b.si, .float .f64 b.sx, .float .f64 b.sy, .float .f64 b.ss] _ (by with_reducible assumption) Try.underlying45 rfl (by kernel_rfl) ?_; simp only [go_sem]) | (go_at_call 122; (with_reducible refine (rall_w R a b _).mono ?_); rintro e w' ⟨rfl, hb⟩; rw [hal]; have hR1 := rng_bel hR hb; have hA1 := rng_bel hA hb; have hB1 := rng_bel hBb hb; have BV := bl_trans B0 hb; have hz5 := hb.size; clear hR hA hBb B0) | (go_at_call 124; (with_reducible refine (rspeed_w R a b _ oR oa ob).mono ?_); rintro e w2 ⟨r, hr, rfl, hb2⟩) | go_values | go_skip | go_guarded | go_step | go_upon | go_back | dsimp only)
 refine bodyPost_ret (v := .tuple #[.float .f64 r, .int .i64 0]) (by kernel_rfl) rfl ⟨r, hr, rfl, bl_trans BV hb2⟩

set_option maxRecDepth 100000 in
set_option maxHeartbeats 4000000 in
theorem rwgt_ok (R : RD) (a b : SD) (w : World) (oR : rok R) (oa : sok a) (ob : sok b) (hal : alB R a b = true) : Calls Try.prog 133 #[.agg #[.int .i64 R.ra, .int .i64 R.rb, .float .f64 R.r2, .float .f64 R.r3, .float .f64 R.r4, .float .f64 R.r5, .float .f64 R.r6, .float .f64 R.r7, .float .f64 R.r8, .float .f64 R.r9, .float .f64 R.r10, .float .f64 R.r11, .int .i64 R.ro, .float .f64 R.r13], .agg #[.float .f64 a.sm, .float .f64 a.si, .float .f64 a.sx, .float .f64 a.sy, .float .f64 a.ss], .agg #[.float .f64 b.sm, .float .f64 b.si, .float .f64 b.sx, .float .f64 b.sy, .float .f64 b.ss]] w fun e w' => ∃ r, isF r (wtF R a b) ∧ e = .returned (.tuple #[.float .f64 r, .int .i64 0]) ∧ Bel w w' := by
 obtain ⟨_, rfl, hR, hRt, hA, hAt, hBb, hBbt, B0, hz0⟩ := frm0 R a b w
 go_enter Try.func133, Try.ntmps133
 repeat (first | (with_reducible show Oper.wp _ _ _ _ _ _; refine wp_load_mid (P := Try.prog) 43 _ rfl (w.heap.size) 0 rfl [.int .i64 R.ra, .int .i64 R.rb, .float .f64 R.r2, .float .f64 R.r3, .float .f64 R.r4, .float .f64 R.r5, .float .f64 R.r6, .float .f64 R.r7, .float .f64 R.r8, .float .f64 R.r9, .float .f64 R.r10, .float .f64 R.r11, .int .i64 R.ro, .float .f64 R.r13] _ (by with_reducible assumption) Try.underlying43 rfl (by kernel_rfl) ?_; simp only [go_sem]) | (with_reducible show Oper.wp _ _ _ _ _ _; refine wp_load_mid (P := Try.prog) 45 _ rfl (w.heap.size + 1) 0 rfl [.float .f64 a.sm, .float .f64 a.si, .float .f64 a.sx, .float .f64 a.sy, .float .f64 a.ss] _ (by with_reducible assumption) Try.underlying45 rfl (by kernel_rfl) ?_; simp only [go_sem]) | (with_reducible show Oper.wp _ _ _ _ _ _; refine wp_load_mid (P := Try.prog) 45 _ rfl (w.heap.size + 1 + 1) 0 rfl [.float .f64 b.sm, .float .f64 b.si, .float .f64 b.sx, .float .f64 b.sy, .float .f64 b.ss] _ (by with_reducible assumption) Try.underlying45 rfl (by kernel_rfl) ?_; simp only [go_sem]) | (go_at_call 122; (with_reducible refine (rall_w R a b _).mono ?_); rintro e w' ⟨rfl, hb⟩; rw [hal]; have hR1 := rng_bel hR hb; have hA1 := rng_bel hA hb; have hB1 := rng_bel hBb hb; have BV := bl_trans B0 hb; have hz5 := hb.size; clear hR hA hBb B0) | (go_at_call 125; (with_reducible refine (rweight_w R a b _ oR oa ob).mono ?_); rintro e w2 ⟨r, hr, rfl, hb2⟩) | go_values | go_skip | go_guarded | go_step | go_upon | go_back | dsimp only)
 refine bodyPost_ret (v := .tuple #[.float .f64 r, .int .i64 0]) (by kernel_rfl) rfl ⟨r, hr, rfl, bl_trans BV hb2⟩

set_option maxRecDepth 100000 in
set_option maxHeartbeats 4000000 in
theorem rwrm_ok (R : RD) (a b : SD) (w : World) (oR : rok R) (oa : sok a) (ob : sok b) (hal : alB R a b = true) : Calls Try.prog 76 #[.agg #[.int .i64 R.ra, .int .i64 R.rb, .float .f64 R.r2, .float .f64 R.r3, .float .f64 R.r4, .float .f64 R.r5, .float .f64 R.r6, .float .f64 R.r7, .float .f64 R.r8, .float .f64 R.r9, .float .f64 R.r10, .float .f64 R.r11, .int .i64 R.ro, .float .f64 R.r13], .agg #[.float .f64 a.sm, .float .f64 a.si, .float .f64 a.sx, .float .f64 a.sy, .float .f64 a.ss], .agg #[.float .f64 b.sm, .float .f64 b.si, .float .f64 b.sx, .float .f64 b.sy, .float .f64 b.ss]] w fun e w' => ∃ x y u x2 y2 u2, isF x (puX a.sm a.sx R.r2 (bitsK R.r11)) ∧ isF y (puX a.sm a.sy R.r3 (bitsK R.r11)) ∧ isF u (puT a.si a.ss R.r6 (bitsK R.r11)) ∧ isF x2 (puX b.sm b.sx R.r4 (bitsK R.r11)) ∧ isF y2 (puX b.sm b.sy R.r5 (bitsK R.r11)) ∧ isF u2 (puT b.si b.ss R.r7 (bitsK R.r11)) ∧ e = .returned (.tuple #[.agg #[.float .f64 a.sm, .float .f64 a.si, .float .f64 x, .float .f64 y, .float .f64 u], .agg #[.float .f64 b.sm, .float .f64 b.si, .float .f64 x2, .float .f64 y2, .float .f64 u2], .int .i64 0]) ∧ Bel w w' := by
 have hsa : stB a = true := by unfold alB at hal; simp only [Bool.and_eq_true] at hal; exact hal.2.1
 have hsb : stB b = true := by unfold alB at hal; simp only [Bool.and_eq_true] at hal; exact hal.2.2
 obtain ⟨_, rfl, hR, hRt, hA, hAt, hBb, hBbt, hX3, hX3t, hX4, hX4t, B0, hz0⟩ := frm2 R a b w
 go_enter Try.func76, Try.ntmps76
 repeat (first | (with_reducible show Oper.wp _ _ _ _ _ _; refine wp_load_mid (P := Try.prog) 43 _ rfl (w.heap.size) 0 rfl [.int .i64 R.ra, .int .i64 R.rb, .float .f64 R.r2, .float .f64 R.r3, .float .f64 R.r4, .float .f64 R.r5, .float .f64 R.r6, .float .f64 R.r7, .float .f64 R.r8, .float .f64 R.r9, .float .f64 R.r10, .float .f64 R.r11, .int .i64 R.ro, .float .f64 R.r13] _ (by with_reducible assumption) Try.underlying43 rfl (by kernel_rfl) ?_; simp only [go_sem]) | (with_reducible show Oper.wp _ _ _ _ _ _; refine wp_load_mid (P := Try.prog) 45 _ rfl (w.heap.size + 1) 0 rfl [.float .f64 a.sm, .float .f64 a.si, .float .f64 a.sx, .float .f64 a.sy, .float .f64 a.ss] _ (by with_reducible assumption) Try.underlying45 rfl (by kernel_rfl) ?_; simp only [go_sem]) | (with_reducible show Oper.wp _ _ _ _ _ _; refine wp_load_mid (P := Try.prog) 45 _ rfl (w.heap.size + 1 + 1) 0 rfl [.float .f64 b.sm, .float .f64 b.si, .float .f64 b.sx, .float .f64 b.sy, .float .f64 b.ss] _ (by with_reducible assumption) Try.underlying45 rfl (by kernel_rfl) ?_; simp only [go_sem]) | (go_at_call 122; (with_reducible refine (rall_w R a b _).mono ?_); rintro e w' ⟨rfl, hb⟩; rw [hal]; have hR1 := rng_bel hR hb; have hA1 := rng_bel hA hb; have hB1 := rng_bel hBb hb; have BV := bl_trans B0 hb; have hz5 := hb.size; clear hR hA hBb B0) | go_values | go_skip | go_guarded | go_step | go_upon | go_back | dsimp only)
 have hRr := hR1
 have hAr := hA1
 have hBr := hB1
 have hB9 := BV
 have hth16 := (bel_there hX3t hb)
 have hth17 := (bel_there hX4t hb)
 refine wp_region_outs (w0 := w) 19 rfl (fun i v => match i with | 0 => v = .agg #[.float .f64 a.sm, .float .f64 a.si, .float .f64 a.sx, .float .f64 a.sy, .float .f64 a.ss] | 1 => v = .pointer (some ⟨w.heap.size, 2, none⟩) | 2 => v = .agg #[.float .f64 R.r2, .float .f64 R.r3] | 3 => v = .pointer (some ⟨w.heap.size, 6, none⟩) | 4 => v = .float .f64 R.r6 | 5 => v = .pointer (some ⟨w.heap.size, 11, none⟩) | 6 => v = .float .f64 R.r11 | 7 => ∃ x y u, isF x (puX a.sm a.sx R.r2 (bitsK R.r11)) ∧ isF y (puX a.sm a.sy R.r3 (bitsK R.r11)) ∧ isF u (puT a.si a.ss R.r6 (bitsK R.r11)) ∧ v = .agg #[.float .f64 a.sm, .float .f64 a.si, .float .f64 x, .float .f64 y, .float .f64 u] | 8 => v = .agg #[.float .f64 b.sm, .float .f64 b.si, .float .f64 b.sx, .float .f64 b.sy, .float .f64 b.ss] | 9 => v = .pointer (some ⟨w.heap.size, 4, none⟩) | 10 => v = .agg #[.float .f64 R.r4, .float .f64 R.r5] | 11 => v = .pointer (some ⟨w.heap.size, 7, none⟩) | 12 => v = .float .f64 R.r7 | 13 => v = .pointer (some ⟨w.heap.size, 11, none⟩) | 14 => v = .float .f64 R.r11 | 15 => ∃ x y u, isF x (puX b.sm b.sx R.r4 (bitsK R.r11)) ∧ isF y (puX b.sm b.sy R.r5 (bitsK R.r11)) ∧ isF u (puT b.si b.ss R.r7 (bitsK R.r11)) ∧ v = .agg #[.float .f64 b.sm, .float .f64 b.si, .float .f64 x, .float .f64 y, .float .f64 u] | 18 => v = .int .i64 0 | _ => False) (so2 16 (w.heap.size + 1 + 1 + 1) 7 17 (w.heap.size + 1 + 1 + 1 + 1) 15) ?A_rw (by kernel_rfl) (by kernel_rfl) ?hA_rw ?hb_rw ?hd_rw ?hn_rw ?hS_rw ?hq_rw ?hst_rw ?ht_rw
 case hA_rw =>
  intro s
  simp only [putL, dstO, Act.put, List.getElem?_toArray, List.getElem?_cons_zero, List.getElem?_cons_succ, Option.bind_some, List.setIfInBounds_toArray, List.set_cons_zero, List.set_cons_succ, if_true]
  all_goals exact rfl
 case hb_rw => exact hB9
 case hd_rw =>
  intro i b d hi h
  rcases so2_some h with ⟨rfl, rfl, rfl⟩ | ⟨rfl, rfl, rfl⟩
  all_goals exact ⟨by decide, by simp [so2], by kernel_rfl⟩
 case hn_rw => exact so2_ne (by omega)
 case hS_rw =>
  intro i b d h
  rcases so2_some h with ⟨rfl, rfl, rfl⟩ | ⟨rfl, rfl, rfl⟩
  all_goals omega
 case hq_rw =>
  intro i o hi ho hso s hs W hb K hK
  (have k2 : W.cell? ⟨w.heap.size, 2, none⟩ = some (.float .f64 R.r2) := by have h := (Bo.rng hb hRr (so2_far (by omega) (by omega))) 2 _ rfl; rwa [Nat.zero_add] at h); (have k3 : W.cell? ⟨w.heap.size, 3, none⟩ = some (.float .f64 R.r3) := by have h := (Bo.rng hb hRr (so2_far (by omega) (by omega))) 3 _ rfl; rwa [Nat.zero_add] at h); (have k4 : W.cell? ⟨w.heap.size, 4, none⟩ = some (.float .f64 R.r4) := by have h := (Bo.rng hb hRr (so2_far (by omega) (by omega))) 4 _ rfl; rwa [Nat.zero_add] at h); (have k5 : W.cell? ⟨w.heap.size, 5, none⟩ = some (.float .f64 R.r5) := by have h := (Bo.rng hb hRr (so2_far (by omega) (by omega))) 5 _ rfl; rwa [Nat.zero_add] at h); (have k6 : W.cell? ⟨w.heap.size, 6, none⟩ = some (.float .f64 R.r6) := by have h := (Bo.rng hb hRr (so2_far (by omega) (by omega))) 6 _ rfl; rwa [Nat.zero_add] at h); (have k7 : W.cell? ⟨w.heap.size, 7, none⟩ = some (.float .f64 R.r7) := by have h := (Bo.rng hb hRr (so2_far (by omega) (by omega))) 7 _ rfl; rwa [Nat.zero_add] at h); (have k11 : W.cell? ⟨w.heap.size, 11, none⟩ = some (.float .f64 R.r11) := by have h := (Bo.rng hb hRr (so2_far (by omega) (by omega))) 11 _ rfl; rwa [Nat.zero_add] at h)
  rcases (show i = 0 ∨ i = 1 ∨ i = 2 ∨ i = 3 ∨ i = 4 ∨ i = 5 ∨ i = 6 ∨ i = 7 ∨ i = 8 ∨ i = 9 ∨ i = 10 ∨ i = 11 ∨ i = 12 ∨ i = 13 ∨ i = 14 ∨ i = 15 ∨ i = 16 ∨ i = 17 ∨ i = 18 by omega) with rfl | rfl | rfl | rfl | rfl | rfl | rfl | rfl | rfl | rfl | rfl | rfl | rfl | rfl | rfl | rfl | rfl | rfl | rfl
  ·cases ho
   simp only [Act.put, List.setIfInBounds_toArray, List.set_cons_zero, List.set_cons_succ] at hK
   clear hs hso
   refine wp_load_mid (P := Try.prog) 45 _ rfl (w.heap.size + 1) 0 rfl [.float .f64 a.sm, .float .f64 a.si, .float .f64 a.sx, .float .f64 a.sy, .float .f64 a.ss] _ (Bo.rng hb hAr (so2_far (by omega) (by omega))) Try.underlying45 rfl (by kernel_rfl) ?_; exact hK.out _ _ rfl (bl_refl _)
  rotate_left 1
  cases ho
  have e1 : s 1 = _ := hs 1 (by decide) (by simp [so2]) (by kernel_rfl)
  simp only [e1] at hK ⊢
  rotate_left 2
  cases ho
  have e3 : s 3 = _ := hs 3 (by decide) (by simp [so2]) (by kernel_rfl)
  simp only [e3] at hK ⊢
  rotate_left 2
  cases ho
  have e5 : s 5 = _ := hs 5 (by decide) (by simp [so2]) (by kernel_rfl)
  simp only [e5] at hK ⊢
  rotate_left 1
  ·cases ho
   have e0 : s 0 = _ := hs 0 (by decide) (by simp [so2]) (by kernel_rfl)
   have e2 : s 2 = _ := hs 2 (by decide) (by simp [so2]) (by kernel_rfl)
   have e4 : s 4 = _ := hs 4 (by decide) (by simp [so2]) (by kernel_rfl)
   have e6 : s 6 = _ := hs 6 (by decide) (by simp [so2]) (by kernel_rfl)
   simp only [e0, e2, e4, e6] at hK ⊢
   simp only [Act.put, List.setIfInBounds_toArray, List.set_cons_zero, List.set_cons_succ] at hK
   clear hs hso
   go_simp
   all_goals (try go_wp2_with (first | (go_at_call 123; (refine (rpushed_w a _ _ _ _ oa oR.1 oR.2.1 oR.2.2.2.2.1 hsa ((isF_r oR.2.2.2.2.2.2.2.2.2.1))).mono ?_); rintro e w' ⟨x1, y1, u1, hx1, hy1, hu1, rfl, hb1⟩)))
   all_goals first | with_reducible exact hK.out _ _ ⟨_, _, _, hx1, hy1, hu1, rfl⟩ hb1 | exact hK.out _ _ ⟨_, _, _, hx1, hy1, hu1, rfl⟩ hb1 | with_reducible exact hK.out _ _ rfl (bl_refl _) | exact hK.out _ _ rfl (bl_refl _)
  ·cases ho
   simp only [Act.put, List.setIfInBounds_toArray, List.set_cons_zero, List.set_cons_succ] at hK
   clear hs hso
   refine wp_load_mid (P := Try.prog) 45 _ rfl (w.heap.size + 1 + 1) 0 rfl [.float .f64 b.sm, .float .f64 b.si, .float .f64 b.sx, .float .f64 b.sy, .float .f64 b.ss] _ (Bo.rng hb hBr (so2_far (by omega) (by omega))) Try.underlying45 rfl (by kernel_rfl) ?_; exact hK.out _ _ rfl (bl_refl _)
  rotate_left 1
  cases ho
  have e9 : s 9 = _ := hs 9 (by decide) (by simp [so2]) (by kernel_rfl)
  simp only [e9] at hK ⊢
  rotate_left 2
  cases ho
  have e11 : s 11 = _ := hs 11 (by decide) (by simp [so2]) (by kernel_rfl)
  simp only [e11] at hK ⊢
  rotate_left 2
  cases ho
  have e13 : s 13 = _ := hs 13 (by decide) (by simp [so2]) (by kernel_rfl)
  simp only [e13] at hK ⊢
  rotate_left 1
  ·cases ho
   have e8 : s 8 = _ := hs 8 (by decide) (by simp [so2]) (by kernel_rfl)
   have e10 : s 10 = _ := hs 10 (by decide) (by simp [so2]) (by kernel_rfl)
   have e12 : s 12 = _ := hs 12 (by decide) (by simp [so2]) (by kernel_rfl)
   have e14 : s 14 = _ := hs 14 (by decide) (by simp [so2]) (by kernel_rfl)
   simp only [e8, e10, e12, e14] at hK ⊢
   simp only [Act.put, List.setIfInBounds_toArray, List.set_cons_zero, List.set_cons_succ] at hK
   clear hs hso
   go_simp
   all_goals (try go_wp2_with (first | (go_at_call 123; (refine (rpushed_w b _ _ _ _ ob oR.2.2.1 oR.2.2.2.1 oR.2.2.2.2.2.1 hsb ((isF_r oR.2.2.2.2.2.2.2.2.2.1))).mono ?_); rintro e w' ⟨x1, y1, u1, hx1, hy1, hu1, rfl, hb1⟩)))
   all_goals first | with_reducible exact hK.out _ _ ⟨_, _, _, hx1, hy1, hu1, rfl⟩ hb1 | exact hK.out _ _ ⟨_, _, _, hx1, hy1, hu1, rfl⟩ hb1 | with_reducible exact hK.out _ _ rfl (bl_refl _) | exact hK.out _ _ rfl (bl_refl _)
  ·simp [so2] at hso
  ·simp [so2] at hso
  rotate_left 1
  all_goals
   try cases ho
   simp only [Act.put, List.setIfInBounds_toArray, List.set_cons_zero, List.set_cons_succ] at hK
   clear hs hso
   go_simp
   all_goals first | with_reducible exact hK.out _ _ rfl (bl_refl _) | exact hK.out _ _ rfl (bl_refl _)
 case hst_rw =>
  intro i o b d hi ho hso s hs W hb K hK
  rcases so2_some hso with ⟨rfl, rfl, rfl⟩ | ⟨rfl, rfl, rfl⟩
  ·cases ho
   obtain ⟨x, y, u, hx, hy, hu, e7⟩ := hs 7 (by decide) (by simp [so2]) (by kernel_rfl)
   simp only [e7] at hK ⊢
   have hth := hb.2.2.2 _ _ _ hth16
   refine wp_store_mid (P := Try.prog) 45 _ _ rfl _ 0 #[.float .f64 a.sm, .float .f64 a.si, .float .f64 x, .float .f64 y, .float .f64 u] rfl rfl hth (by kernel_rfl) (by kernel_rfl) ?_
   exact hK.out [.float .f64 a.sm, .float .f64 a.si, .float .f64 x, .float .f64 y, .float .f64 u] rfl hth
  ·cases ho
   obtain ⟨x2, y2, u2, hx2, hy2, hu2, e15⟩ := hs 15 (by decide) (by simp [so2]) (by kernel_rfl)
   simp only [e15] at hK ⊢
   have hth := hb.2.2.2 _ _ _ hth17
   refine wp_store_mid (P := Try.prog) 45 _ _ rfl _ 0 #[.float .f64 b.sm, .float .f64 b.si, .float .f64 x2, .float .f64 y2, .float .f64 u2] rfl rfl hth (by kernel_rfl) (by kernel_rfl) ?_
   exact hK.out [.float .f64 b.sm, .float .f64 b.si, .float .f64 x2, .float .f64 y2, .float .f64 u2] rfl hth
 case ht_rw =>
  intro s hs W hB9 hb hout
  have e0 : s 0 = _ := hs 0 (by decide) (by simp [so2])
  have e1 : s 1 = _ := hs 1 (by decide) (by simp [so2])
  have e2 : s 2 = _ := hs 2 (by decide) (by simp [so2])
  have e3 : s 3 = _ := hs 3 (by decide) (by simp [so2])
  have e4 : s 4 = _ := hs 4 (by decide) (by simp [so2])
  have e5 : s 5 = _ := hs 5 (by decide) (by simp [so2])
  have e6 : s 6 = _ := hs 6 (by decide) (by simp [so2])
  obtain ⟨x, y, u, hx, hy, hu, e7⟩ := hs 7 (by decide) (by simp [so2])
  have e8 : s 8 = _ := hs 8 (by decide) (by simp [so2])
  have e9 : s 9 = _ := hs 9 (by decide) (by simp [so2])
  have e10 : s 10 = _ := hs 10 (by decide) (by simp [so2])
  have e11 : s 11 = _ := hs 11 (by decide) (by simp [so2])
  have e12 : s 12 = _ := hs 12 (by decide) (by simp [so2])
  have e13 : s 13 = _ := hs 13 (by decide) (by simp [so2])
  have e14 : s 14 = _ := hs 14 (by decide) (by simp [so2])
  obtain ⟨x2, y2, u2, hx2, hy2, hu2, e15⟩ := hs 15 (by decide) (by simp [so2])
  have e18 : s 18 = _ := hs 18 (by decide) (by simp [so2])
  have hr16 : W.rangeAt (w.heap.size + 1 + 1 + 1) 0 [.float .f64 a.sm, .float .f64 a.si, .float .f64 x, .float .f64 y, .float .f64 u] := by obtain ⟨cs, g1, g2⟩ := hout 16 _ _ (by decide) (so2_at0 (by decide)); rw [e7] at g1; injection g1 with g1; have g3 := congrArg Array.toList g1; simp only [List.toList_toArray] at g3; rw [← g3] at g2; exact g2
  have hr17 : W.rangeAt (w.heap.size + 1 + 1 + 1 + 1) 0 [.float .f64 b.sm, .float .f64 b.si, .float .f64 x2, .float .f64 y2, .float .f64 u2] := by obtain ⟨cs, g1, g2⟩ := hout 17 _ _ (by decide) (so2_at1 (by decide)); rw [e15] at g1; injection g1 with g1; have g3 := congrArg Array.toList g1; simp only [List.toList_toArray] at g3; rw [← g3] at g2; exact g2
  simp only [e0, e1, e2, e3, e4, e5, e6, e7, e8, e9, e10, e11, e12, e13, e14, e15, e18]
  clear hs hout e0 e1 e2 e3 e4 e5 e6 e7 e8 e9 e10 e11 e12 e13 e14 e15 e18
  repeat (first | go_values | go_skip | go_guarded | go_step | go_upon | go_back | dsimp only)
  refine bodyPost_ret (results_cct (c := 6) (d := 7) (r := 8) (ty := 45) (ty2 := 45) rfl rfl (run_loadVar_mid _ (w.heap.size + 1 + 1 + 1) 0 45 [.float .f64 a.sm, .float .f64 a.si, .float .f64 x, .float .f64 y, .float .f64 u] _ (hr16) Try.underlying45 rfl (by kernel_rfl)) rfl (run_loadVar_mid _ (w.heap.size + 1 + 1 + 1 + 1) 0 45 [.float .f64 b.sm, .float .f64 b.si, .float .f64 x2, .float .f64 y2, .float .f64 u2] _ (hr17) Try.underlying45 rfl (by kernel_rfl)) rfl) rfl ⟨x, y, u, x2, y2, u2, hx, hy, hu, hx2, hy2, hu2, rfl, hB9⟩

theorem rend_i {x X : Nat} (w : World) (hx : isF x X) : Calls Try.prog 127 #[.float .f64 x] w fun e w' => ∃ n, e = .returned (.bool (finK .f64 X)) ∧ w' = w.drewN n := by
 rw [← fin_is hx]
 exact rEnd_any x w
theorem rclamp_q {x X lo hi : Nat} (w : World) (hx : isF x X) (ol : okK .f64 lo) (oh : okK .f64 hi) (hl : nanK .f64 lo = false) (hh : nanK .f64 hi = false) : Calls Try.prog 126 #[.float .f64 x, .float .f64 lo, .float .f64 hi] w fun e w' => ∃ q, isF q (clK .f64 X lo hi) ∧ e = .returned (.float .f64 q) ∧ w' = w :=
 (rClamp_any x lo hi w hx.1 ol oh).mono fun e w' ⟨he, hw⟩ => ⟨_, cl_isG hx ol oh hl hh, he, hw⟩

end Go.Proofs.Ytfohggiehbplkaa
