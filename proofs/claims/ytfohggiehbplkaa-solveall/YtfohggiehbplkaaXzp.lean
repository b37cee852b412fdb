/-
  What each function of package poly answers, and what the reference of its chapter answers: one contract a function, for every float: the answer stands in the relation of its formula to what was given; of the memory that was there nothing has turned.
-/
import Derived.Test.YtfohggiehbplkaaVec
import Derived.Test.YtfohggiehbplkaaXzn
import Derived.Below
import Derived.OwnWalk
import Derived.Laws.AppendOwn
import Derived.Lib.SliceRun
import Derived.Laws.MakeOwn
import Derived.WalkKit
import Derived.WalkLawsBesides
import Derived.WalkSpells
import Derived.ProofKit
import Derived.OpenShut
import Derived.Deep.RegionHeld3
namespace Go.Proofs.Ytfohggiehbplkaa
open Go.ChangeShapes Go.WideShapes Go.ChangeAt Go.RowKit
set_option linter.unusedVariables false
set_option linter.unusedSimpArgs false


set_option maxRecDepth 100000 in
set_option maxHeartbeats 4000000 in
theorem roff_w (R : RD) (a b : SD) (w : World) (oR : rok R) (oa : sok a) (ob : sok b) (hal : alB R a b = true) : Calls Try.prog 81 #[.agg #[.int .i64 R.ra, .int .i64 R.rb, .float .f64 R.r2, .float .f64 R.r3, .float .f64 R.r4, .float .f64 R.r5, .float .f64 R.r6, .float .f64 R.r7, .float .f64 R.r8, .float .f64 R.r9, .float .f64 R.r10, .float .f64 R.r11, .int .i64 R.ro, .float .f64 R.r13], .agg #[.float .f64 a.sm, .float .f64 a.si, .float .f64 a.sx, .float .f64 a.sy, .float .f64 a.ss], .agg #[.float .f64 b.sm, .float .f64 b.si, .float .f64 b.sx, .float .f64 b.sy, .float .f64 b.ss]] w fun e w' => ∃ r, isF r (offF R a b) ∧ e = .returned (.float .f64 r) ∧ Bel w w' := by
 have c1 := cmp_gt .f64
 have c2 := cmp_lt .f64
 have c3 := cmp_le .f64
 have c4 := cmp_ge .f64
 have c5 := cmp_eq .f64
 have c6 := cmp_le2 .f64
 have c7 := cmp_ge2 .f64
 have q2 := run_sub Try.prog
 have o8 := oR.2.2.2.2.2.2.1
 obtain ⟨_, rfl, hR, hRt, hA, hAt, hBb, hBbt, B0, hz0⟩ := frm0 R a b w
 go_enter Try.func81, Try.ntmps81
 repeat (first | (with_reducible show Oper.wp _ _ _ _ _ _; refine wp_load_mid (P := Try.prog) 43 _ rfl (w.heap.size) 0 rfl [.int .i64 R.ra, .int .i64 R.rb, .float .f64 R.r2, .float .f64 R.r3, .float .f64 R.r4, .float .f64 R.r5, .float .f64 R.r6, .float .f64 R.r7, .float .f64 R.r8, .float .f64 R.r9, .float .f64 R.r10, .float .f64 R.r11, .int .i64 R.ro, .float .f64 R.r13] _ (by with_reducible assumption) Try.underlying43 rfl (by kernel_rfl) ?_; simp only [go_sem]) | (with_reducible show Oper.wp _ _ _ _ _ _; refine wp_load_mid (P := Try.prog) 45 _ rfl (w.heap.size + 1) 0 rfl [.float .f64 a.sm, .float .f64 a.si, .float .f64 a.sx, .float .f64 a.sy, .float .f64 a.ss] _ (by with_reducible assumption) Try.underlying45 rfl (by kernel_rfl) ?_; simp only [go_sem]) | (with_reducible show Oper.wp _ _ _ _ _ _; refine wp_load_mid (P := Try.prog) 45 _ rfl (w.heap.size + 1 + 1) 0 rfl [.float .f64 b.sm, .float .f64 b.si, .float .f64 b.sx, .float .f64 b.sy, .float .f64 b.ss] _ (by with_reducible assumption) Try.underlying45 rfl (by kernel_rfl) ?_; simp only [go_sem]) | (go_at_call 132; (with_reducible refine (rspd_ok R a b _ oR oa ob hal).mono ?_); rintro e w1 ⟨sp, hsp, rfl, hb1⟩; replace hR := rng_bel hR hb1; replace hA := rng_bel hA hb1; replace hBb := rng_bel hBb hb1; replace B0 := bl_trans B0 hb1) | (go_at_call 133; (with_reducible refine (rwgt_ok R a b _ oR oa ob hal).mono ?_); rintro e w2 ⟨wt, hwt, rfl, hb2⟩; replace hR := rng_bel hR hb2; replace hA := rng_bel hA hb2; replace hBb := rng_bel hBb hb2; replace B0 := bl_trans B0 hb2; (have hlk : ∀ W, isF (fv .sub .f64 R.r8 sp W) (lkF R a b) := fun W => o_is W (isF_r o8) hsp); have k8 : w2.cell? ⟨w.heap.size, 8, none⟩ = some (.float .f64 R.r8) := hR 8 _ rfl; generalize hw9 : w2.drewN (fd .sub .f64 R.r8 sp) = w9; have BB9 : Bel w w9 := hw9 ▸ bl_drewN B0 _; have hb9 : Bel w2 w9 := hw9 ▸ bl_drewN (bl_refl _) _; replace hR := rng_bel hR hb9; obtain ⟨p, ep⟩ : ∃ p, fv .sub .f64 R.r8 sp w2 = p := ⟨_, rfl⟩; have hp := hlk w2; rw [ep] at hp; (have j9 : w9.cell? ⟨w.heap.size, 9, none⟩ = some (.float .f64 R.r9) := hR 9 _ rfl); (have j10 : w9.cell? ⟨w.heap.size, 10, none⟩ = some (.float .f64 R.r10) := hR 10 _ rfl); (have j11 : w9.cell? ⟨w.heap.size, 11, none⟩ = some (.float .f64 R.r11) := hR 11 _ rfl); (have E : offF R a b = bif (!ltK .f64 0 wt) || ((ltK .f64 p 0 && leK .f64 R.r11 R.r9) || (ltK .f64 0 p && leK .f64 R.r10 R.r11)) then 0 else bitsK (rgK .f64 (lkF R a b)) := by unfold offF; rw [lt0_is hwt, lt_is hp isF_zero, lt0_is hp]); clear hlk hsp hwt; (rcases (show (ltK .f64 0 wt = false) ∨ (ltK .f64 0 wt = true ∧ ltK .f64 p 0 = true ∧ leK .f64 R.r11 R.r9 = true) ∨ (ltK .f64 0 wt = true ∧ ltK .f64 p 0 = true ∧ leK .f64 R.r11 R.r9 = false ∧ ltK .f64 0 p = false) ∨ (ltK .f64 0 wt = true ∧ ltK .f64 p 0 = true ∧ leK .f64 R.r11 R.r9 = false ∧ ltK .f64 0 p = true ∧ leK .f64 R.r10 R.r11 = true) ∨ (ltK .f64 0 wt = true ∧ ltK .f64 p 0 = true ∧ leK .f64 R.r11 R.r9 = false ∧ ltK .f64 0 p = true ∧ leK .f64 R.r10 R.r11 = false) ∨ (ltK .f64 0 wt = true ∧ ltK .f64 p 0 = false ∧ ltK .f64 0 p = false) ∨ (ltK .f64 0 wt = true ∧ ltK .f64 p 0 = false ∧ ltK .f64 0 p = true ∧ leK .f64 R.r10 R.r11 = true) ∨ (ltK .f64 0 wt = true ∧ ltK .f64 p 0 = false ∧ ltK .f64 0 p = true ∧ leK .f64 R.r10 R.r11 = false) by cases ltK .f64 0 wt <;> cases ltK .f64 p 0 <;> cases leK .f64 R.r11 R.r9 <;> cases ltK .f64 0 p <;> cases leK .f64 R.r10 R.r11 <;> simp) with g1 | ⟨g1, g2, g3⟩ | ⟨g1, g2, g3, g4⟩ | ⟨g1, g2, g3, g4, g5⟩ | ⟨g1, g2, g3, g4, g5⟩ | ⟨g1, g2, g4⟩ | ⟨g1, g2, g4, g5⟩ | ⟨g1, g2, g4, g5⟩)) | go_values | go_skip | go_guarded | go_step | go_upon | go_back | dsimp only)
 all_goals
  repeat (first | (go_at_call 22; refine (abs_any p _ hp.1).mono ?_; rintro e w8 ⟨rfl, hw8⟩; rw [hw8]) | go_values | go_skip | go_guarded | go_step | go_upon | go_back | dsimp only)
  go_ret
  first
   | exact ⟨0, by rw [E]; simp only [*, Bool.not_true, Bool.not_false, Bool.true_or, Bool.or_true, Bool.and_true, Bool.true_and, Bool.and_false, Bool.false_and, Bool.or_false, Bool.false_or, cond_true, cond_false]; exact isF_zero, rfl, BB9⟩
   | exact ⟨_, by rw [E]; simp only [*, Bool.not_true, Bool.not_false, Bool.true_or, Bool.or_true, Bool.and_true, Bool.true_and, Bool.and_false, Bool.false_and, Bool.or_false, Bool.false_or, cond_true, cond_false]; exact rg_isF hp, rfl, BB9⟩
set_option maxRecDepth 100000 in
set_option maxHeartbeats 4000000 in
theorem rleft_bad (rb ro rn rc_ : Nat) (rs : Option Addr) (Q : Nat → RD) (sb so sn sc_ : Nat) (ss : Option Addr) (S : Nat → SD) (w : World) (hrs : rn = 0 ∨ rs = some ⟨rb, ro, none⟩) (hrc : rn ≤ rc_) (hrm : rc_ ≤ maxLen) (hr : Rws w rb ro rn Q) (or_ : ∀ i, i < rn → rok (Q i)) (hss : sn = 0 ∨ ss = some ⟨sb, so, none⟩) (hsc : sn ≤ sc_) (hsm : sc_ ≤ maxLen) (hs : Sts w sb so sn S) (os : ∀ i, i < sn → sok (S i)) (er : Int) (he : asE Q rn S sn = er) (h0 : er ≠ 0) : Calls Try.prog 34 #[.slice rs rn rc_, .slice ss sn sc_] w fun e w' => e = .returned (.tuple #[.float .f64 0, .int .i64 er]) ∧ Bel w w' := by
 have h1 : (er == 0) = false := by simp [h0]
 go_enter Try.func34, Try.ntmps34
 repeat (first | (go_at_call 75; (with_reducible refine (asked21 rb ro rn rc_ rs Q sb so sn sc_ ss S _ hrs hrc hrm hr or_ hss hsc hsm hs os).mono ?_); rintro e wA ⟨rfl, hbA⟩; rw [he]) | go_values | go_skip | go_guarded | go_step | go_upon | go_back | dsimp only)
 refine bodyPost_ret (v := .tuple #[.float .f64 0, .int .i64 er]) (by kernel_rfl) rfl ?_
 exact ⟨rfl, hbA⟩
set_option maxRecDepth 100000 in
set_option maxHeartbeats 4000000 in
theorem rleft_ok (rb ro rn rc_ : Nat) (rs : Option Addr) (Q : Nat → RD) (sb so sn sc_ : Nat) (ss : Option Addr) (S : Nat → SD) (w : World) (hrs : rn = 0 ∨ rs = some ⟨rb, ro, none⟩) (hrc : rn ≤ rc_) (hrm : rc_ ≤ maxLen) (hr : Rws w rb ro rn Q) (or_ : ∀ i, i < rn → rok (Q i)) (hss : sn = 0 ∨ ss = some ⟨sb, so, none⟩) (hsc : sn ≤ sc_) (hsm : sc_ ≤ maxLen) (hs : Sts w sb so sn S) (os : ∀ i, i < sn → sok (S i)) (he : asE Q rn S sn = 0) : Calls Try.prog 34 #[.slice rs rn rc_, .slice ss sn sc_] w fun e w' => ∃ x, isF x (leM Q S rn) ∧ e = .returned (.tuple #[.float .f64 x, .int .i64 0]) ∧ Bel w w' := by
 obtain ⟨hl1, hl2, hch, hst⟩ := asE_zero he
 unfold maxLen at hrm hsm
 go_enter Try.func34, Try.ntmps34
 repeat (first | (go_at_call 75; (with_reducible refine (asked21 rb ro rn rc_ rs Q sb so sn sc_ ss S _ hrs hrc (by unfold maxLen; exact hrm) hr or_ hss hsc (by unfold maxLen; exact hsm) hs os).mono ?_); rintro e wA ⟨rfl, hbA⟩; rw [he]) | go_values | go_skip | go_guarded | go_step | go_upon | go_back | dsimp only)
 go_loopw [8, 7] (fun i m wr => ∃ (k : Nat) (x : Nat), k ≤ rn ∧ i = .int .i64 k ∧ m = .float .f64 x ∧ isF x (leM Q S k) ∧ Bel w wr) (fun i _ _ => rn - (intOf i).toNat)
 case atStart => exact ⟨0, 0, by omega, rfl, rfl, isF_zero, hbA⟩
 case round =>
  obtain ⟨k, x, hk, rfl, rfl, hx, hB⟩ := hrel
  by_cases hlt : k < rn
  ·have e9 : rs = some ⟨rb, ro, none⟩ := by rcases hrs with h | h; omega; exact h
   subst e9
   have hc := hch k hlt
   unfold chB at hc
   simp only [Bool.and_eq_true, decide_eq_true_eq] at hc
   obtain ⟨hmay, hc1, hc2, hc3⟩ := hc
   have hA0 : 0 ≤ (Q k).ra := by unfold mayB at hmay; simp only [Bool.and_eq_true, decide_eq_true_eq] at hmay; exact hmay.1
   have hB0 : 0 ≤ (Q k).rb := by unfold mayB at hmay; simp only [Bool.and_eq_true, decide_eq_true_eq] at hmay; exact hmay.2.1
   have e10 : ss = some ⟨sb, so, none⟩ := by rcases hss with h | h; omega; exact h
   subst e10
   have halk : alB (Q k) (S ((Q k).ra.toNat)) (S ((Q k).rb.toNat)) = true := by unfold alB; rw [hmay, hst _ (by omega), hst _ (by omega)]; rfl
   have hAn : (Q k).ra.toNat < sn := by omega
   have hBn : (Q k).rb.toNat < sn := by omega
   have hRk : wr.rangeAt rb (ro + k * 14) [.int .i64 (Q k).ra, .int .i64 (Q k).rb, .float .f64 (Q k).r2, .float .f64 (Q k).r3, .float .f64 (Q k).r4, .float .f64 (Q k).r5, .float .f64 (Q k).r6, .float .f64 (Q k).r7, .float .f64 (Q k).r8, .float .f64 (Q k).r9, .float .f64 (Q k).r10, .float .f64 (Q k).r11, .int .i64 (Q k).ro, .float .f64 (Q k).r13] := (hr.bel hB) k hlt
   have hA9 : wr.rangeAt sb (so + (Q k).ra.toNat * 5) [.float .f64 (S ((Q k).ra.toNat)).sm, .float .f64 (S ((Q k).ra.toNat)).si, .float .f64 (S ((Q k).ra.toNat)).sx, .float .f64 (S ((Q k).ra.toNat)).sy, .float .f64 (S ((Q k).ra.toNat)).ss] := (hs.bel hB) _ hAn
   have hB9 : wr.rangeAt sb (so + (Q k).rb.toNat * 5) [.float .f64 (S ((Q k).rb.toNat)).sm, .float .f64 (S ((Q k).rb.toNat)).si, .float .f64 (S ((Q k).rb.toNat)).sx, .float .f64 (S ((Q k).rb.toNat)).sy, .float .f64 (S ((Q k).rb.toNat)).ss] := (hs.bel hB) _ hBn
   have c0 : wr.cell? ⟨rb, ro + k * 14, none⟩ = some (.int .i64 (Q k).ra) := hRk 0 _ rfl
   have c1 : wr.cell? ⟨rb, ro + k * 14 + 1, none⟩ = some (.int .i64 (Q k).rb) := hRk 1 _ rfl
   have hkI : (k : Int) < (rn : Int) := by omega
   have okk := or_ k hlt
   have oA := os _ hAn
   have oB := os _ hBn
   repeat (first | go_values | go_skip | go_guarded | go_step | go_upon | go_back | dsimp only)
   refine wp_region_multiA 23 (fun i v => match i with | 0 => v = .float .f64 x | 1 => v = .slice (some ⟨rb, ro, none⟩) rn rc_ | 2 => v = .int .i64 (k : Int) | 3 => v = .pointer (some ⟨rb, ro + k * 14, none⟩) | 4 => v = .agg #[.int .i64 (Q k).ra, .int .i64 (Q k).rb, .float .f64 (Q k).r2, .float .f64 (Q k).r3, .float .f64 (Q k).r4, .float .f64 (Q k).r5, .float .f64 (Q k).r6, .float .f64 (Q k).r7, .float .f64 (Q k).r8, .float .f64 (Q k).r9, .float .f64 (Q k).r10, .float .f64 (Q k).r11, .int .i64 (Q k).ro, .float .f64 (Q k).r13] | 5 => v = .slice (some ⟨sb, so, none⟩) sn sc_ | 6 => v = .slice (some ⟨rb, ro, none⟩) rn rc_ | 7 => v = .int .i64 (k : Int) | 8 => v = .pointer (some ⟨rb, ro + k * 14, none⟩) | 9 => v = .pointer (some ⟨rb, ro + k * 14, none⟩) | 10 => v = .int .i64 (Q k).ra | 11 => v = .pointer (some ⟨sb, so + (Q k).ra.toNat * 5, none⟩) | 12 => v = .agg #[.float .f64 (S ((Q k).ra.toNat)).sm, .float .f64 (S ((Q k).ra.toNat)).si, .float .f64 (S ((Q k).ra.toNat)).sx, .float .f64 (S ((Q k).ra.toNat)).sy, .float .f64 (S ((Q k).ra.toNat)).ss] | 13 => v = .slice (some ⟨sb, so, none⟩) sn sc_ | 14 => v = .slice (some ⟨rb, ro, none⟩) rn rc_ | 15 => v = .int .i64 (k : Int) | 16 => v = .pointer (some ⟨rb, ro + k * 14, none⟩) | 17 => v = .pointer (some ⟨rb, ro + k * 14 + 1, none⟩) | 18 => v = .int .i64 (Q k).rb | 19 => v = .pointer (some ⟨sb, so + (Q k).rb.toNat * 5, none⟩) | 20 => v = .agg #[.float .f64 (S ((Q k).rb.toNat)).sm, .float .f64 (S ((Q k).rb.toNat)).si, .float .f64 (S ((Q k).rb.toNat)).sx, .float .f64 (S ((Q k).rb.toNat)).sy, .float .f64 (S ((Q k).rb.toNat)).ss] | 21 => ∃ p, isF p (offF (Q k) (S ((Q k).ra.toNat)) (S ((Q k).rb.toNat))) ∧ v = .float .f64 p | 22 => ∃ p, isF p (mostK .f64 (leM Q S k) (offF (Q k) (S ((Q k).ra.toNat)) (S ((Q k).rb.toNat)))) ∧ v = .float .f64 p | _ => False) (fun _ => none) ?A_w8 (by kernel_rfl) (by kernel_rfl) ?hA_w8 ?ha_w8 ?hq_w8 [23] rfl ?ht_w8
   case hA_w8 =>
    intro s
    simp only [putL, dstO, Act.put, List.getElem?_toArray, List.getElem?_cons_zero, List.getElem?_cons_succ, Option.bind_some, List.setIfInBounds_toArray, List.set_cons_zero, List.set_cons_succ, if_true]
    all_goals exact rfl
   case ha_w8 =>
    intro i o ob hi ho hal
    cases hal
   case hq_w8 =>
    intro i o hi ho hal s hs W hb K hK
    have u0 := keep hb c0; have u1 := keep hb c1
    rcases (show i = 0 ∨ i = 1 ∨ i = 2 ∨ i = 3 ∨ i = 4 ∨ i = 5 ∨ i = 6 ∨ i = 7 ∨ i = 8 ∨ i = 9 ∨ i = 10 ∨ i = 11 ∨ i = 12 ∨ i = 13 ∨ i = 14 ∨ i = 15 ∨ i = 16 ∨ i = 17 ∨ i = 18 ∨ i = 19 ∨ i = 20 ∨ i = 21 ∨ i = 22 by omega) with rfl | rfl | rfl | rfl | rfl | rfl | rfl | rfl | rfl | rfl | rfl | rfl | rfl | rfl | rfl | rfl | rfl | rfl | rfl | rfl | rfl | rfl | rfl
    rotate_left 3
    cases ho
    have e1 : s 1 = _ := hs 1 (by decide) (by kernel_rfl)
    have e2 : s 2 = _ := hs 2 (by decide) (by kernel_rfl)
    simp only [e1, e2] at hK ⊢
    rotate_left 1
    ·cases ho
     have e3 : s 3 = _ := hs 3 (by decide) (by kernel_rfl)
     simp only [e3] at hK ⊢
     simp only [Act.put, List.setIfInBounds_toArray, List.set_cons_zero, List.set_cons_succ] at hK
     clear hs
     refine wp_load_mid (P := Try.prog) 43 _ rfl _ _ rfl [.int .i64 (Q k).ra, .int .i64 (Q k).rb, .float .f64 (Q k).r2, .float .f64 (Q k).r3, .float .f64 (Q k).r4, .float .f64 (Q k).r5, .float .f64 (Q k).r6, .float .f64 (Q k).r7, .float .f64 (Q k).r8, .float .f64 (Q k).r9, .float .f64 (Q k).r10, .float .f64 (Q k).r11, .int .i64 (Q k).ro, .float .f64 (Q k).r13] _ (rng_bel hRk hb) Try.underlying43 rfl (by kernel_rfl) ?_; exact hK.out _ _ rfl (bl_refl _)
    rotate_left 3
    cases ho
    have e6 : s 6 = _ := hs 6 (by decide) (by kernel_rfl)
    have e7 : s 7 = _ := hs 7 (by decide) (by kernel_rfl)
    simp only [e6, e7] at hK ⊢
    rotate_left 1
    cases ho
    have e8 : s 8 = _ := hs 8 (by decide) (by kernel_rfl)
    simp only [e8] at hK ⊢
    rotate_left 1
    cases ho
    have e9 : s 9 = _ := hs 9 (by decide) (by kernel_rfl)
    simp only [e9] at hK ⊢
    rotate_left 1
    cases ho
    have e5 : s 5 = _ := hs 5 (by decide) (by kernel_rfl)
    have e10 : s 10 = _ := hs 10 (by decide) (by kernel_rfl)
    simp only [e5, e10] at hK ⊢
    rotate_left 1
    ·cases ho
     have e11 : s 11 = _ := hs 11 (by decide) (by kernel_rfl)
     simp only [e11] at hK ⊢
     simp only [Act.put, List.setIfInBounds_toArray, List.set_cons_zero, List.set_cons_succ] at hK
     clear hs
     refine wp_load_mid (P := Try.prog) 45 _ rfl _ _ rfl [.float .f64 (S ((Q k).ra.toNat)).sm, .float .f64 (S ((Q k).ra.toNat)).si, .float .f64 (S ((Q k).ra.toNat)).sx, .float .f64 (S ((Q k).ra.toNat)).sy, .float .f64 (S ((Q k).ra.toNat)).ss] _ (rng_bel hA9 hb) Try.underlying45 rfl (by kernel_rfl) ?_; exact hK.out _ _ rfl (bl_refl _)
    rotate_left 3
    cases ho
    have e14 : s 14 = _ := hs 14 (by decide) (by kernel_rfl)
    have e15 : s 15 = _ := hs 15 (by decide) (by kernel_rfl)
    simp only [e14, e15] at hK ⊢
    rotate_left 1
    cases ho
    have e16 : s 16 = _ := hs 16 (by decide) (by kernel_rfl)
    simp only [e16] at hK ⊢
    rotate_left 1
    cases ho
    have e17 : s 17 = _ := hs 17 (by decide) (by kernel_rfl)
    simp only [e17] at hK ⊢
    rotate_left 1
    cases ho
    have e13 : s 13 = _ := hs 13 (by decide) (by kernel_rfl)
    have e18 : s 18 = _ := hs 18 (by decide) (by kernel_rfl)
    simp only [e13, e18] at hK ⊢
    rotate_left 1
    ·cases ho
     have e19 : s 19 = _ := hs 19 (by decide) (by kernel_rfl)
     simp only [e19] at hK ⊢
     simp only [Act.put, List.setIfInBounds_toArray, List.set_cons_zero, List.set_cons_succ] at hK
     clear hs
     refine wp_load_mid (P := Try.prog) 45 _ rfl _ _ rfl [.float .f64 (S ((Q k).rb.toNat)).sm, .float .f64 (S ((Q k).rb.toNat)).si, .float .f64 (S ((Q k).rb.toNat)).sx, .float .f64 (S ((Q k).rb.toNat)).sy, .float .f64 (S ((Q k).rb.toNat)).ss] _ (rng_bel hB9 hb) Try.underlying45 rfl (by kernel_rfl) ?_; exact hK.out _ _ rfl (bl_refl _)
    ·cases ho
     have e4 : s 4 = _ := hs 4 (by decide) (by kernel_rfl)
     have e12 : s 12 = _ := hs 12 (by decide) (by kernel_rfl)
     have e20 : s 20 = _ := hs 20 (by decide) (by kernel_rfl)
     simp only [e4, e12, e20] at hK ⊢
     simp only [Act.put, List.setIfInBounds_toArray, List.set_cons_zero, List.set_cons_succ] at hK
     clear hs
     go_simp
     all_goals (try go_wp2_with (first | (go_at_call 81; (with_reducible refine (roff_w (Q k) (S ((Q k).ra.toNat)) (S ((Q k).rb.toNat)) _ okk oA oB halk).mono ?_); rintro e w' ⟨r, hr, rfl, hb1⟩)))
     all_goals first | with_reducible exact hK.out _ _ ⟨_, hr, rfl⟩ hb1 | exact hK.out _ _ ⟨_, hr, rfl⟩ hb1 | with_reducible exact hK.out _ _ rfl (bl_refl _) | exact hK.out _ _ rfl (bl_refl _)
    ·cases ho
     have e0 : s 0 = _ := hs 0 (by decide) (by kernel_rfl)
     obtain ⟨p21, h21, e21⟩ := hs 21 (by decide) (by kernel_rfl)
     simp only [e0, e21] at hK ⊢
     simp only [Act.put, List.setIfInBounds_toArray, List.set_cons_zero, List.set_cons_succ] at hK
     clear hs
     go_simp
     all_goals (try go_wp2_with (first | (go_at_call 80; have hxo := hx.1; have h21o := h21.1; (with_reducible refine (rMost_any _ _ _ hxo h21o).mono ?_); rintro e w' ⟨rfl, rfl⟩)))
     all_goals first | with_reducible exact hK.out _ _ ⟨_, most_isF hx h21, rfl⟩ (bl_refl _) | exact hK.out _ _ ⟨_, most_isF hx h21, rfl⟩ (bl_refl _) | with_reducible exact hK.out _ _ rfl (bl_refl _) | exact hK.out _ _ rfl (bl_refl _)
    all_goals
     try cases ho
     simp only [Act.put, List.setIfInBounds_toArray, List.set_cons_zero, List.set_cons_succ] at hK
     clear hs
     go_simp
     all_goals first | with_reducible exact hK.out _ _ rfl (bl_refl _) | exact hK.out _ _ rfl (bl_refl _)
   case ht_w8 =>
    intro s hs W hb hJ
    clear hJ
    have e0 : s 0 = _ := hs 0 (by decide)
    have e1 : s 1 = _ := hs 1 (by decide)
    have e2 : s 2 = _ := hs 2 (by decide)
    have e3 : s 3 = _ := hs 3 (by decide)
    have e4 : s 4 = _ := hs 4 (by decide)
    have e5 : s 5 = _ := hs 5 (by decide)
    have e6 : s 6 = _ := hs 6 (by decide)
    have e7 : s 7 = _ := hs 7 (by decide)
    have e8 : s 8 = _ := hs 8 (by decide)
    have e9 : s 9 = _ := hs 9 (by decide)
    have e10 : s 10 = _ := hs 10 (by decide)
    have e11 : s 11 = _ := hs 11 (by decide)
    have e12 : s 12 = _ := hs 12 (by decide)
    have e13 : s 13 = _ := hs 13 (by decide)
    have e14 : s 14 = _ := hs 14 (by decide)
    have e15 : s 15 = _ := hs 15 (by decide)
    have e16 : s 16 = _ := hs 16 (by decide)
    have e17 : s 17 = _ := hs 17 (by decide)
    have e18 : s 18 = _ := hs 18 (by decide)
    have e19 : s 19 = _ := hs 19 (by decide)
    have e20 : s 20 = _ := hs 20 (by decide)
    obtain ⟨p21, h21, e21⟩ := hs 21 (by decide)
    obtain ⟨p22, h22, e22⟩ := hs 22 (by decide)
    simp only [e0, e1, e2, e3, e4, e5, e6, e7, e8, e9, e10, e11, e12, e13, e14, e15, e16, e17, e18, e19, e20, e21, e22]
    clear hs e0 e1 e2 e3 e4 e5 e6 e7 e8 e9 e10 e11 e12 e13 e14 e15 e16 e17 e18 e19 e20 e21 e22
    refine tail_step rfl (fun K hK => ?_)
    go_simp
    refine hK.out _ _ ?_
    clear hK K
    refine tail_end ?_
    repeat (first | go_values | go_skip | go_guarded | go_step | go_upon | go_back | dsimp only)
    exact ⟨⟨k + 1, _, by omega, by go_num, rfl, h22, bl_trans hB hb⟩, by simp [intOf]; omega⟩
  ·have hkn : k = rn := by omega
   subst hkn
   repeat (first | go_values | go_skip | go_guarded | go_step | go_upon | go_back | dsimp only)
   refine bodyPost_ret (v := .tuple #[.float .f64 x, .int .i64 0]) (by kernel_rfl) rfl ?_
   exact ⟨x, hx, rfl, hB⟩

end Go.Proofs.Ytfohggiehbplkaa
